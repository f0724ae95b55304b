/- The data of a port, by the program and by definition: the variables from the port's first on, in a list of the call's own (conditions: the port is there; its first variable is no more than 2^61 from 0; a word has from 0 to 1000 bits). -/
import Derived.Test.YtchnpooijaalnaaNetTests
import Derived.Test.YtchnpooijaalnaaApp
namespace Go.Proofs.Ytchnpooijaalnaa
open Go.ChangeShapes Go.WideShapes Go.RowKit
set_option linter.unusedVariables false

theorem wordBits_any (x : PMem) (a : Option Addr) (c : Nat) (a2 : Option Addr) (c2 : Nat) (w : World) (h : 0 ≤ x.mw ∧ x.mw ≤ 64) :
    Calls Try.prog 70 #[.agg #[.int .i64 x.ma, .int .i64 x.mw, .bool x.mn, .slice a x.mr.length c, .slice a2 x.mx.length c2]] w fun e w' => e = .returned (.int .i64 x.mw) ∧ Below w.heap.size w w' := by
  obtain ⟨h1, h2⟩ := h
  go_enter Try.func70, Try.ntmps70
  go_wp2
  go_ret
  exact ⟨ret_int (by omega), below_box _ _ _⟩

set_option maxHeartbeats 1000000 in
theorem data_any (x : PMem) (a : Option Addr) (c : Nat) (a2 : Option Addr) (c2 : Nat) (k : Nat) (r : PRead) (w : World) (h : Ports w w.heap.size a c a2 c2 x) (hk : x.mr[k]? = some r) (hn : x.mr.length ≤ 1000000)
    (hw : 0 ≤ x.mw ∧ x.mw ≤ 64) (hv : -2305843009213693952 ≤ r.rv ∧ r.rv ≤ 2305843009213693952) :
    Calls Try.prog 52 #[.agg #[.int .i64 x.ma, .int .i64 x.mw, .bool x.mn, .slice a x.mr.length c, .slice a2 x.mx.length c2], .int .i64 (k : Int)] w (Left w (dataL r.rv x.mw)) := by
  obtain ⟨hv1, hv2⟩ := hv
  have hbx := below_box w #[.int .i64 x.ma, .int .i64 x.mw, .bool x.mn, .slice a x.mr.length c, .slice a2 x.mx.length c2] 56
  have hM := memBox_new w x a c a2 c2 56
  have hP := Ports.below hbx (Nat.le_refl _) h
  have hlt := lt_of_some hk
  obtain ⟨b, o, rfl, hbB, hcell⟩ := hP.1.at hk
  obtain ⟨ra, rc, r0, r1, _⟩ := hcell k r hk
  have hwb := wordBits_any x (some ⟨b, o, none⟩) c a2 c2 (w.alloc (.cells #[.int .i64 x.ma, .int .i64 x.mw, .bool x.mn, .slice (some ⟨b, o, none⟩) x.mr.length c, .slice a2 x.mx.length c2] 56)) hw
  obtain ⟨hw1, hw2⟩ := hw
  have HB := Lib.hid (And.intro hbx hM)
  have HWB := Lib.hid hwb
  have hkI : (0 : Int) ≤ (k : Int) ∧ (k : Int) ≤ (x.mr.length : Int) - 1 := by omega
  have hkl : (k : Int) < (x.mr.length : Int) := by omega
  clear hbx hM hP h hcell hk hwb
  go_enter Try.func52, Try.ntmps52
  go_wp2_with (first | (go_at_call 45; refine (within_yes _ _ _ _ hkI).mono ?_; rintro e w' ⟨rfl, rfl⟩) | (go_at_call 70; refine HWB.out.mono ?_; rintro e w2 ⟨rfl, hb2⟩))
  have HB2 := Lib.hid (below_on HB.out.1 hb2)
  clear hb2 hkI hkl r0 r1
  go_loopg [6, 23] x.mw.toNat (fun m s6 s23 wx => ∃ j : Nat, j + m = x.mw.toNat ∧ s23 = .int .i64 j ∧ Own w2.heap.size w2 wx s6 (dataL r.rv (j : Int)))
  case atStart => exact ⟨0, by omega, rfl, by rw [dataL_nil _ _ (by omega)]; exact Own.nil _ _ (Nat.le_refl _)⟩
  case round =>
    obtain ⟨j, hj, rfl, hO⟩ := hrel
    generalize gk = m at *
    by_cases hjl : (j : Int) < x.mw
    · have hj1 : decide (9223372036854775807 - (j : Int) < r.rv) = false := by simp; omega
      have hj0 : (j : Int) ≤ 1000 := by omega
      have hl : (dataL r.rv (j : Int)).length ≤ 1000000 := by rw [dataL_len]; omega
      have HS := Lib.hid (dataL_snoc r.rv j)
      go_wp2_with (at_builtin; refine wpl_one rfl _ _ rfl rfl hO rfl hl ?_; intro v' w' hO2 hW)
      go_roundg (m - 1)
      case measure => omega
      case rel => exact ⟨j + 1, by omega, by first | rfl | simp, by rw [HS.out]; exact hO2⟩
    · have HJ := Lib.hid (show (j : Int) = x.mw by omega)
      have hjn : ¬ ((j : Int) < x.mw) := hjl
      go_wp2
      go_ret
      exact ⟨_, rfl, own_cast (hO.down HB2.out HB2.out.size) (by rw [HJ.out])⟩

set_option maxHeartbeats 1000000 in
theorem rdata_any (x : PMem) (a : Option Addr) (c : Nat) (a2 : Option Addr) (c2 : Nat) (k : Nat) (r : PRead) (w : World) (h : Ports w w.heap.size a c a2 c2 x) (hk : x.mr[k]? = some r) (hn : x.mr.length ≤ 1000000)
    (hw : 0 ≤ x.mw ∧ x.mw ≤ 1000) (hv : -2305843009213693952 ≤ r.rv ∧ r.rv ≤ 2305843009213693952) :
    Calls Try.prog 19 #[.agg #[.int .i64 x.ma, .int .i64 x.mw, .bool x.mn, .slice a x.mr.length c, .slice a2 x.mx.length c2], .int .i64 (k : Int)] w (Left w (dataL r.rv x.mw)) := by
  obtain ⟨hv1, hv2⟩ := hv
  have hbx := below_box w #[.int .i64 x.ma, .int .i64 x.mw, .bool x.mn, .slice a x.mr.length c, .slice a2 x.mx.length c2] 56
  have hM := memBox_new w x a c a2 c2 56
  have hP := Ports.below hbx (Nat.le_refl _) h
  have hlt := lt_of_some hk
  have hkI : (k : Int) < (x.mr.length : Int) := by omega
  have hk1 : decide (x.mr.length ≤ k) = false := by simp; omega
  have hk2 : decide ((k : Int) < 0) = false := by simp
  obtain ⟨hw1, hw2⟩ := hw
  go_enter Try.func19, Try.ntmps19
  go_wp2
  generalize w.alloc (.cells #[.int .i64 x.ma, .int .i64 x.mw, .bool x.mn, .slice a x.mr.length c, .slice a2 x.mx.length c2] 56) = w2 at hbx hM hP ⊢
  have HB2 := Lib.hid (And.intro hbx (And.intro hM (And.intro hP hk)))
  clear hbx hM hP h hk
  go_loopg [5, 6] x.mw.toNat (fun m s5 s6 wx => ∃ j : Nat, j + m = x.mw.toNat ∧ s6 = .int .i64 j ∧ Own w2.heap.size w2 wx s5 (dataL r.rv (j : Int)))
  case atStart => exact ⟨0, by omega, rfl, by rw [dataL_nil _ _ (by omega)]; exact Own.nil _ _ (Nat.le_refl _)⟩
  case round =>
    obtain ⟨j, hj, rfl, hO⟩ := hrel
    generalize gk = m at *
    obtain ⟨e0, e1, e2, e3, e4, e5⟩ := HB2.out.2.1.below hO.2.1 HB2.out.2.1.lt
    have hP := Ports.below hO.2.1 (by have := HB2.out.1.size; omega) HB2.out.2.2.1
    obtain ⟨b, o, hS, hbB, hcell⟩ := hP.1.at HB2.out.2.2.2
    obtain ⟨ra, rc, r0, r1, _⟩ := hcell k r HB2.out.2.2.2
    rw [hS] at e3
    clear hS hcell hP
    by_cases hjl : (j : Int) < x.mw
    · have hj0 : (j : Int) ≤ 1000 := by omega
      have hl : (dataL r.rv (j : Int)).length ≤ 1000000 := by rw [dataL_len]; omega
      have HS := Lib.hid (dataL_snoc r.rv j)
      go_wp2_with (at_builtin; refine wpl_one rfl _ _ rfl rfl hO rfl hl ?_; intro v' w' hO2 hW)
      go_roundg (m - 1)
      case measure => omega
      case rel => exact ⟨j + 1, by omega, by first | rfl | simp, by rw [HS.out]; exact hO2⟩
    · have HJ := Lib.hid (show (j : Int) = x.mw by omega)
      have hjn : ¬ ((j : Int) < x.mw) := hjl
      go_wp2
      go_ret
      exact ⟨_, rfl, own_cast (hO.down HB2.out.1 HB2.out.1.size) (by rw [HJ.out])⟩
end Go.Proofs.Ytchnpooijaalnaa
