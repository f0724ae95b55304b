/- The chapter's example comes out right; an error of a kind, wrapped any number of times up to 30, by contracts (condition: the library's one variable is laid). -/
import Derived.Test.YtmoikkdaigepcaaDoorFaults
import Derived.RowKit
namespace Go.Proofs.YtmoikkdaigepcaaDoor
open Go.RowKit Go.Extern.Stop Go.Stop Go.Extern
set_option linter.unusedVariables false

theorem alive2_any (w : World) (hL : Laid w) :
    Calls Tryd.prog 6 #[] w (fun e w' => e = .returned (.bool true) ∧ Below w.heap.size w w') := by
  have h1 := Lib.hid (New_any 8 5 (by decide))
  have h2 := Lib.hid (fun L => Wrap_any L 8 9)
  have h3 := Lib.hid (fun L => Told_any L (some 8))
  have h4 := Lib.hid (fun L => Depth_any L (some 8))
  have h5 := Lib.hid (fun L => Is_any L 8 8)
  have h6 := Lib.hid (fun L => Is_any L 8 9)
  go_enter Tryd.func6, Tryd.ntmps6
  go_wp2_with fail
  refine (h1.out _).mono ?_
  rintro e wa ⟨b1, rfl, hb, hc⟩
  have B1 := Lib.hid hb
  have C1 := Lib.hid hc
  have L1 := Lib.hid (hL.below hb hL.pos)
  clear hb hc
  go_wp2_with fail
  refine (h2.out _ _ _ (by simp) L1.out C1.out).mono ?_
  rintro e wb ⟨b2, rfl, hb, hc⟩
  have B2 := Lib.hid (B1.out.trans (hb.mono B1.out.size))
  have C2 := Lib.hid hc
  have L2 := Lib.hid (L1.out.below hb L1.out.pos)
  clear hb hc
  go_wp2_with fail
  refine (h3.out _ _ _ (by simp) L2.out C2.out).mono ?_
  rintro e wc ⟨rfl, hb⟩
  have B3 := Lib.hid (B2.out.trans (hb.mono B2.out.size))
  have C3 := Lib.hid (C2.out.below hb C2.out.lt)
  have L3 := Lib.hid (L2.out.below hb L2.out.pos)
  clear hb
  unfold two
  simp only [inmost]
  go_wp2_with fail
  refine (h4.out _ _ _ (by simp) L3.out C3.out).mono ?_
  rintro e wd ⟨rfl, hb⟩
  have B4 := Lib.hid (B3.out.trans (hb.mono B3.out.size))
  have C4 := Lib.hid (C3.out.below hb C3.out.lt)
  have L4 := Lib.hid (L3.out.below hb L3.out.pos)
  clear hb
  simp only [List.length_cons, List.length_nil]
  go_wp2_with fail
  refine (h5.out _ _ _ (by simp) L4.out C4.out).mono ?_
  rintro e we ⟨rfl, hb⟩
  have B5 := Lib.hid (B4.out.trans (hb.mono B4.out.size))
  have C5 := Lib.hid (C4.out.below hb C4.out.lt)
  have L5 := Lib.hid (L4.out.below hb L4.out.pos)
  clear hb
  go_wp2_with fail
  refine (h6.out _ _ _ (by simp) L5.out C5.out).mono ?_
  rintro e wf ⟨rfl, hb⟩
  have B6 := Lib.hid (B5.out.trans (hb.mono B5.out.size))
  clear hb
  go_wp2_with fail
  go_ret
  exact ⟨rfl, B6.out⟩

/-- What 'made' leaves of a kind that is not OK. -/
def Made (w : World) (n : Nat) (k a : Int) (e : Ending) (w' : World) : Prop :=
  ∃ B L, e = .returned (.iface 35 (.pointer (some ⟨B, 0, none⟩))) ∧ Below w.heap.size w w' ∧ L.length = n + 1 ∧ Chain w' (under (some k)) L (.iface 35 (.pointer (some ⟨B, 0, none⟩))) ∧ ∀ d, inmost d L = (k, a)

theorem made_any (k a : Int) (hk : k ≠ 0) (b off c : Nat) (xs : List Int) (w : World) (hn : xs.length ≤ 30) (h0 : 0 < xs.length) (hL : Laid w) (hb : b < w.heap.size)
    (hc : ∀ j, j < xs.length → w.cell? ⟨b, off + j, none⟩ = some (.int .i64 (xs.getD j 0))) :
    Calls Tryd.prog 7 #[.int .i64 k, .int .i64 a, .slice (some ⟨b, off, none⟩) xs.length c] w (Made w xs.length k a) := by
  have HC := Lib.hid hc
  have h1 := Lib.hid (New_any k a hk w)
  have h2 := Lib.hid (fun L a => Wrap_any L k a)
  clear hc hk
  go_enter Tryd.func7, Tryd.ntmps7
  go_wp2_with fail
  refine h1.out.mono ?_
  rintro e wa ⟨b1, rfl, hb1, hc1⟩
  have B1 := Lib.hid hb1
  have C1 := Lib.hid hc1
  clear hb1 hc1
  go_wp2_with fail
  go_loopg [7, 8] xs.length (fun m s7 s8 wx => ∃ (i B : Nat) (L : List (Nat × Int × Int)), i + m = xs.length ∧ s8 = .int .i64 i ∧ s7 = .iface 35 (.pointer (some ⟨B, 0, none⟩)) ∧
    Aside (Below w.heap.size w wx ∧ L.length = i + 1 ∧ Chain wx (under (some k)) L (.iface 35 (.pointer (some ⟨B, 0, none⟩))) ∧ ∀ d, inmost d L = (k, a)))
  case atStart => exact ⟨0, b1, _, by omega, rfl, rfl, B1.out, rfl, C1.out, fun d => rfl⟩
  case round =>
    obtain ⟨i, B, L, hi, rfl, rfl, HI⟩ := hrel
    generalize gk = m at *
    by_cases hlt : i < xs.length
    · have hx0 : wr.cell? ⟨b, off + i, none⟩ = some (.int .i64 (xs.getD i 0)) := (HI.1.cell (p := ⟨b, off + i, none⟩) hb).trans (HC.out i hlt)
      have HII := Lib.hid HI
      clear HI
      generalize xs.getD i 0 = x at hx0
      go_wp2_with fail
      refine (h2.out L x _ _ (by have := HII.out.2.1; omega) (hL.below HII.out.1 hL.pos) HII.out.2.2.1).mono ?_
      rintro e wy ⟨b2, rfl, hb2, hc2⟩
      have B2 := Lib.hid hb2
      have C2 := Lib.hid hc2
      clear hb2 hc2
      go_wp2_with fail
      go_roundg (m - 1)
      case measure => omega
      case rel => exact ⟨i + 1, b2, _, by omega, by first | rfl | simp, rfl, HII.out.1.trans (B2.out.mono HII.out.1.size), by simp [HII.out.2.1], C2.out, fun d => HII.out.2.2.2 _⟩
    · have hin : i = xs.length := by omega
      subst hin
      have HII := Lib.hid HI
      clear HI
      go_wp2_with fail
      go_ret
      exact ⟨B, L, rfl, HII.out⟩

theorem made_empty (k a : Int) (hk : k ≠ 0) (A : Option Addr) (c : Nat) (w : World) (hL : Laid w) :
    Calls Tryd.prog 7 #[.int .i64 k, .int .i64 a, .slice A 0 c] w (Made w 0 k a) := by
  have h1 := Lib.hid (New_any k a hk w)
  clear hk
  go_enter Tryd.func7, Tryd.ntmps7
  go_wp2_with fail
  refine h1.out.mono ?_
  rintro e wa ⟨b1, rfl, hb1, hc1⟩
  have B1 := Lib.hid hb1
  have C1 := Lib.hid hc1
  clear hb1 hc1
  go_wp2_with fail
  refine wp_loop_rounds 1 ?_
  rw [rounds_succ]
  go_wp2_with fail
  go_ret
  exact ⟨b1, _, rfl, B1.out, rfl, C1.out, fun d => rfl⟩

theorem made_ok (a : Int) (b off c : Nat) (xs : List Int) (w : World) (hn : xs.length ≤ 30) (h0 : 0 < xs.length) (hL : Laid w) (hb : b < w.heap.size)
    (hc : ∀ j, j < xs.length → w.cell? ⟨b, off + j, none⟩ = some (.int .i64 (xs.getD j 0))) :
    Calls Tryd.prog 7 #[.int .i64 0, .int .i64 a, .slice (some ⟨b, off, none⟩) xs.length c] w (fun e w' => e = .returned .nilIface ∧ Below w.heap.size w w') := by
  have HC := Lib.hid hc
  have h1 := Lib.hid (New_ok a w)
  have h2 := Lib.hid (fun a => Wrap_nil a)
  clear hc
  go_enter Tryd.func7, Tryd.ntmps7
  go_wp2_with fail
  refine h1.out.mono ?_
  rintro e wa ⟨rfl, rfl⟩
  go_wp2_with fail
  go_loopg [7, 8] xs.length (fun m s7 s8 wx => ∃ (i : Nat), i + m = xs.length ∧ s8 = .int .i64 i ∧ s7 = .nilIface ∧ Aside (Below wa.heap.size wa wx))
  case atStart => exact ⟨0, by omega, rfl, rfl, Below.refl _ _⟩
  case round =>
    obtain ⟨i, hi, rfl, rfl, HI⟩ := hrel
    generalize gk = m at *
    by_cases hlt : i < xs.length
    · have hx0 : wr.cell? ⟨b, off + i, none⟩ = some (.int .i64 (xs.getD i 0)) := (Below.cell HI (p := ⟨b, off + i, none⟩) hb).trans (HC.out i hlt)
      have HII : Hid (Below wa.heap.size wa wr) := Lib.hid HI
      clear HI
      generalize xs.getD i 0 = x at hx0
      go_wp2_with fail
      refine (h2.out x _ (hL.below HII.out hL.pos)).mono ?_
      rintro e wy ⟨rfl, hb2⟩
      have B2 := Lib.hid hb2
      clear hb2
      go_wp2_with fail
      go_roundg (m - 1)
      case measure => omega
      case rel => exact ⟨i + 1, by omega, by first | rfl | simp, rfl, HII.out.trans (B2.out.mono HII.out.size)⟩
    · have hin : i = xs.length := by omega
      subst hin
      have HII : Hid (Below wa.heap.size wa wr) := Lib.hid HI
      clear HI
      go_wp2_with fail
      go_ret
      exact ⟨rfl, HII.out⟩

theorem made_ok_empty (a : Int) (A : Option Addr) (c : Nat) (w : World) :
    Calls Tryd.prog 7 #[.int .i64 0, .int .i64 a, .slice A 0 c] w (fun e w' => e = .returned .nilIface ∧ Below w.heap.size w w') := by
  have h1 := Lib.hid (New_ok a w)
  go_enter Tryd.func7, Tryd.ntmps7
  go_wp2_with fail
  refine h1.out.mono ?_
  rintro e wa ⟨rfl, rfl⟩
  go_wp2_with fail
  refine wp_loop_rounds 1 ?_
  rw [rounds_succ]
  go_wp2_with fail
  go_ret
  exact ⟨rfl, Below.refl _ _⟩
end Go.Proofs.YtmoikkdaigepcaaDoor
