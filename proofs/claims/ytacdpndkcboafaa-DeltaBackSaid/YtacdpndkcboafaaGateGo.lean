/- The contract of the program's Gate: what 'gateA' says of the bytes; nothing that was there has turned (conditions: the slice reads as the bytes, at most 1000 of them; the gate's literal is from 2 to 2^60). -/
import Derived.Test.YtacdpndkcboafaaGate
namespace Go.Proofs.Ytacdpndkcboafaa
open Go.ChangeShapes Go.WideShapes Go.RowKit
set_option linter.unusedVariables false

/-- Where the loop over the two numbers stands. -/
def GateAt (w : World) (at_ x i f y k g : Int) (m : Nat) (s1 s16 : Value) (wx : World) : Prop :=
  Below w.heap.size w wx ∧
  ((m = 2 ∧ s1 = .int .i64 at_ ∧ s16 = .int .i64 0 ∧ wx.heap[w.heap.size]? = some (.cells #[.int .i64 0, .int .i64 0] 40 (0, 0))) ∨
   (f = 0 ∧ m = 1 ∧ s1 = .int .i64 i ∧ s16 = .int .i64 1 ∧ wx.heap[w.heap.size]? = some (.cells #[.int .i64 x, .int .i64 0] 40 (0, 0))) ∨
   (f = 0 ∧ g = 0 ∧ m = 0 ∧ s1 = .int .i64 k ∧ s16 = .int .i64 2 ∧ wx.heap[w.heap.size]? = some (.cells #[.int .i64 x, .int .i64 y] 40 (0, 0))))

set_option maxRecDepth 20000 in
theorem gate_any (A : Option Addr) (c : Nat) (l : List Int) (at_ lhs : Int) (w : World) (hs : Src w w.heap.size A l) (hc : l.length ≤ c) (hl : l.length ≤ 1000) (hb : ∀ x ∈ l, 0 ≤ x ∧ x < 256) (hlo : 2 ≤ lhs) (hhi : lhs ≤ 1152921504606846976) :
    Calls Try.prog 11 #[.slice A l.length c, .int .i64 at_, .int .i64 lhs] w fun e w' => e = .returned (four (gateA l at_ lhs)) ∧ Below w.heap.size w w' := by
  have t1 := Lib.hid (fun (w' : World) (hs : Src w' w.heap.size A l) => take_any A c l at_ 1152921504606846976 w' w.heap.size hs hc hl hb)
  have o1 := takeA_ok (l := l) (at_ := at_) (most := 1152921504606846976)
  obtain ⟨⟨x, i, f⟩, hp⟩ : ∃ p, takeA l at_ 1152921504606846976 = p := ⟨_, rfl⟩
  rw [hp] at t1 o1
  have HP := Lib.hid hp
  have t2 := Lib.hid (fun (w' : World) (hs : Src w' w.heap.size A l) => take_any A c l i 1152921504606846976 w' w.heap.size hs hc hl hb)
  have o2 := takeA_ok (l := l) (at_ := i) (most := 1152921504606846976)
  obtain ⟨⟨y, k, g⟩, hq⟩ : ∃ p, takeA l i 1152921504606846976 = p := ⟨_, rfl⟩
  rw [hq] at t2 o2
  have HQ := Lib.hid hq
  have HS := Lib.hid hs
  have O1 := Lib.hid o1
  have O2 := Lib.hid o2
  unfold three at t1 t2
  clear hp hq hb hs o1 o2
  go_enter Try.func11, Try.ntmps11
  go_wp2_with fail
  go_loopg [1, 16] 2 (fun m s1 s16 wx => GateAt w at_ x i f y k g m s1 s16 wx)
  case atStart => exact ⟨(Below.refl _ _).alloc (Nat.le_refl _) _, .inl ⟨rfl, rfl, rfl, by rw [heap_alloc_new]⟩⟩
  case round =>
    obtain ⟨hbx, h⟩ := hrel
    generalize gk = m at *
    have HB := Lib.hid hbx
    clear hbx
    rcases h with ⟨rfl, rfl, rfl, hrow⟩ | ⟨hf, rfl, rfl, rfl, hrow⟩ | ⟨hf, hg, rfl, rfl, rfl, hrow⟩
    · have HR := Lib.hid hrow
      have T1 := Lib.hid (t1.out wr (HS.out.below HB.out))
      have f0 : wr.frozen? ⟨w.heap.size, 0, none⟩ = false := frozen_of_row _ _ _ _ _ hrow
      have k0 : wr.cell? ⟨w.heap.size, 0, none⟩ = some (.int .i64 0) := by rw [cell_of_row _ _ _ _ _ _ hrow]; rfl
      clear hrow
      by_cases hf : f = 0
      · subst hf
        have hrow2 := heap_setCell_same wr w.heap.size 0 _ _ (.int .i64 x) HR.out
        have HR2 := Lib.hid hrow2
        clear hrow2
        go_wp2_with (first | (go_at_call 13; refine (T1.out).mono ?_; rintro e w' ⟨rfl, rfl⟩))
        go_roundg 1
        case measure => omega
        case rel => exact ⟨HB.out.setCell (p := ⟨w.heap.size, 0, none⟩) (Nat.le_refl _) _, .inr (.inl ⟨rfl, rfl, rfl, rfl, HR2.out⟩)⟩
      · have g1 : (f != 0) = true := by rw [bne_iff_ne]; exact hf
        have g2 : (f == 0) = false := beq_eq_false_iff_ne.2 hf
        have HG : Hid (gateA l at_ lhs = (0, 0, 0, f)) := Lib.hid (gate_f1 HP.out hf)
        clear hf O1 O2
        go_wp2_with (first | (go_at_call 13; refine (T1.out).mono ?_; rintro e w' ⟨rfl, rfl⟩))
        (try simp only [Exit.inBlock, Exit.then]); refine bodyPost_ret (results_tmp4 rfl _ _ _) rfl ?_
        exact ⟨by rw [HG.out]; rfl, HB.out⟩
    · subst hf
      have HR := Lib.hid hrow
      have T1 := Lib.hid (t2.out wr (HS.out.below HB.out))
      have f0 : wr.frozen? ⟨w.heap.size, 1, none⟩ = false := frozen_of_row _ _ _ _ _ hrow
      have k0 : wr.cell? ⟨w.heap.size, 1, none⟩ = some (.int .i64 0) := by rw [cell_of_row _ _ _ _ _ _ hrow]; rfl
      clear hrow
      by_cases hg : g = 0
      · subst hg
        have hrow2 := heap_setCell_same wr w.heap.size 1 _ _ (.int .i64 y) HR.out
        have HR2 := Lib.hid hrow2
        clear hrow2
        go_wp2_with (first | (go_at_call 13; refine (T1.out).mono ?_; rintro e w' ⟨rfl, rfl⟩))
        go_roundg 0
        case measure => omega
        case rel => exact ⟨HB.out.setCell (p := ⟨w.heap.size, 1, none⟩) (Nat.le_refl _) _, .inr (.inr ⟨rfl, rfl, rfl, rfl, rfl, HR2.out⟩)⟩
      · have g1 : (g != 0) = true := by rw [bne_iff_ne]; exact hg
        have g2 : (g == 0) = false := beq_eq_false_iff_ne.2 hg
        have HG : Hid (gateA l at_ lhs = (0, 0, 0, g)) := Lib.hid (gate_f2 HP.out HQ.out hg)
        clear hg O1 O2
        go_wp2_with (first | (go_at_call 13; refine (T1.out).mono ?_; rintro e w' ⟨rfl, rfl⟩))
        (try simp only [Exit.inBlock, Exit.then]); refine bodyPost_ret (results_tmp4 rfl _ _ _) rfl ?_
        exact ⟨by rw [HG.out]; rfl, HB.out⟩
    · subst hf
      subst hg
      have k0 : wr.cell? ⟨w.heap.size, 0, none⟩ = some (.int .i64 x) := by rw [cell_of_row _ _ _ _ _ _ hrow]; rfl
      have k1 : wr.cell? ⟨w.heap.size, 1, none⟩ = some (.int .i64 y) := by rw [cell_of_row _ _ _ _ _ _ hrow]; rfl
      obtain ⟨x0, x1, _, _⟩ := O1.out rfl
      obtain ⟨y0, y1, _, _⟩ := O2.out rfl
      clear hrow O1 O2 t1 t2
      by_cases z1 : x = 0
      · subst z1
        have HG : Hid (gateA l at_ lhs = (0, 0, 0, 11)) := Lib.hid (gate_no HP.out HQ.out (.inl rfl))
        go_wp2_with fail
        (try simp only [Exit.inBlock, Exit.then]); refine bodyPost_ret (results_tmp4 rfl _ _ _) rfl ?_
        exact ⟨by rw [HG.out]; rfl, HB.out⟩
      by_cases z2 : lhs < x
      · have HG : Hid (gateA l at_ lhs = (0, 0, 0, 11)) := Lib.hid (gate_no HP.out HQ.out (.inr (.inl z2)))
        have z1b : (x == 0) = false := beq_eq_false_iff_ne.2 z1
        clear z1
        go_wp2_with fail
        (try simp only [Exit.inBlock, Exit.then]); refine bodyPost_ret (results_tmp4 rfl _ _ _) rfl ?_
        exact ⟨by rw [HG.out]; rfl, HB.out⟩
      by_cases z3 : lhs - x < y
      · have HG : Hid (gateA l at_ lhs = (0, 0, 0, 11)) := Lib.hid (gate_no HP.out HQ.out (.inr (.inr z3)))
        have z1b : (x == 0) = false := beq_eq_false_iff_ne.2 z1
        have z2b : x ≤ lhs := by omega
        clear z1 z2
        go_wp2_with fail
        (try simp only [Exit.inBlock, Exit.then]); refine bodyPost_ret (results_tmp4 rfl _ _ _) rfl ?_
        exact ⟨by rw [HG.out]; rfl, HB.out⟩
      have HG : Hid (gateA l at_ lhs = (lhs - x, lhs - x - y, k, 0)) := Lib.hid (gate_yes HP.out HQ.out (by omega))
      have z1b : (x == 0) = false := beq_eq_false_iff_ne.2 z1
      have z2b : x ≤ lhs := by omega
      have z3b : y ≤ lhs - x := by omega
      clear z1 z2 z3
      go_wp2_with fail
      go_quiet (fail)
      go_wp2_with fail
      (try simp only [Exit.inBlock, Exit.then]); refine bodyPost_ret (results_tmp4 rfl _ _ _) rfl ?_
      exact ⟨by rw [HG.out]; rfl, below_drewN HB.out _⟩
end Go.Proofs.Ytacdpndkcboafaa
