/- The law's own example and the netlist that hangs on itself: what must come at any rate (no condition). -/
import Derived.Test.YtchnpooijaalnaaTCheck
namespace Go.Proofs.Ytchnpooijaalnaa
open Go.ChangeShapes Go.WideShapes Go.RowKit
set_option linter.unusedVariables false

/-- The chapter's example, and one that hangs on itself. -/
def oneAnd (v : Int) (ins : List Int) : PNet := ⟨v, ins, [], [], [], [], [], [⟨v, 2, 2⟩]⟩
theorem oneAnd_fits (v : Int) (ins : List Int) (h : I64 v) (hi : ∀ x ∈ ins, I64 x) : (oneAnd v ins).fits := ⟨h, hi, by simp [oneAnd], by simp [oneAnd], by simp [oneAnd], by simp [oneAnd], by simp [oneAnd], by
  intro a ha
  simp [oneAnd] at ha
  subst ha
  exact ⟨h, show I64 2 by unfold I64; omega, show I64 2 by unfold I64; omega⟩⟩
theorem oneAnd_modest (v : Int) (ins : List Int) (h : ins.length ≤ 1) : (oneAnd v ins).modest := ⟨by simp [oneAnd]; omega, by simp [oneAnd], by simp [oneAnd], by simp [oneAnd], by simp [oneAnd], by simp [oneAnd], by simp [oneAnd], by simp [oneAnd]⟩
theorem oneAnd_near (v : Int) (ins : List Int) : (oneAnd v ins).near := by simp [PNet.near, oneAnd]
theorem and_row {w : World} {g B : Nat} {v : Int} (h : w.heap[g]? = some (.cells #[.int .i64 v, .int .i64 2, .int .i64 2] 59 (0, 0))) (hB : g < B) : Row B 3 (fun b o x => w.cell? ⟨b, o, none⟩ = some (.int .i64 x.av) ∧ w.cell? ⟨b, o + 1, none⟩ = some (.int .i64 x.aa) ∧ w.cell? ⟨b, o + 2, none⟩ = some (.int .i64 x.ab)) (some ⟨g, 0, none⟩) [(⟨v, 2, 2⟩ : PAnd)] := fun _ => by
  refine ⟨g, 0, rfl, hB, fun j x hj => ?_⟩
  have hj2 := lt_of_some hj
  have : j = 0 := by simp at hj2; exact hj2
  subst this
  simp at hj
  subst hj
  refine ⟨?_, ?_, ?_⟩ <;> rw [cell_of_row w g _ _ _ (0, 0) h] <;> rfl

theorem alive6_any (w : World) : Calls Try.prog 8 #[] w fun e w' => e = .returned (.bool true) ∧ Below w.heap.size w w' := by
  have l1 : (oneAnd 2 [1]).levels = some [0, 0, 1] := by decide
  have c1 : (oneAnd 1 []).check = 8 := by decide
  have H1 := Lib.hid fun (W : World) => levels_any (oneAnd 2 [1]) ⟨some ⟨W.heap.size, 0, none⟩, 1, none, 0, none, 0, none, 0, none, 0, none, 0, some ⟨W.heap.size + 1, 0, none⟩, 1⟩ ((W.alloc (.cells #[.int .i64 1] 3)).alloc (.cells #[.int .i64 2, .int .i64 2, .int .i64 2] 59))
    ⟨Src.one (t := 3) (fr := (0, 0)) (Below.heap_alloc _ _ _ (by simp) |>.trans (heap_alloc_new W _)) (by simp; omega), Row.nil, Src.nil, Src.nil, Src.nil, Row.nil, and_row (by have := heap_alloc_new (W.alloc (.cells #[.int .i64 1] 3)) (.cells #[.int .i64 2, .int .i64 2, .int .i64 2] 59); simpa using this) (by simp), by simp [oneAnd], by simp⟩
    (oneAnd_fits 2 [1] (by unfold I64; omega) (by simp [I64])) (oneAnd_modest 2 [1] (by simp)) (oneAnd_near 2 [1]) (by decide)
  have H2 := Lib.hid fun (W : World) => check_any (oneAnd 1 []) ⟨none, 0, none, 0, none, 0, none, 0, none, 0, none, 0, some ⟨W.heap.size, 0, none⟩, 1⟩ (W.alloc (.cells #[.int .i64 1, .int .i64 2, .int .i64 2] 59))
    ⟨Src.nil, Row.nil, Src.nil, Src.nil, Src.nil, Row.nil, and_row (heap_alloc_new W _) (by simp), by simp [oneAnd], by simp⟩
    (oneAnd_fits 1 [] (by unfold I64; omega) (by simp)) (oneAnd_modest 1 [] (by simp)) (oneAnd_near 1 []) (by decide)
  rw [l1] at H1
  rw [c1] at H2
  clear l1 c1
  go_enter Try.func8, Try.ntmps8
  go_wp2_with fail
  refine (H1.out _).mono ?_
  rintro e w1 ⟨A, c, rfl, hs, hb1⟩
  obtain ⟨b, o, rfl, hlt, hc⟩ := hs.at (show ([0, 0, 1] : List Int)[2]? = some 1 from rfl)
  have hc2 : w1.cell? ⟨b, o + 2, none⟩ = some (.int .i64 1) := hc 2 1 rfl
  have HB1 := Lib.hid hb1
  clear hc hs hb1
  go_wp2_with fail
  refine (H2.out _).mono ?_
  rintro e w2 ⟨rfl, hb2⟩
  go_wp2_with fail
  go_ret
  exact ⟨rfl, below_on (below_on (below_box w _ _) (below_on (below_box _ _ _) HB1.out)) (below_on (below_box _ _ _) hb2)⟩
end Go.Proofs.Ytchnpooijaalnaa
