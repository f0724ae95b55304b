/- The contracts of lits.Sort, of the sort by definition and of the comparison at lists of no element: a slice of no element comes back; two of none are the same. No condition. -/
import Derived.Test.YtcaaicodnkdclaaRSort
import Derived.Test.YtcaaicodnkdclaaSame
namespace Go.Proofs.Ytcaaicodnkdclaa
open Go.ChangeShapes Go.WideShapes Go.RowKit
set_option linter.unusedVariables false

theorem sort_empty (a : Option Addr) (c : Nat) (w : World) : Calls Try.prog 23 #[.slice a 0 c] w (SortLeft w []) := by
  have hcl : Calls Try.prog 27 #[.slice a 0 c] w fun e w' => ∃ A c', e = .returned (.slice A 0 c') ∧ Below w.heap.size w w' := by
    cases a with
    | none => exact (Try.slices_Clone_int_nil 0 c w).mono fun e w' ⟨h1, h2⟩ => by subst h2; exact ⟨none, 0, h1, Below.refl _ _⟩
    | some ad =>
      refine (Try.slices_Clone_int_zero ad c w).mono fun e w' ⟨v, h1, h2, _, h4⟩ => ?_
      obtain ⟨A, c', rfl, _⟩ := own_form (ys := []) h2
      exact ⟨A, c', h1, h4⟩
  go_enter Try.func23, Try.ntmps23
  go_wp2_with fail
  go_step3
  go_wp2_with fail
  refine hcl.mono ?_
  rintro e w1 ⟨A, c', rfl, hb1⟩
  have X := Lib.hid hb1
  clear hb1 hcl
  go_wp2_with fail
  refine (Try.slices_Sort_int_none A c' w1).mono ?_
  rintro e w2 ⟨rfl, hw2⟩
  subst hw2
  go_wp2_with fail
  go_step3
  go_wp2_with fail
  refine wp_loop_rounds 1 ?_
  rw [rounds_succ]
  go_wp2_with fail
  try rw [Exit.noGoto_ret]
  go_ret
  exact ⟨_, rfl, World.ownsRow_nil _ _ _ _, X.out⟩

theorem rsort_empty (a : Option Addr) (c : Nat) (w : World) : Calls Try.prog 24 #[.slice a 0 c] w (SortLeft w []) := by
  go_enter Try.func24, Try.ntmps24
  go_wp2_with fail
  refine wp_loop_rounds 1 ?_
  rw [rounds_succ]
  go_wp2_with fail
  go_ret
  exact ⟨_, rfl, World.ownsRow_nil _ _ _ _, Below.refl _ _⟩

theorem same_empty (a1 a2 : Option Addr) (c1 c2 : Nat) (w : World) :
    Calls Try.prog 22 #[.slice a1 0 c1, .slice a2 0 c2] w fun e w' => e = .returned (.bool true) ∧ ∃ n, w' = w.drewN n := by
  go_enter Try.func22, Try.ntmps22
  go_wp2
  refine wp_loop_rounds 1 ?_
  rw [rounds_succ]
  go_wp2
  go_ret
  exact ⟨rfl, 0, rfl⟩
end Go.Proofs.Ytcaaicodnkdclaa
