/- The contracts of the functions of lits and of the answers of layer 1 by definition, each at the literals and variables that are in range (conditions: the bounds that each theorem names). -/
import Derived.Test.YtcaaicodnkdclaaRows
import Derived.Test.YtcaaicodnkdclaaPlain
import Derived.WalkKit
import Derived.ProofKit
import Derived.OpenShut
namespace Go.Proofs.Ytcaaicodnkdclaa
open Go.ChangeShapes Go.WideShapes Go.RowKit
set_option linter.unusedVariables false

theorem ret_int {k : IntKind} {a b : Int} (h : a = b) : Ending.returned (.int k a) = .returned (.int k b) := by rw [h]
theorem ret_bool {a b : Bool} (h : a = b) : Ending.returned (.bool a) = .returned (.bool b) := by rw [h]

theorem var_any (l : Int) (w : World) :
    Calls Try.prog 12 #[.int .i64 l] w fun e w' => e = .returned (.int .i64 (l / 2)) ∧ w = w' := by
  go_enter Try.func12, Try.ntmps12
  go_wp2
  go_ret
  exact ⟨rfl, rfl⟩

theorem rvar_any (l : Int) (h0 : 0 ≤ l) (h1 : l ≤ 4611686018427387904) (w : World) :
    Calls Try.prog 13 #[.int .i64 l] w fun e w' => e = .returned (.int .i64 (l / 2)) ∧ w = w' := by
  go_enter Try.func13, Try.ntmps13
  go_wp2
  go_ret
  exact ⟨rfl, rfl⟩

theorem neg_any (l : Int) (w : World) :
    Calls Try.prog 14 #[.int .i64 l] w fun e w' => e = .returned (.bool (odd l)) ∧ w = w' := by
  go_enter Try.func14, Try.ntmps14
  go_wp2
  go_ret
  exact ⟨ret_bool (by rw [i64_and1]; rfl), rfl⟩

theorem rneg_any (l : Int) (h0 : 0 ≤ l) (h1 : l ≤ 4611686018427387904) (w : World) :
    Calls Try.prog 15 #[.int .i64 l] w fun e w' => e = .returned (.bool (odd l)) ∧ w = w' := by
  go_enter Try.func15, Try.ntmps15
  go_wp2
  go_ret
  exact ⟨rfl, rfl⟩

theorem not_any (l : Int) (h0 : 0 ≤ l) (h1 : l ≤ 4611686018427387904) (w : World) :
    Calls Try.prog 16 #[.int .i64 l] w fun e w' => e = .returned (.int .i64 (nt l)) ∧ w = w' := by
  go_enter Try.func16, Try.ntmps16
  go_wp2
  go_ret
  exact ⟨ret_int (i64_xor1 l h0 (by omega)), rfl⟩

theorem xor_any (l : Int) (b : Bool) (h0 : 0 ≤ l) (h1 : l ≤ 4611686018427387904) (w : World) :
    Calls Try.prog 17 #[.int .i64 l, .bool b] w fun e w' => e = .returned (.int .i64 (xr l b)) ∧ w = w' := by
  cases b
  all_goals
    go_enter Try.func17, Try.ntmps17
    go_wp2_with (first | (go_at_call 16; refine (not_any _ (by omega) (by omega) _).mono ?_; rintro e w' ⟨rfl, rfl⟩))
    go_ret
    exact ⟨rfl, rfl⟩

theorem rmake_any (v : Int) (b : Bool) (h0 : 0 ≤ v) (h1 : v ≤ 1152921504606846976) (w : World) :
    Calls Try.prog 11 #[.int .i64 v, .bool b] w fun e w' => e = .returned (.int .i64 (mkl v b)) ∧ w = w' := by
  cases b
  all_goals
    go_enter Try.func11, Try.ntmps11
    go_wp2
    go_ret
    exact ⟨rfl, rfl⟩

theorem make_any (v : Int) (b : Bool) (h0 : 0 ≤ v) (h1 : v ≤ 1152921504606846976) (w : World) :
    Calls Try.prog 10 #[.int .i64 v, .bool b] w fun e w' => e = .returned (.int .i64 (mkl v b)) ∧ w = w' := by
  have hx : xr (v * 2) b = mkl v b := xr_mkl v b
  go_enter Try.func10, Try.ntmps10
  go_wp2_with (first | (go_at_call 17; refine (xor_any _ _ (by omega) (by omega) _).mono ?_; rintro e w' ⟨rfl, rfl⟩))
  go_ret
  exact ⟨rfl, rfl⟩

theorem rnot_any (l : Int) (h0 : 0 ≤ l) (h1 : l ≤ 2305843009213693953) (w : World) :
    Calls Try.prog 9 #[.int .i64 l] w fun e w' => e = .returned (.int .i64 (nt l)) ∧ w = w' := by
  have hx : mkl (l / 2) (!odd l) = nt l := mkl_not l
  go_enter Try.func9, Try.ntmps9
  go_wp2_with (first | (go_at_call 13; refine (rvar_any _ (by omega) (by omega) _).mono ?_; rintro e w' ⟨rfl, rfl⟩) | (go_at_call 15; refine (rneg_any _ (by omega) (by omega) _).mono ?_; rintro e w' ⟨rfl, rfl⟩) | (go_at_call 11; refine (rmake_any _ _ (by omega) (by omega) _).mono ?_; rintro e w' ⟨rfl, rfl⟩))
  go_ret
  exact ⟨rfl, rfl⟩

theorem signed_any (l : Int) (h0 : 0 ≤ l) (h1 : l ≤ 2305843009213693953) (w : World) :
    Calls Try.prog 18 #[.int .i64 l] w fun e w' => e = .returned (.int .i64 (sgn l)) ∧ w = w' := by
  have hp : odd l = false ∨ odd l = true := by cases odd l <;> simp
  rcases hp with hp | hp
  · have hs : l / 2 = sgn l := by unfold sgn; rw [hp]; rfl
    go_enter Try.func18, Try.ntmps18
    go_wp2_with (first | (go_at_call 12; refine (var_any _ _).mono ?_; rintro e w' ⟨rfl, rfl⟩) | (go_at_call 14; refine (neg_any _ _).mono ?_; rintro e w' ⟨rfl, rfl⟩))
    go_ret
    exact ⟨rfl, rfl⟩
  · have hs : -(l / 2) = sgn l := by unfold sgn; rw [hp]; rfl
    go_enter Try.func18, Try.ntmps18
    go_wp2_with (first | (go_at_call 12; refine (var_any _ _).mono ?_; rintro e w' ⟨rfl, rfl⟩) | (go_at_call 14; refine (neg_any _ _).mono ?_; rintro e w' ⟨rfl, rfl⟩))
    go_ret
    exact ⟨rfl, rfl⟩

theorem rsigned_any (l : Int) (h0 : 0 ≤ l) (h1 : l ≤ 2305843009213693953) (w : World) :
    Calls Try.prog 19 #[.int .i64 l] w fun e w' => e = .returned (.int .i64 (sgn l)) ∧ w = w' := by
  have hp : odd l = false ∨ odd l = true := by cases odd l <;> simp
  rcases hp with hp | hp
  · have hs : l / 2 = sgn l := by unfold sgn; rw [hp]; rfl
    go_enter Try.func19, Try.ntmps19
    go_wp2_with (first | (go_at_call 13; refine (rvar_any _ (by omega) (by omega) _).mono ?_; rintro e w' ⟨rfl, rfl⟩) | (go_at_call 15; refine (rneg_any _ (by omega) (by omega) _).mono ?_; rintro e w' ⟨rfl, rfl⟩))
    go_ret
    exact ⟨rfl, rfl⟩
  · have hs : -(l / 2) = sgn l := by unfold sgn; rw [hp]; rfl
    go_enter Try.func19, Try.ntmps19
    go_wp2_with (first | (go_at_call 13; refine (rvar_any _ (by omega) (by omega) _).mono ?_; rintro e w' ⟨rfl, rfl⟩) | (go_at_call 15; refine (rneg_any _ (by omega) (by omega) _).mono ?_; rintro e w' ⟨rfl, rfl⟩))
    go_ret
    exact ⟨rfl, rfl⟩

theorem plain_any (s : Int) (h0 : -1152921504606846976 ≤ s) (h1 : s ≤ 1152921504606846976) (w : World) :
    Calls Try.prog 20 #[.int .i64 s] w fun e w' => e = .returned (.int .i64 (pln s)) ∧ w = w' := by
  by_cases hp : s < 0
  · have hs : mkl (-s) true = pln s := by unfold pln; rw [if_pos hp]
    go_enter Try.func20, Try.ntmps20
    go_wp2_with (first | (go_at_call 10; refine (make_any _ _ (by omega) (by omega) _).mono ?_; rintro e w' ⟨rfl, rfl⟩))
    go_ret
    exact ⟨rfl, rfl⟩
  · have hs : mkl s false = pln s := by unfold pln; rw [if_neg hp]
    have hs0 : 0 ≤ s := by omega
    go_enter Try.func20, Try.ntmps20
    go_wp2_with (first | (go_at_call 10; refine (make_any _ _ (by omega) (by omega) _).mono ?_; rintro e w' ⟨rfl, rfl⟩))
    go_ret
    exact ⟨rfl, rfl⟩

theorem rplain_any (s : Int) (h0 : -1152921504606846976 ≤ s) (h1 : s ≤ 1152921504606846976) (w : World) :
    Calls Try.prog 21 #[.int .i64 s] w fun e w' => e = .returned (.int .i64 (pln s)) ∧ w = w' := by
  by_cases hp : s < 0
  · have hs : mkl (-s) true = pln s := by unfold pln; rw [if_pos hp]
    go_enter Try.func21, Try.ntmps21
    go_wp2_with (first | (go_at_call 11; refine (rmake_any _ _ (by omega) (by omega) _).mono ?_; rintro e w' ⟨rfl, rfl⟩))
    go_ret
    exact ⟨rfl, rfl⟩
  · have hs : mkl s false = pln s := by unfold pln; rw [if_neg hp]
    have hs0 : 0 ≤ s := by omega
    go_enter Try.func21, Try.ntmps21
    go_wp2_with (first | (go_at_call 11; refine (rmake_any _ _ (by omega) (by omega) _).mono ?_; rintro e w' ⟨rfl, rfl⟩))
    go_ret
    exact ⟨rfl, rfl⟩

theorem fine_yes (l : Int) (h0 : 0 ≤ l) (h1 : l ≤ 2305843009213693952) (w : World) :
    Calls Try.prog 7 #[.int .i64 l] w fun e w' => e = .returned (.bool true) ∧ w = w' := by
  go_enter Try.func7, Try.ntmps7
  go_wp2
  go_ret
  exact ⟨rfl, rfl⟩

theorem fine_no (l : Int) (h : l < 0 ∨ 2305843009213693952 < l) (w : World) :
    Calls Try.prog 7 #[.int .i64 l] w fun e w' => e = .returned (.bool false) ∧ w = w' := by
  rcases h with h | h
  · go_enter Try.func7, Try.ntmps7
    go_wp2
    go_ret
    exact ⟨rfl, rfl⟩
  · have h0 : 0 ≤ l := by omega
    go_enter Try.func7, Try.ntmps7
    go_wp2
    go_ret
    exact ⟨ret_bool (by rw [decide_eq_false_iff_not]; omega), rfl⟩

theorem alive_any (w : World) :
    Calls Try.prog 8 #[] w fun e w' => e = .returned (.bool true) ∧ w = w' := by
  have a1 : mkl 3 true = 7 := by decide
  have a2 : sgn 7 = -3 := by decide
  have a3 : odd 7 = true := by decide
  go_enter Try.func8, Try.ntmps8
  go_wp2_with (first | (go_at_call 10; refine (make_any _ _ (by omega) (by omega) _).mono ?_; rintro e w' ⟨rfl, rfl⟩) | (go_at_call 18; refine (signed_any _ (by omega) (by omega) _).mono ?_; rintro e w' ⟨rfl, rfl⟩) | (go_at_call 12; refine (var_any _ _).mono ?_; rintro e w' ⟨rfl, rfl⟩) | (go_at_call 14; refine (neg_any _ _).mono ?_; rintro e w' ⟨rfl, rfl⟩))
  go_ret
  exact ⟨rfl, rfl⟩

end Go.Proofs.Ytcaaicodnkdclaa
