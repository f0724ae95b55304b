/- The contracts of lits.Not, lits.Xor and lits.Make at literals and variables in range (conditions: the bounds that each theorem names). -/
import Derived.Test.YtchnpooijaalnaaLight
import Derived.Test.YtchnpooijaalnaaPlain
namespace Go.Proofs.Ytchnpooijaalnaa
open Go.ChangeShapes Go.WideShapes Go.RowKit
set_option linter.unusedVariables false

theorem not_any (l : Int) (h0 : 0 ≤ l) (h1 : l ≤ 4611686018427387904) (w : World) :
    Calls Try.prog 87 #[.int .i64 l] w fun e w' => e = .returned (.int .i64 (nt l)) ∧ w = w' := by
  go_enter Try.func87, Try.ntmps87
  go_wp2
  go_ret
  exact ⟨ret_int (i64_xor1 l h0 (by omega)), rfl⟩

theorem xor_any (l : Int) (b : Bool) (h0 : 0 ≤ l) (h1 : l ≤ 4611686018427387904) (w : World) :
    Calls Try.prog 67 #[.int .i64 l, .bool b] w fun e w' => e = .returned (.int .i64 (xr l b)) ∧ w = w' := by
  cases b
  all_goals
    go_enter Try.func67, Try.ntmps67
    go_wp2_with (first | (go_at_call 87; refine (not_any _ (by omega) (by omega) _).mono ?_; rintro e w' ⟨rfl, rfl⟩))
    go_ret
    exact ⟨rfl, rfl⟩

theorem make_any (v : Int) (b : Bool) (h0 : 0 ≤ v) (h1 : v ≤ 1152921504606846976) (w : World) :
    Calls Try.prog 43 #[.int .i64 v, .bool b] w fun e w' => e = .returned (.int .i64 (mkl v b)) ∧ w = w' := by
  have hx : xr (v * 2) b = mkl v b := xr_mkl v b
  go_enter Try.func43, Try.ntmps43
  go_wp2_with (first | (go_at_call 67; refine (xor_any _ _ (by omega) (by omega) _).mono ?_; rintro e w' ⟨rfl, rfl⟩))
  go_ret
  exact ⟨rfl, rfl⟩

end Go.Proofs.Ytchnpooijaalnaa
