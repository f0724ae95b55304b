/- The contract of Number as a whole (conditions: the bytes can be read; at most 400000 of them). -/
import Derived.Test.YtldnepogjnahfaaGreatDoorVSA
namespace Go.Proofs.YtldnepogjnahfaaGreatDoor.Sc
open Go.ChangeShapes Go.WideShapes Go.RowKit
set_option linter.unusedVariables false
theorem num_any (r i:Nat) (l:List Int) (most:Int) (w:World) (h:Rd w r l i) (hi:i+l.length≤400000) (hm:-9223372036854775808≤most) (hm2:most<9223372036854775808)
    (hbt:∀ x∈l,0≤x∧x<256) :
    Calls Tryz.prog 214 #[.pointer (some ⟨r,0,none⟩),.int .i64 most] w (Reads r w (two (numA l most)) (l.drop (numN l most)) (i+numN l most)):=by
  cases l with
  | nil=>exact num_none r i most w h
  | cons x l =>
    cases hx:isDig x with
    | false =>
      have h1:numA (x::l) most=(0,2):=by unfold numA;rw [if_neg (by simp),if_pos (by simpa using hx)]
      have h2:numN (x::l) most=0:=by unfold numN;rw [if_neg (by simp),if_pos (by simpa using hx)]
      rw [h1,h2]
      exact num_no r i x l most w h hx
    | true =>
      refine num_dig r i (x::l) most w h (by simp) (by simpa using hx) hi hm hm2 (fun j hj=>?_)
      have:(x::l).getD j 0∈x::l:=by
        simp only [List.getD,List.getElem?_eq_getElem hj,Option.getD_some]
        exact List.getElem_mem hj
      exact hbt _ this
end Go.Proofs.YtldnepogjnahfaaGreatDoor.Sc
