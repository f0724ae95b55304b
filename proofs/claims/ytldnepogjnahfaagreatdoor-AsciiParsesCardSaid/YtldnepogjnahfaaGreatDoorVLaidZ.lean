/- From a row's condition on the library's one variable to that variable's cell; and a world that meets the condition. No condition but those that each theorem names. -/
import Derived.Test.YtldnepogjnahfaaGreatDoorRows
import Derived.Test.YtldnepogjnahfaaGreatDoorVFB
import Derived.ChangeSame
import Derived.ChangeVars
import Derived.JoinedOf
import Derived.RowKit
import Derived.LaidLaws
import Derived.LaidHandle
import Derived.Stop.Joined
namespace Go.Proofs.YtldnepogjnahfaaGreatDoor
open Go.ChangeShapes Go.WideShapes Go.RowKit
theorem Tryz.et : Tryz.prog.globalNamed "errors.errorType" = some 1 := by kernel_rfl
theorem Tryz.oneRow:((List.range 335).filter fun t=>Tryz.prog.rowNamed t [101,114,114,111,114])=[116]:=by kernel_rfl
theorem Tryz.size:Tryz.prog.types.size=335:=by kernel_rfl
def laidList : List (String × DataW Unit) := [("errors.errorType", Rows.laid_errors_errorType)]
theorem laid_of_met {W:World} (h:laidMetH Tryz.prog laidList W):Fa.Laid W:=by
  have h':laidMet Tryz.prog [] W∧handlesMet Tryz.prog laidList W:=h
  obtain ⟨name,u,ty,e1,e2,e3,e4,e5⟩:=h'.2 _ (List.mem_singleton.2 rfl)
  have en:name=[101,114,114,111,114]:=(Option.some.inj e1).symm
  subst en
  obtain rfl:283=u:=Option.some.inj (Eq.trans (Eq.symm (by kernel_rfl)) e2)
  have hm:ty∈(List.range 335).filter fun t=>Tryz.prog.rowNamed t [101,114,114,111,114]:=List.mem_filter.2 ⟨List.mem_range.2 (by rw [← Tryz.size];exact e3),e4⟩
  rw [Tryz.oneRow] at hm
  obtain rfl:=List.mem_singleton.1 hm
  have hh:typeHandle Tryz.prog 116=.pointer (some ⟨7,116,none⟩):=by kernel_rfl
  rw [hh] at e5
  unfold Fa.Laid
  simpa using World.var?_cell Tryz.et e5 0
noncomputable def laidWorld (os:Os):World :=
  let w0:=World.holding Tryz.prog os ⟨#[],#[],[]⟩
  { w0 with heap:=w0.heap.modify 1 fun
      | .cells _ t frozen=>.cells #[.iface 283 (.agg #[.pointer (some ⟨7,116,none⟩)])] t frozen
      | o=>o }
theorem laidWorld_met (os:Os) (args:Array Value):laidMetH Tryz.prog laidList ((laidWorld os).forCall (fun _ _=>0) ⟨#[],args,[]⟩).memory :=
  laidMetH_of_parts (laidMet_nil _ _) (by kernel_rfl)
end Go.Proofs.YtldnepogjnahfaaGreatDoor
