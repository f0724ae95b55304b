/- The contract of layer 6's light (condition: the netlist lies where its value says). -/
import Derived.Test.YtchnpooijaalnaaLight
import Derived.Test.YtchnpooijaalnaaApp
namespace Go.Proofs.Ytchnpooijaalnaa
open Go.ChangeShapes Go.WideShapes Go.RowKit
set_option linter.unusedVariables false

def PNet.light6 (n : PNet) : Bool := n.light && decide (n.ands.length ≤ 100)
set_option maxRecDepth 100000 in
theorem light6_any (n : PNet) (S : NetS) (w : World) (h : NetAt w w.heap.size S n) :
    Calls Try.prog 7 #[.agg #[.int .i64 n.vars, .slice S.i n.inputs.length S.ic, .slice S.l n.latches.length S.lc, .slice S.o n.outs.length S.oc, .slice S.b n.bads.length S.bc, .slice S.c n.cons.length S.cc, .slice S.m n.mems.length S.mc, .slice S.a n.ands.length S.ac]] w fun e w' => e = .returned (.bool n.light6) ∧ Below w.heap.size w w' := by
  have hbx := below_box w #[.int .i64 n.vars, .slice S.i n.inputs.length S.ic, .slice S.l n.latches.length S.lc, .slice S.o n.outs.length S.oc, .slice S.b n.bads.length S.bc, .slice S.c n.cons.length S.cc, .slice S.m n.mems.length S.mc, .slice S.a n.ands.length S.ac] 27
  have hM := netBox_new w n S 27
  have hN := NetAt.later h hbx (by simp)
  have HQ := Lib.hid (light_any n S _ hN)
  have HN := Lib.hid (And.intro hM hbx)
  obtain ⟨e0, e1, e2, e3, e4, e5, e6, e7, e8⟩ := hM
  clear h hN hbx
  cases hl : n.light with
  | false =>
    have HC := Lib.hid (show n.light6 = false by unfold PNet.light6; rw [hl]; rfl)
    rw [hl] at HQ
    clear hl
    go_enter Try.func7, Try.ntmps7
    go_wp2_with (first | (go_at_call 21; refine HQ.out.mono ?_; rintro e w3 ⟨rfl, hb3⟩))
    go_ret
    exact ⟨ret_bool HC.out.symm, below_on HN.out.2 hb3⟩
  | true =>
    rw [hl] at HQ
    by_cases ha : n.ands.length ≤ 100
    · have HC := Lib.hid (show n.light6 = true by unfold PNet.light6; rw [hl]; simp [ha])
      have haI : (n.ands.length : Int) ≤ 100 := by omega
      clear hl
      go_enter Try.func7, Try.ntmps7
      go_wp2_with (first | (go_at_call 21; refine HQ.out.mono ?_; rintro e w3 ⟨rfl, hb3⟩; obtain ⟨g0, g1, g2, g3, g4, g5, g6, g7, g8⟩ := HN.out.1.below hb3 HN.out.1.lt))
      go_ret
      exact ⟨ret_bool HC.out.symm, below_on HN.out.2 hb3⟩
    · have HC := Lib.hid (show n.light6 = false by unfold PNet.light6; rw [hl]; simp [ha])
      have haI : ¬ (n.ands.length : Int) ≤ 100 := by omega
      clear hl
      go_enter Try.func7, Try.ntmps7
      go_wp2_with (first | (go_at_call 21; refine HQ.out.mono ?_; rintro e w3 ⟨rfl, hb3⟩; obtain ⟨g0, g1, g2, g3, g4, g5, g6, g7, g8⟩ := HN.out.1.below hb3 HN.out.1.lt))
      go_ret
      exact ⟨ret_bool (by rw [HC.out]; first | rfl | (simp; omega)), below_on HN.out.2 hb3⟩
end Go.Proofs.Ytchnpooijaalnaa
