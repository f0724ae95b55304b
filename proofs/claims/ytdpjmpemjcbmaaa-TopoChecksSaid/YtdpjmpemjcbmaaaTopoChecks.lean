/- The law TopoChecks returns true for every netlist (no condition). -/
import Derived.Test.YtdpjmpemjcbmaaaTAlive
import Derived.Test.YtdpjmpemjcbmaaaLaw
import Derived.Deep.RegionHeld3
import Derived.Deep.DrawnRows
import Derived.ProofKit
import Derived.OpenShut
import Derived.ChangeSlices
namespace Go.Proofs.Ytdpjmpemjcbmaaa.topoChecks
open Go.ChangeShapes Go.WideShapes Go.RowKit
set_option linter.unusedVariables false

theorem own : ownKnob Try.prog.godebug = none := by kernel_rfl

set_option maxHeartbeats 4000000 in
theorem walk_light (ha : ∀ W, Calls Try.prog 8 #[] W fun e w' => e = .returned (.bool true) ∧ Below W.heap.size W w') (n : PNet) (S : NetS) (w : World) (h : NetAt w w.heap.size S n) (hf : n.fits) (hl : n.light6 = true) :
    Calls Try.prog 3 #[netV n S] w fun e w' => e = .returned (.bool true) ∧ Below w.heap.size w w' := by
  have hbx := below_box w #[.int .i64 n.vars, .slice S.i n.inputs.length S.ic, .slice S.l n.latches.length S.lc, .slice S.o n.outs.length S.oc, .slice S.b n.bads.length S.bc, .slice S.c n.cons.length S.cc, .slice S.m n.mems.length S.mc, .slice S.a n.ands.length S.ac] 27
  have hM := netBox_new w n S 27
  have hN := NetAt.later h hbx (by simp)
  have hli := light6_any n S _ hN
  rw [hl] at hli
  have hmo := (fits_light6 hl).1
  have hne := (fits_light6 hl).2.1
  have hnn := (fits_light6 hl).2.2
  unfold netV
  have HL := Lib.hid hli
  have HA := Lib.hid ha
  clear hli ha
  go_enter Try.func3, Try.ntmps3
  go_wp2_with (go_at_call 7; refine HL.out.mono ?_; rintro e w2 ⟨rfl, hb2⟩)
  have HB := Lib.hid (below_on hbx hb2)
  have hN2 := NetAt.later hN hb2 hb2.size
  have hM2 := hM.below hb2 hM.lt
  have hgl := hM2.lt
  have HK := Lib.hid fun (W : World) (hW : Below w2.heap.size w2 W) => hM2.below hW hM2.lt
  have HQ1 := Lib.hid fun (W : World) (hW : (W.cell? ⟨w.heap.size, 0, none⟩ = some (.int .i64 n.vars) ∧ W.cell? ⟨w.heap.size, 1, none⟩ = some (.slice S.i n.inputs.length S.ic) ∧ W.cell? ⟨w.heap.size, 2, none⟩ = some (.slice S.l n.latches.length S.lc) ∧ W.cell? ⟨w.heap.size, 3, none⟩ = some (.slice S.o n.outs.length S.oc) ∧ W.cell? ⟨w.heap.size, 4, none⟩ = some (.slice S.b n.bads.length S.bc) ∧ W.cell? ⟨w.heap.size, 5, none⟩ = some (.slice S.c n.cons.length S.cc) ∧ W.cell? ⟨w.heap.size, 6, none⟩ = some (.slice S.m n.mems.length S.mc) ∧ W.cell? ⟨w.heap.size, 7, none⟩ = some (.slice S.a n.ands.length S.ac)) ∧ Hid (Below w2.heap.size w2 W)) => check_any n S W (NetAt.later hN2 hW.2.out hW.2.out.size) hf hmo hne hnn
  have HQ2 := Lib.hid fun (W : World) (hW : (W.cell? ⟨w.heap.size, 0, none⟩ = some (.int .i64 n.vars) ∧ W.cell? ⟨w.heap.size, 1, none⟩ = some (.slice S.i n.inputs.length S.ic) ∧ W.cell? ⟨w.heap.size, 2, none⟩ = some (.slice S.l n.latches.length S.lc) ∧ W.cell? ⟨w.heap.size, 3, none⟩ = some (.slice S.o n.outs.length S.oc) ∧ W.cell? ⟨w.heap.size, 4, none⟩ = some (.slice S.b n.bads.length S.bc) ∧ W.cell? ⟨w.heap.size, 5, none⟩ = some (.slice S.c n.cons.length S.cc) ∧ W.cell? ⟨w.heap.size, 6, none⟩ = some (.slice S.m n.mems.length S.mc) ∧ W.cell? ⟨w.heap.size, 7, none⟩ = some (.slice S.a n.ands.length S.ac)) ∧ Hid (Below w2.heap.size w2 W)) => rcheck6_any n S W (NetAt.later hN2 hW.2.out hW.2.out.size) hf hmo hne
  have HS := Lib.hid fun (W V : World) (hW : (W.cell? ⟨w.heap.size, 0, none⟩ = some (.int .i64 n.vars) ∧ W.cell? ⟨w.heap.size, 1, none⟩ = some (.slice S.i n.inputs.length S.ic) ∧ W.cell? ⟨w.heap.size, 2, none⟩ = some (.slice S.l n.latches.length S.lc) ∧ W.cell? ⟨w.heap.size, 3, none⟩ = some (.slice S.o n.outs.length S.oc) ∧ W.cell? ⟨w.heap.size, 4, none⟩ = some (.slice S.b n.bads.length S.bc) ∧ W.cell? ⟨w.heap.size, 5, none⟩ = some (.slice S.c n.cons.length S.cc) ∧ W.cell? ⟨w.heap.size, 6, none⟩ = some (.slice S.m n.mems.length S.mc) ∧ W.cell? ⟨w.heap.size, 7, none⟩ = some (.slice S.a n.ands.length S.ac)) ∧ Hid (Below w2.heap.size w2 W)) (hV : Below W.heap.size W V) => show (V.cell? ⟨w.heap.size, 0, none⟩ = some (.int .i64 n.vars) ∧ V.cell? ⟨w.heap.size, 1, none⟩ = some (.slice S.i n.inputs.length S.ic) ∧ V.cell? ⟨w.heap.size, 2, none⟩ = some (.slice S.l n.latches.length S.lc) ∧ V.cell? ⟨w.heap.size, 3, none⟩ = some (.slice S.o n.outs.length S.oc) ∧ V.cell? ⟨w.heap.size, 4, none⟩ = some (.slice S.b n.bads.length S.bc) ∧ V.cell? ⟨w.heap.size, 5, none⟩ = some (.slice S.c n.cons.length S.cc) ∧ V.cell? ⟨w.heap.size, 6, none⟩ = some (.slice S.m n.mems.length S.mc) ∧ V.cell? ⟨w.heap.size, 7, none⟩ = some (.slice S.a n.ands.length S.ac)) ∧ Hid (Below w2.heap.size w2 V) from
    have k := HK.out V (below_on hW.2.out hV)
    ⟨⟨k.n0, k.n1, k.n2, k.n3, k.n4, k.n5, k.n6, k.n7⟩, Lib.hid (below_on hW.2.out hV)⟩
  have HS0 := Lib.hid fun (V : World) (hV : Below w2.heap.size w2 V) => show (V.cell? ⟨w.heap.size, 0, none⟩ = some (.int .i64 n.vars) ∧ V.cell? ⟨w.heap.size, 1, none⟩ = some (.slice S.i n.inputs.length S.ic) ∧ V.cell? ⟨w.heap.size, 2, none⟩ = some (.slice S.l n.latches.length S.lc) ∧ V.cell? ⟨w.heap.size, 3, none⟩ = some (.slice S.o n.outs.length S.oc) ∧ V.cell? ⟨w.heap.size, 4, none⟩ = some (.slice S.b n.bads.length S.bc) ∧ V.cell? ⟨w.heap.size, 5, none⟩ = some (.slice S.c n.cons.length S.cc) ∧ V.cell? ⟨w.heap.size, 6, none⟩ = some (.slice S.m n.mems.length S.mc) ∧ V.cell? ⟨w.heap.size, 7, none⟩ = some (.slice S.a n.ands.length S.ac)) ∧ Hid (Below w2.heap.size w2 V) from
    have k := HK.out V hV
    ⟨⟨k.n0, k.n1, k.n2, k.n3, k.n4, k.n5, k.n6, k.n7⟩, Lib.hid hV⟩
  have e2 := hM2
  obtain ⟨e0, e1, e2', e3, e4, e5, e6, e7, e8⟩ := e2
  clear hbx hM hN hN2 hM2 hb2 hmo hne hnn
  have hss : (n.check == n.check) = true := by simp
  go_wp2_with fail
  go_region_held3 (fun W => (W.cell? ⟨w.heap.size, 0, none⟩ = some (.int .i64 n.vars) ∧ W.cell? ⟨w.heap.size, 1, none⟩ = some (.slice S.i n.inputs.length S.ic) ∧ W.cell? ⟨w.heap.size, 2, none⟩ = some (.slice S.l n.latches.length S.lc) ∧ W.cell? ⟨w.heap.size, 3, none⟩ = some (.slice S.o n.outs.length S.oc) ∧ W.cell? ⟨w.heap.size, 4, none⟩ = some (.slice S.b n.bads.length S.bc) ∧ W.cell? ⟨w.heap.size, 5, none⟩ = some (.slice S.c n.cons.length S.cc) ∧ W.cell? ⟨w.heap.size, 6, none⟩ = some (.slice S.m n.mems.length S.mc) ∧ W.cell? ⟨w.heap.size, 7, none⟩ = some (.slice S.a n.ands.length S.ac)) ∧ Hid (Below w2.heap.size w2 W)) (first | exact HS0.out _ (Below.refl _ _).drew | exact HS.out _ _ (by assumption) (by assumption) | go_keep)
    (first
      | (go_at_call 9; refine (HQ1.out _ (by assumption)).mono ?_; rintro e w5 ⟨rfl, hb5⟩)
      | (go_at_call 10; refine (HQ2.out _ (by assumption)).mono ?_; rintro e w5 ⟨rfl, hb5⟩)
      | (go_at_call 8; refine (HA.out _).mono ?_; rintro e w5 ⟨rfl, hb5⟩)
      | fail)
  all_goals
    have HE := Lib.hid (show (w5.cell? ⟨w.heap.size, 0, none⟩ = some (.int .i64 n.vars) ∧ w5.cell? ⟨w.heap.size, 1, none⟩ = some (.slice S.i n.inputs.length S.ic) ∧ w5.cell? ⟨w.heap.size, 2, none⟩ = some (.slice S.l n.latches.length S.lc) ∧ w5.cell? ⟨w.heap.size, 3, none⟩ = some (.slice S.o n.outs.length S.oc) ∧ w5.cell? ⟨w.heap.size, 4, none⟩ = some (.slice S.b n.bads.length S.bc) ∧ w5.cell? ⟨w.heap.size, 5, none⟩ = some (.slice S.c n.cons.length S.cc) ∧ w5.cell? ⟨w.heap.size, 6, none⟩ = some (.slice S.m n.mems.length S.mc) ∧ w5.cell? ⟨w.heap.size, 7, none⟩ = some (.slice S.a n.ands.length S.ac)) ∧ Hid (Below w2.heap.size w2 w5) from by assumption).2
    go_wp2_with fail
    go_ret
    exact ⟨ret_bool (by first | rfl | simp), below_on HB.out HE.out.out⟩
theorem walk_heavy (ha : ∀ W, Calls Try.prog 8 #[] W fun e w' => e = .returned (.bool true) ∧ Below W.heap.size W w') (n : PNet) (S : NetS) (w : World) (h : NetAt w w.heap.size S n) (hl : n.light6 = false) :
    Calls Try.prog 3 #[netV n S] w fun e w' => e = .returned (.bool true) ∧ Below w.heap.size w w' := by
  have hbx := below_box w #[.int .i64 n.vars, .slice S.i n.inputs.length S.ic, .slice S.l n.latches.length S.lc, .slice S.o n.outs.length S.oc, .slice S.b n.bads.length S.bc, .slice S.c n.cons.length S.cc, .slice S.m n.mems.length S.mc, .slice S.a n.ands.length S.ac] 27
  have hli := light6_any n S _ (NetAt.later h hbx (by simp))
  rw [hl] at hli
  unfold netV
  have HL := Lib.hid hli
  have HA := Lib.hid ha
  have HB := Lib.hid hbx
  clear hli ha hbx h
  go_enter Try.func3, Try.ntmps3
  go_wp2_with (first | (go_at_call 7; refine HL.out.mono ?_; rintro e w2 ⟨rfl, hb2⟩) | (go_at_call 8; refine (HA.out _).mono ?_; rintro e w3 ⟨rfl, hb3⟩))
  go_ret
  exact ⟨rfl, below_on HB.out (below_on hb2 hb3)⟩
set_option maxRecDepth 100000 in
theorem lifted (os : Os) (started : os.Started) (H : Type) (enc : TypeId × Value → H) :
    ReturnsInHanded {} Try.checked os 3 .any (Rows.topoChecksSpec.pre6 enc Try.prog Try.f3 Rows.topoChecksRow.domain false) (Rows.topoChecksSpec.post enc Try.prog Try.f3 false true false false) := by
  refine returnsInHanded_of_change (C := Try.checked) own started (by kernel_rfl) Try.func3
    (ChangeSpec.witness6 (enc := enc) (C := Try.checked) false ⟨#[], #[.agg #[.int .i64 0, .slice none 0 0, .slice none 0 0, .slice none 0 0, .slice none 0 0, .slice none 0 0, .slice none 0 0, .slice none 0 0]], []⟩ 8 (by kernel_rfl) (by kernel_rfl) (by kernel_rfl) (by kernel_rfl)) ?_
  intro W base args ds gs before hval0 hW hcnd _
  have hval : ∀ (j : Nat) t v, Try.f3.params[j]? = some t → args[j]? = some v → Value.okWide Try.prog W .any base t v := hval0
  have hW' := hW
  obtain ⟨p, q, hA0, hV, rfl, hfz, hnd⟩ := hW
  have hA : DataW.TrodAll enc Try.prog W 0 (fun _ => true) true Try.f3.params.toList args.toList ds p := hA0
  rw [Try.params3] at hA hval
  have hAk := hA
  obtain ⟨v0, vs0, d0, ds0, p0, q0, hargs, rfl, rfl, h0, r0⟩ := trodAll_cons hA
  obtain ⟨rfl, rfl, rfl⟩ := trodAll_nil r0
  obtain rfl : args = #[v0] := by cases args; simp_all
  obtain ⟨rfl, rfl⟩ := trodVars_none hV
  obtain ⟨n0, S0, rfl, hn0, hf0⟩ := open_net (hval 0 27 v0 rfl rfl) h0
  clear hA0 hval0
  simp only [List.append_nil] at hW' hAk
  have go : ∀ e W', (e = Ending.returned (.bool true) ∧ Below W.heap.size W W') → ∃ v, e = Ending.returned v ∧ Rows.topoChecksSpec.post enc Try.checked.prog Try.f3 false true false false W #[netV n0 S0] v W' :=
    fun e W' ⟨he, hb⟩ => ⟨_, he, _, _, _, [], _, [], hW', trodAll_cons_mk (shut_bool Try.underlying4 _) trodAll_mk0, all_stay Try.laidOut [27] (by kernel_rfl) hb _ _ _ hAk (fun x hx => hW'.lt x hx), rfl, hb.frame _, fun h => by cases h⟩
  cases hl : n0.light6 with
  | true => exact (walk_light alive6_any n0 S0 W hn0 hf0 hl).mono go
  | false => exact (walk_heavy alive6_any n0 S0 W hn0 hl).mono go

theorem over : Rows.topoChecksRow.holds Try.pinned (OpenSpec.ofChange Rows.topoChecksSpec) :=
  OpenClaim.holds_of_wide 3 Try.f3 rfl rfl rfl rfl rfl rfl rfl ⟨rfl, rfl, rfl, rfl, rfl⟩ rfl rfl rfl rfl rfl (by kernel_rfl) Try.func3 (by kernel_rfl)
    (of_decide_eq_true (by kernel_rfl)) (by unfold Func.isWrapper; first | (rw [if_pos (by decide +kernel)]; kernel_rfl) | (rw [if_neg (by decide +kernel)]; exact ⟨rfl, rfl⟩))
    (fun os started H enc _ => lifted os started H enc)

theorem proved : Rows.TopoChecksSaid :=
  over
#print axioms proved
end Go.Proofs.Ytdpjmpemjcbmaaa.topoChecks
