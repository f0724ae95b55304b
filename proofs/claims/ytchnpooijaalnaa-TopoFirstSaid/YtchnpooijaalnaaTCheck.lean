/- The contracts of topo.Check and topo.Levels (conditions: the netlist lies where its value says, fits, is modest, its ports begin near 0; at most 900 nodes). -/
import Derived.Test.YtchnpooijaalnaaTLevels
namespace Go.Proofs.Ytchnpooijaalnaa
open Go.ChangeShapes Go.WideShapes Go.RowKit
set_option linter.unusedVariables false

theorem GraphLeft.here {n : PNet} {S : NetS} {L : List Int} {w w' : World} {e : Ending} (h : GraphLeft n S L w e w') (hN : NetAt w w.heap.size S n) :
    ∃ a d c cd, e = .returned (.agg #[.int .i64 n.vars, .slice S.i n.inputs.length S.ic, .slice S.l n.latches.length S.lc, .slice S.o n.outs.length S.oc, .slice S.b n.bads.length S.bc, .slice S.c n.cons.length S.cc, .slice S.m n.mems.length S.mc, .slice S.a n.ands.length S.ac, .slice a n.nodes.length c, .slice d L.length cd]) ∧ GraphAt w' w'.heap.size S n a d L ∧ Below w.heap.size w w' := by
  obtain ⟨p, db, rfl, hO, hI, _, _⟩ := h
  obtain ⟨A, c, rfl, hR, _⟩ := hO.form
  exact ⟨A, some ⟨db, 0, none⟩, c, L.length, rfl, ⟨NetAt.later hN hO.below hO.below.size, hR, hI.src⟩, hO.below⟩

/-- newGraph and the graph's levels, one behind the other. -/
theorem levels_of {n : PNet} {S : NetS} {a d : Option Addr} {c cd : Nat} {w : World} (hs : n.sound = 0) (hg : GraphAt w w.heap.size S n a d (dfill 0 n.nodes (List.replicate (n.vars.toNat + 1) (-1)))) :
    Calls Try.prog 24 #[.agg #[.int .i64 n.vars, .slice S.i n.inputs.length S.ic, .slice S.l n.latches.length S.lc, .slice S.o n.outs.length S.oc, .slice S.b n.bads.length S.bc, .slice S.c n.cons.length S.cc, .slice S.m n.mems.length S.mc, .slice S.a n.ands.length S.ac, .slice a n.nodes.length c, .slice d (dfill 0 n.nodes (List.replicate (n.vars.toNat + 1) (-1))).length cd]] w (TLevels w n.levels) := by
  obtain ⟨hW, hF, hG, _, _⟩ := good6_of hs
  have hv0 := hW.vars.1
  have hv1 := hW.vars.2
  have := levels_graph n S a d c cd _ n.vars.toNat w hg (tells_of hG) hG (by omega) (by omega) (nf_some hs)
  have e : n.levels = levelsOf n.vars.toNat n.nodes := by unfold PNet.levels; rw [if_pos hs]
  rw [e]
  exact this

set_option maxRecDepth 100000 in
set_option maxHeartbeats 4000000 in
theorem levels_any (n : PNet) (S : NetS) (w : World) (h : NetAt w w.heap.size S n) (hf : n.fits) (hm : n.modest) (hr : n.near) (hd : n.nodes.length ≤ 900) :
    Calls Try.prog 11 #[.agg #[.int .i64 n.vars, .slice S.i n.inputs.length S.ic, .slice S.l n.latches.length S.lc, .slice S.o n.outs.length S.oc, .slice S.b n.bads.length S.bc, .slice S.c n.cons.length S.cc, .slice S.m n.mems.length S.mc, .slice S.a n.ands.length S.ac]] w (TLevels w n.levels) := by
  have hbx := below_box w #[.int .i64 n.vars, .slice S.i n.inputs.length S.ic, .slice S.l n.latches.length S.lc, .slice S.o n.outs.length S.oc, .slice S.b n.bads.length S.bc, .slice S.c n.cons.length S.cc, .slice S.m n.mems.length S.mc, .slice S.a n.ands.length S.ac] 27
  have hM := netBox_new w n S 27
  have hN := NetAt.later h hbx (by simp)
  have hSo := sound_any n S _ hN hf hm hr
  generalize hw1 : w.alloc (.cells #[.int .i64 n.vars, .slice S.i n.inputs.length S.ic, .slice S.l n.latches.length S.lc, .slice S.o n.outs.length S.oc, .slice S.b n.bads.length S.bc, .slice S.c n.cons.length S.cc, .slice S.m n.mems.length S.mc, .slice S.a n.ands.length S.ac] 27) = w1 at *
  have HQ := Lib.hid hSo
  obtain ⟨e0, e1, e2, e3, e4, e5, e6, e7, hlt⟩ := hM
  have HM := Lib.hid (show NetBox w1 w.heap.size n S from ⟨e0, e1, e2, e3, e4, e5, e6, e7, hlt⟩)
  by_cases hs : n.sound = 0
  · have HG := Lib.hid fun (W : World) (hb : Below w1.heap.size w1 W) => newGraph_any n S W (NetAt.later hN hb hb.size) hs hm hr hd
    have HNW := Lib.hid fun (W : World) (hb : Below w1.heap.size w1 W) => NetAt.later hN hb hb.size
    have HB := Lib.hid hbx
    have HS := Lib.hid hs
    have hss : (n.sound != 0) = false := by simp [hs]
    clear h hbx hN hSo hf hm hr hd hs hlt
    go_enter Try.func11, Try.ntmps11
    go_wp2_with (first
      | (go_at_call 22; refine HQ.out.mono ?_; rintro e w2 ⟨rfl, hb2⟩; obtain ⟨n0, n1, n2, n3, n4, n5, n6, n7, nlt⟩ := HM.out.below hb2 HM.out.lt)
      | (go_at_call 23; refine (HG.out w2 hb2).mono ?_; rintro e w3 hh; obtain ⟨a, d, c, cd, rfl, hg, hb3⟩ := hh.here (HNW.out w2 hb2))
      | (go_at_call 24; refine (levels_of HS.out hg).mono ?_; rintro e w4 ⟨A4, c4, rfl, hs4, hb4⟩))
    go_ret2
    exact ⟨A4, c4, rfl, hs4, below_on HB.out (below_on hb2 (below_on hb3 hb4))⟩
  · have hss : (n.sound != 0) = true := by simp [hs]
    have HB := Lib.hid hbx
    have HL := Lib.hid (show n.levels = none by unfold PNet.levels; rw [if_neg hs])
    clear h hbx hN hSo hf hm hr hd hs
    go_enter Try.func11, Try.ntmps11
    go_wp2_with (first
      | (go_at_call 22; refine HQ.out.mono ?_; rintro e w2 ⟨rfl, hb2⟩))
    go_ret2
    rw [HL.out]
    exact ⟨none, 0, rfl, Src.nil, below_on HB.out hb2⟩

set_option maxRecDepth 100000 in
set_option maxHeartbeats 4000000 in
theorem check_any (n : PNet) (S : NetS) (w : World) (h : NetAt w w.heap.size S n) (hf : n.fits) (hm : n.modest) (hr : n.near) (hd : n.nodes.length ≤ 900) :
    Calls Try.prog 9 #[.agg #[.int .i64 n.vars, .slice S.i n.inputs.length S.ic, .slice S.l n.latches.length S.lc, .slice S.o n.outs.length S.oc, .slice S.b n.bads.length S.bc, .slice S.c n.cons.length S.cc, .slice S.m n.mems.length S.mc, .slice S.a n.ands.length S.ac]] w fun e w' => e = .returned (.int .i64 n.check) ∧ Below w.heap.size w w' := by
  have hbx := below_box w #[.int .i64 n.vars, .slice S.i n.inputs.length S.ic, .slice S.l n.latches.length S.lc, .slice S.o n.outs.length S.oc, .slice S.b n.bads.length S.bc, .slice S.c n.cons.length S.cc, .slice S.m n.mems.length S.mc, .slice S.a n.ands.length S.ac] 27
  have hM := netBox_new w n S 27
  have hN := NetAt.later h hbx (by simp)
  have hSo := sound_any n S _ hN hf hm hr
  generalize hw1 : w.alloc (.cells #[.int .i64 n.vars, .slice S.i n.inputs.length S.ic, .slice S.l n.latches.length S.lc, .slice S.o n.outs.length S.oc, .slice S.b n.bads.length S.bc, .slice S.c n.cons.length S.cc, .slice S.m n.mems.length S.mc, .slice S.a n.ands.length S.ac] 27) = w1 at *
  have HQ := Lib.hid hSo
  obtain ⟨e0, e1, e2, e3, e4, e5, e6, e7, hlt⟩ := hM
  have HM := Lib.hid (show NetBox w1 w.heap.size n S from ⟨e0, e1, e2, e3, e4, e5, e6, e7, hlt⟩)
  by_cases hs : n.sound = 0
  · have HG := Lib.hid fun (W : World) (hb : Below w1.heap.size w1 W) => newGraph_any n S W (NetAt.later hN hb hb.size) hs hm hr hd
    have HNW := Lib.hid fun (W : World) (hb : Below w1.heap.size w1 W) => NetAt.later hN hb hb.size
    have HB := Lib.hid hbx
    have HS := Lib.hid hs
    have hss : (n.sound != 0) = false := by simp [hs]
    have HC := Lib.hid (show n.check = if n.levels.isSome then 0 else 8 by unfold PNet.check; rw [if_pos hs]; cases n.levels <;> rfl)
    cases hlv : n.levels with
    | none =>
      rw [hlv] at HC
      have HLV := Lib.hid hlv
      clear h hbx hN hSo hf hm hr hd hs hlt hlv
      go_enter Try.func9, Try.ntmps9
      go_wp2_with (first
        | (go_at_call 22; refine HQ.out.mono ?_; rintro e w2 ⟨rfl, hb2⟩; obtain ⟨n0, n1, n2, n3, n4, n5, n6, n7, nlt⟩ := HM.out.below hb2 HM.out.lt)
        | (go_at_call 23; refine (HG.out w2 hb2).mono ?_; rintro e w3 hh; obtain ⟨a, d, c, cd, rfl, hg, hb3⟩ := hh.here (HNW.out w2 hb2))
        | (go_at_call 24; refine (HLV.out ▸ levels_of HS.out hg).mono ?_; rintro e w4 ⟨A4, c4, rfl, hs4, hb4⟩; simp only [Option.isSome_none, Option.getD_none, List.length_nil]))
      go_ret
      exact ⟨ret_int HC.out.symm, below_on HB.out (below_on hb2 (below_on hb3 hb4))⟩
    | some l =>
      rw [hlv] at HC
      have HLV := Lib.hid hlv
      clear h hbx hN hSo hf hm hr hd hs hlt hlv
      go_enter Try.func9, Try.ntmps9
      go_wp2_with (first
        | (go_at_call 22; refine HQ.out.mono ?_; rintro e w2 ⟨rfl, hb2⟩; obtain ⟨n0, n1, n2, n3, n4, n5, n6, n7, nlt⟩ := HM.out.below hb2 HM.out.lt)
        | (go_at_call 23; refine (HG.out w2 hb2).mono ?_; rintro e w3 hh; obtain ⟨a, d, c, cd, rfl, hg, hb3⟩ := hh.here (HNW.out w2 hb2))
        | (go_at_call 24; refine (HLV.out ▸ levels_of HS.out hg).mono ?_; rintro e w4 ⟨A4, c4, rfl, hs4, hb4⟩; simp only [Option.isSome_some, Option.getD_some]))
      go_ret
      exact ⟨ret_int HC.out.symm, below_on HB.out (below_on hb2 (below_on hb3 hb4))⟩
  · have hss : (n.sound != 0) = true := by simp [hs]
    have HB := Lib.hid hbx
    have HC := Lib.hid (show n.check = n.sound by unfold PNet.check; rw [if_neg hs])
    clear h hbx hN hSo hf hm hr hd hs
    go_enter Try.func9, Try.ntmps9
    go_wp2_with (first
      | (go_at_call 22; refine HQ.out.mono ?_; rintro e w2 ⟨rfl, hb2⟩))
    go_ret
    exact ⟨ret_int HC.out.symm, below_on HB.out hb2⟩
end Go.Proofs.Ytchnpooijaalnaa
