/- The contract of newGraph: the nodes in their order, and which of them defines each variable (conditions: the netlist lies where its value says and is sound, fits, is modest, its ports begin near 0; at most 1000 nodes); The levels that the walk into the depth leaves, as plain lists: they are the levels; and where values hang on themselves there are none (conditions: the nodes are a sound netlist's, each hangs on something); What is done behind each variable, for the levels: its level is written (conditions: the row of levels, the graph and the variable that holds the row lie in blocks of their own); The contract of the graph's levels (conditions: the graph lies where its value says; the netlist is sound; at most 2000 variables); The contracts of topo.Check and topo.Levels (conditions: the netlist lies where its value says, fits, is modest, its ports begin near 0; at most 900 nodes). -/
import Derived.Test.YtldnepogjnahfaaGreatDoorVZG
set_option linter.unusedVariables false
namespace Go.Proofs.YtldnepogjnahfaaGreatDoor
open Go.ChangeShapes Go.WideShapes Go.RowKit
def GraphLeft (n:PNet) (S:NetS) (L:List Int) (w:World) (e:Ending) (w':World):Prop :=
  ∃ p db,e=.returned (.agg #[.int .i64 n.vars,.slice S.i n.inputs.length S.ic,.slice S.l n.latches.length S.lc,.slice S.o n.outs.length S.oc,.slice S.b n.bads.length S.bc,.slice S.c n.cons.length S.cc,.slice S.m n.mems.length S.mc,.slice S.a n.ands.length S.ac,p,.slice (some ⟨db,0,none⟩) L.length L.length])∧OwnT w.heap.size w w' p n.nodes∧Ints w' db L∧p.ownBlock≠some db∧w.heap.size≤db
theorem draft_a (w:World) (n:PNet) (S:NetS) (N:Nat):Draft w.heap.size w ((World.alloc (World.alloc w (.cells #[.int .i64 n.vars,.slice S.i n.inputs.length S.ic,.slice S.l n.latches.length S.lc,.slice S.o n.outs.length S.oc,.slice S.b n.bads.length S.bc,.slice S.c n.cons.length S.cc,.slice S.m n.mems.length S.mc,.slice S.a n.ands.length S.ac,.slice none 0 0,.slice (some ⟨w.heap.size+1,0,none⟩) N N] 102)) (.cells (madeCells #[.int .i64 0] N) 3)).drew) w.heap.size (w.heap.size+1) n S (.slice none 0 0) [] (List.replicate N 0):=by
  have a0:=heap_alloc_new w (.cells #[.int .i64 n.vars,.slice S.i n.inputs.length S.ic,.slice S.l n.latches.length S.lc,.slice S.o n.outs.length S.oc,.slice S.b n.bads.length S.bc,.slice S.c n.cons.length S.cc,.slice S.m n.mems.length S.mc,.slice S.a n.ands.length S.ac,.slice none 0 0,.slice (some ⟨w.heap.size+1,0,none⟩) N N] 102)
  have hb1:=below_box w #[.int .i64 n.vars,.slice S.i n.inputs.length S.ic,.slice S.l n.latches.length S.lc,.slice S.o n.outs.length S.oc,.slice S.b n.bads.length S.bc,.slice S.c n.cons.length S.cc,.slice S.m n.mems.length S.mc,.slice S.a n.ands.length S.ac,.slice none 0 0,.slice (some ⟨w.heap.size+1,0,none⟩) N N] 102
  have s1:(w.alloc (.cells #[.int .i64 n.vars,.slice S.i n.inputs.length S.ic,.slice S.l n.latches.length S.lc,.slice S.o n.outs.length S.oc,.slice S.b n.bads.length S.bc,.slice S.c n.cons.length S.cc,.slice S.m n.mems.length S.mc,.slice S.a n.ands.length S.ac,.slice none 0 0,.slice (some ⟨w.heap.size+1,0,none⟩) N N] 102)).heap.size=w.heap.size+1:=by simp
  generalize w.alloc (.cells #[.int .i64 n.vars,.slice S.i n.inputs.length S.ic,.slice S.l n.latches.length S.lc,.slice S.o n.outs.length S.oc,.slice S.b n.bads.length S.bc,.slice S.c n.cons.length S.cc,.slice S.m n.mems.length S.mc,.slice S.a n.ands.length S.ac,.slice none 0 0,.slice (some ⟨w.heap.size+1,0,none⟩) N N] 102)=w1 at *
  have a1:=Ints.new w1 N
  have hb2:=below_on hb1 (below_box w1 (madeCells #[.int .i64 0] N) 3)
  replace a0:=alloc_old (o:=.cells (madeCells #[.int .i64 0] N) 3) a0
  rw [s1] at a1
  generalize w1.alloc (.cells (madeCells #[.int .i64 0] N) 3)=w2 at *
  exact ⟨by rw [List.length_replicate];exact a0,⟨World.ownsRow_nil _ _ _ _,hb2.trans (Below.refl _ _).drew,hb2.size⟩,a1,by simp [Value.ownBlock],by simp [Value.ownBlock],by omega,Nat.le_refl _,by omega⟩
theorem draft_b (w:World) (n:PNet) (S:NetS) (N:Nat):Draft w.heap.size w ((World.alloc (World.alloc w (.cells (madeCells #[.int .i64 0] N) 3)) (.cells #[.int .i64 n.vars,.slice S.i n.inputs.length S.ic,.slice S.l n.latches.length S.lc,.slice S.o n.outs.length S.oc,.slice S.b n.bads.length S.bc,.slice S.c n.cons.length S.cc,.slice S.m n.mems.length S.mc,.slice S.a n.ands.length S.ac,.slice none 0 0,.slice (some ⟨w.heap.size,0,none⟩) N N] 102)).drew) (w.heap.size+1) w.heap.size n S (.slice none 0 0) [] (List.replicate N 0):=by
  have a1:=Ints.new w N
  have hb1:=below_box w (madeCells #[.int .i64 0] N) 3
  have s1:(w.alloc (.cells (madeCells #[.int .i64 0] N) 3)).heap.size=w.heap.size+1:=by simp
  generalize w.alloc (.cells (madeCells #[.int .i64 0] N) 3)=w1 at *
  have a0:=heap_alloc_new w1 (.cells #[.int .i64 n.vars,.slice S.i n.inputs.length S.ic,.slice S.l n.latches.length S.lc,.slice S.o n.outs.length S.oc,.slice S.b n.bads.length S.bc,.slice S.c n.cons.length S.cc,.slice S.m n.mems.length S.mc,.slice S.a n.ands.length S.ac,.slice none 0 0,.slice (some ⟨w.heap.size,0,none⟩) N N] 102)
  have hb2:=below_on hb1 (below_box w1 #[.int .i64 n.vars,.slice S.i n.inputs.length S.ic,.slice S.l n.latches.length S.lc,.slice S.o n.outs.length S.oc,.slice S.b n.bads.length S.bc,.slice S.c n.cons.length S.cc,.slice S.m n.mems.length S.mc,.slice S.a n.ands.length S.ac,.slice none 0 0,.slice (some ⟨w.heap.size,0,none⟩) N N] 102)
  replace a1:Ints (w1.alloc (.cells #[.int .i64 n.vars,.slice S.i n.inputs.length S.ic,.slice S.l n.latches.length S.lc,.slice S.o n.outs.length S.oc,.slice S.b n.bads.length S.bc,.slice S.c n.cons.length S.cc,.slice S.m n.mems.length S.mc,.slice S.a n.ands.length S.ac,.slice none 0 0,.slice (some ⟨w.heap.size,0,none⟩) N N] 102)) w.heap.size (List.replicate N 0):=alloc_old a1
  rw [s1] at a0
  generalize w1.alloc (.cells #[.int .i64 n.vars,.slice S.i n.inputs.length S.ic,.slice S.l n.latches.length S.lc,.slice S.o n.outs.length S.oc,.slice S.b n.bads.length S.bc,.slice S.c n.cons.length S.cc,.slice S.m n.mems.length S.mc,.slice S.a n.ands.length S.ac,.slice none 0 0,.slice (some ⟨w.heap.size,0,none⟩) N N] 102)=w2 at *
  exact ⟨by rw [List.length_replicate];exact a0,⟨World.ownsRow_nil _ _ _ _,hb2.trans (Below.refl _ _).drew,hb2.size⟩,a1,by simp [Value.ownBlock],by simp [Value.ownBlock],by omega,by omega,Nat.le_refl _⟩
theorem OwnT.down {B B':Nat} {w0 w0' w:World} {v:Value} {D:List PNode} (h:OwnT B w0 w v D) (hb:Below B' w0' w0) (hB:B'≤B):OwnT B' w0' w v D:=⟨h.row.mono hB,hb.trans (h.below.mono hB),by have:=h.size;omega⟩
theorem ten_row (w:World) (g:Nat) (t:TypeId) (z0 z1 z2 z3 z4 z5 z6 z7 z8 z9 v0 v1 v2 v3 v4 v5 v6 v7 v8 v9:Value) (h:w.heap[g]?=some (.cells #[z0,z1,z2,z3,z4,z5,z6,z7,z8,z9] t (0,0))) :
    ((((((((((w.setCell ⟨g,0,none⟩ v0).setCell ⟨g,1,none⟩ v1).setCell ⟨g,2,none⟩ v2).setCell ⟨g,3,none⟩ v3).setCell ⟨g,4,none⟩ v4).setCell ⟨g,5,none⟩ v5).setCell ⟨g,6,none⟩ v6).setCell ⟨g,7,none⟩ v7).setCell ⟨g,8,none⟩ v8).setCell ⟨g,9,none⟩ v9).heap[g]?=some (.cells #[v0,v1,v2,v3,v4,v5,v6,v7,v8,v9] t (0,0)):=by
  have h0:(w.setCell ⟨g,0,none⟩ v0).heap[g]?=some (.cells #[v0,z1,z2,z3,z4,z5,z6,z7,z8,z9] t (0,0)):=heap_setCell_same _ g 0 _ t v0 h
  have h1:((w.setCell ⟨g,0,none⟩ v0).setCell ⟨g,1,none⟩ v1).heap[g]?=some (.cells #[v0,v1,z2,z3,z4,z5,z6,z7,z8,z9] t (0,0)):=heap_setCell_same _ g 1 _ t v1 h0
  have h2:(((w.setCell ⟨g,0,none⟩ v0).setCell ⟨g,1,none⟩ v1).setCell ⟨g,2,none⟩ v2).heap[g]?=some (.cells #[v0,v1,v2,z3,z4,z5,z6,z7,z8,z9] t (0,0)):=heap_setCell_same _ g 2 _ t v2 h1
  have h3:((((w.setCell ⟨g,0,none⟩ v0).setCell ⟨g,1,none⟩ v1).setCell ⟨g,2,none⟩ v2).setCell ⟨g,3,none⟩ v3).heap[g]?=some (.cells #[v0,v1,v2,v3,z4,z5,z6,z7,z8,z9] t (0,0)):=heap_setCell_same _ g 3 _ t v3 h2
  have h4:(((((w.setCell ⟨g,0,none⟩ v0).setCell ⟨g,1,none⟩ v1).setCell ⟨g,2,none⟩ v2).setCell ⟨g,3,none⟩ v3).setCell ⟨g,4,none⟩ v4).heap[g]?=some (.cells #[v0,v1,v2,v3,v4,z5,z6,z7,z8,z9] t (0,0)):=heap_setCell_same _ g 4 _ t v4 h3
  have h5:((((((w.setCell ⟨g,0,none⟩ v0).setCell ⟨g,1,none⟩ v1).setCell ⟨g,2,none⟩ v2).setCell ⟨g,3,none⟩ v3).setCell ⟨g,4,none⟩ v4).setCell ⟨g,5,none⟩ v5).heap[g]?=some (.cells #[v0,v1,v2,v3,v4,v5,z6,z7,z8,z9] t (0,0)):=heap_setCell_same _ g 5 _ t v5 h4
  have h6:(((((((w.setCell ⟨g,0,none⟩ v0).setCell ⟨g,1,none⟩ v1).setCell ⟨g,2,none⟩ v2).setCell ⟨g,3,none⟩ v3).setCell ⟨g,4,none⟩ v4).setCell ⟨g,5,none⟩ v5).setCell ⟨g,6,none⟩ v6).heap[g]?=some (.cells #[v0,v1,v2,v3,v4,v5,v6,z7,z8,z9] t (0,0)):=heap_setCell_same _ g 6 _ t v6 h5
  have h7:((((((((w.setCell ⟨g,0,none⟩ v0).setCell ⟨g,1,none⟩ v1).setCell ⟨g,2,none⟩ v2).setCell ⟨g,3,none⟩ v3).setCell ⟨g,4,none⟩ v4).setCell ⟨g,5,none⟩ v5).setCell ⟨g,6,none⟩ v6).setCell ⟨g,7,none⟩ v7).heap[g]?=some (.cells #[v0,v1,v2,v3,v4,v5,v6,v7,z8,z9] t (0,0)):=heap_setCell_same _ g 7 _ t v7 h6
  have h8:(((((((((w.setCell ⟨g,0,none⟩ v0).setCell ⟨g,1,none⟩ v1).setCell ⟨g,2,none⟩ v2).setCell ⟨g,3,none⟩ v3).setCell ⟨g,4,none⟩ v4).setCell ⟨g,5,none⟩ v5).setCell ⟨g,6,none⟩ v6).setCell ⟨g,7,none⟩ v7).setCell ⟨g,8,none⟩ v8).heap[g]?=some (.cells #[v0,v1,v2,v3,v4,v5,v6,v7,v8,z9] t (0,0)):=heap_setCell_same _ g 8 _ t v8 h7
  have h9:((((((((((w.setCell ⟨g,0,none⟩ v0).setCell ⟨g,1,none⟩ v1).setCell ⟨g,2,none⟩ v2).setCell ⟨g,3,none⟩ v3).setCell ⟨g,4,none⟩ v4).setCell ⟨g,5,none⟩ v5).setCell ⟨g,6,none⟩ v6).setCell ⟨g,7,none⟩ v7).setCell ⟨g,8,none⟩ v8).setCell ⟨g,9,none⟩ v9).heap[g]?=some (.cells #[v0,v1,v2,v3,v4,v5,v6,v7,v8,v9] t (0,0)):=heap_setCell_same _ g 9 _ t v9 h8
  exact h9
theorem ten_own {B:Nat} {w0 w:World} {p:Value} {D:List PNode} (g:Nat) (v0 v1 v2 v3 v4 v5 v6 v7 v8 v9:Value) (h:OwnT B w0 w p D) (hg:B≤g) (hne:p.ownBlock≠some g):OwnT B w0 ((((((((((w.setCell ⟨g,0,none⟩ v0).setCell ⟨g,1,none⟩ v1).setCell ⟨g,2,none⟩ v2).setCell ⟨g,3,none⟩ v3).setCell ⟨g,4,none⟩ v4).setCell ⟨g,5,none⟩ v5).setCell ⟨g,6,none⟩ v6).setCell ⟨g,7,none⟩ v7).setCell ⟨g,8,none⟩ v8).setCell ⟨g,9,none⟩ v9) p D :=
  (((((((((h.set hg hne).set hg hne).set hg hne).set hg hne).set hg hne).set hg hne).set hg hne).set hg hne).set hg hne).set hg hne
theorem ten_other (w:World) (g b:Nat) (v0 v1 v2 v3 v4 v5 v6 v7 v8 v9:Value) (hb:b≠g):((((((((((w.setCell ⟨g,0,none⟩ v0).setCell ⟨g,1,none⟩ v1).setCell ⟨g,2,none⟩ v2).setCell ⟨g,3,none⟩ v3).setCell ⟨g,4,none⟩ v4).setCell ⟨g,5,none⟩ v5).setCell ⟨g,6,none⟩ v6).setCell ⟨g,7,none⟩ v7).setCell ⟨g,8,none⟩ v8).setCell ⟨g,9,none⟩ v9).heap[b]?=w.heap[b]?:=by
  iterate 9 refine (heap_setCell_other _ _ _ _ hb).trans ?_
  exact heap_setCell_other _ _ _ _ hb
theorem minus_step {L:List Int} {k V:Nat} (hl:L.length=V) (h:L.take k=List.replicate k (-1)) (hk:k<V):(L.set k (-1)).take (k+1)=List.replicate (k+1) (-1):=by
  apply List.ext_getElem?
  intro i
  rw [List.getElem?_take,List.getElem?_set,List.getElem?_replicate]
  by_cases hi:i<k+1
  · rw [if_pos hi,if_pos hi]
    by_cases he:k=i
    · rw [if_pos he,if_pos (by omega)]
    · rw [if_neg he]
      have h1:=congrArg (fun l=>l[i]?) h
      simp only [List.getElem?_take,List.getElem?_replicate] at h1
      rw [if_pos (by omega),if_pos (by omega)] at h1
      exact h1
  · rw [if_neg hi,if_neg hi]
set_option maxRecDepth 100000 in
set_option maxHeartbeats 16000000 in
theorem newGraph_any (n:PNet) (S:NetS) (w:World) (h:NetAt w w.heap.size S n) (hs:n.sound=0) (hm:n.modest) (hr:n.near) (hd:n.nodes.length≤900) :
    Calls Tryz.prog 68 #[.agg #[.int .i64 n.vars,.slice S.i n.inputs.length S.ic,.slice S.l n.latches.length S.lc,.slice S.o n.outs.length S.oc,.slice S.b n.bads.length S.bc,.slice S.c n.cons.length S.cc,.slice S.m n.mems.length S.mc,.slice S.a n.ands.length S.ac]] w (GraphLeft n S (dfill 0 n.nodes (List.replicate (n.vars.toNat+1) (-1))) w):=by
  obtain ⟨hW,hF,hG,hgood,hlits⟩:=good6_of hs
  have hv0:=hW.vars.1
  have hv1:=hW.vars.2
  have hmk:=run_ints n.vars hv0 (by omega)
  have hmx:max n.vars 0=n.vars:=by omega
  have hbx:=below_on (below_box w #[.int .i64 n.vars,.slice S.i n.inputs.length S.ic,.slice S.l n.latches.length S.lc,.slice S.o n.outs.length S.oc,.slice S.b n.bads.length S.bc,.slice S.c n.cons.length S.cc,.slice S.m n.mems.length S.mc,.slice S.a n.ands.length S.ac] 27) (below_box (w.alloc (.cells #[.int .i64 n.vars,.slice S.i n.inputs.length S.ic,.slice S.l n.latches.length S.lc,.slice S.o n.outs.length S.oc,.slice S.b n.bads.length S.bc,.slice S.c n.cons.length S.cc,.slice S.m n.mems.length S.mc,.slice S.a n.ands.length S.ac] 27)) #[.int .i64 0,.slice none 0 0,.slice none 0 0,.slice none 0 0,.slice none 0 0,.slice none 0 0,.slice none 0 0,.slice none 0 0,.slice none 0 0,.slice none 0 0] 102)
  have hM:=(netBox_new w n S 27).below (below_box (w.alloc (.cells #[.int .i64 n.vars,.slice S.i n.inputs.length S.ic,.slice S.l n.latches.length S.lc,.slice S.o n.outs.length S.oc,.slice S.b n.bads.length S.bc,.slice S.c n.cons.length S.cc,.slice S.m n.mems.length S.mc,.slice S.a n.ands.length S.ac] 27)) #[.int .i64 0,.slice none 0 0,.slice none 0 0,.slice none 0 0,.slice none 0 0,.slice none 0 0,.slice none 0 0,.slice none 0 0,.slice none 0 0,.slice none 0 0] 102) (by simp)
  have hs2:(World.alloc (World.alloc w (.cells #[.int .i64 n.vars,.slice S.i n.inputs.length S.ic,.slice S.l n.latches.length S.lc,.slice S.o n.outs.length S.oc,.slice S.b n.bads.length S.bc,.slice S.c n.cons.length S.cc,.slice S.m n.mems.length S.mc,.slice S.a n.ands.length S.ac] 27)) (.cells #[.int .i64 0,.slice none 0 0,.slice none 0 0,.slice none 0 0,.slice none 0 0,.slice none 0 0,.slice none 0 0,.slice none 0 0,.slice none 0 0,.slice none 0 0] 102)).heap.size=w.heap.size+1+1:=by simp
  have hz:(World.alloc (World.alloc w (.cells #[.int .i64 n.vars,.slice S.i n.inputs.length S.ic,.slice S.l n.latches.length S.lc,.slice S.o n.outs.length S.oc,.slice S.b n.bads.length S.bc,.slice S.c n.cons.length S.cc,.slice S.m n.mems.length S.mc,.slice S.a n.ands.length S.ac] 27)) (.cells #[.int .i64 0,.slice none 0 0,.slice none 0 0,.slice none 0 0,.slice none 0 0,.slice none 0 0,.slice none 0 0,.slice none 0 0,.slice none 0 0,.slice none 0 0] 102)).heap[w.heap.size+1]?=some (.cells #[.int .i64 0,.slice none 0 0,.slice none 0 0,.slice none 0 0,.slice none 0 0,.slice none 0 0,.slice none 0 0,.slice none 0 0,.slice none 0 0,.slice none 0 0] 102 (0,0)):=by
    have:=heap_alloc_new (World.alloc w (.cells #[.int .i64 n.vars,.slice S.i n.inputs.length S.ic,.slice S.l n.latches.length S.lc,.slice S.o n.outs.length S.oc,.slice S.b n.bads.length S.bc,.slice S.c n.cons.length S.cc,.slice S.m n.mems.length S.mc,.slice S.a n.ands.length S.ac] 27)) (.cells #[.int .i64 0,.slice none 0 0,.slice none 0 0,.slice none 0 0,.slice none 0 0,.slice none 0 0,.slice none 0 0,.slice none 0 0,.slice none 0 0,.slice none 0 0] 102)
    simpa using this
  generalize hw2:World.alloc (World.alloc w (.cells #[.int .i64 n.vars,.slice S.i n.inputs.length S.ic,.slice S.l n.latches.length S.lc,.slice S.o n.outs.length S.oc,.slice S.b n.bads.length S.bc,.slice S.c n.cons.length S.cc,.slice S.m n.mems.length S.mc,.slice S.a n.ands.length S.ac] 27)) (.cells #[.int .i64 0,.slice none 0 0,.slice none 0 0,.slice none 0 0,.slice none 0 0,.slice none 0 0,.slice none 0 0,.slice none 0 0,.slice none 0 0,.slice none 0 0] 102)=w2 at *
  have hN:=NetAt.later h hbx hbx.size
  have e0:=hM.n0
  have e1:=hM.n1
  have e2:=hM.n2
  have e3:=hM.n3
  have e4:=hM.n4
  have e5:=hM.n5
  have e6:=hM.n6
  have e7:=hM.n7
  have hg2:w.heap.size<w2.heap.size:=by omega
  have H:=Lib.hid (And.intro hN (And.intro hbx (And.intro hF (And.intro hG (And.intro hm (And.intro (told_of hr hF) (And.intro hd (And.intro hM hz))))))))
  clear hN hbx hF hG hm hr hd h hs hW hM hz hgood hlits
  go_enter Tryz.func68,Tryz.ntmps68
  go_wp2_with fail
  clear hw2
  go_region
  · have hD:=draft_b w2 n S (n.vars.toNat+1)
    rw [hs2] at hD
    go_wp2_with fail
    have HD:=Lib.hid hD
    clear hD
    generalize ((World.alloc (World.alloc w2 (.cells (madeCells #[.int .i64 0] (n.vars.toNat+1)) 3)) (.cells #[.int .i64 n.vars,.slice S.i n.inputs.length S.ic,.slice S.l n.latches.length S.lc,.slice S.o n.outs.length S.oc,.slice S.b n.bads.length S.bc,.slice S.c n.cons.length S.cc,.slice S.m n.mems.length S.mc,.slice S.a n.ands.length S.ac,.slice none 0 0,.slice (some ⟨w.heap.size+1+1,0,none⟩) (n.vars.toNat+1) (n.vars.toNat+1)] 102)).drew)=wx at *
    generalize hVV:n.vars.toNat=V at *
    have hV2:(V:Int)=n.vars:=by omega
    clear hmk
    go_loopg [18] (V+1) (fun m s18 wy=>∃ (k:Nat) (L:List Int),k+m=V+1∧s18=.int .i64 k∧Aside (Draft (w.heap.size+1+1) w2 wy (w.heap.size+1+1+1) (w.heap.size+1+1) n S (.slice none 0 0) [] L∧L.length=V+1∧L.take k=List.replicate k (-1)))
    case atStart=>exact ⟨0,_,by omega,rfl,HD.out,by simp,by simp⟩
    case round =>
      clear HD
      obtain ⟨k,L,hk,rfl,HS⟩:=hrel
      generalize gk=m at *
      by_cases hlt:(k:Int)<n.vars+1
      · have hk0:(0:Int)≤(k:Int):=by omega
        have hkb:(k:Int)≤2000:=by omega
        have e9:=HS.out.1.cell (j:=9) (u:=.slice (some ⟨(w.heap.size+1+1),0,none⟩) (V+1) (V+1)) (by rw [← HS.out.2.1];rfl)
        have hkv:(k:Int)<(V:Int)+1:=by omega
        obtain ⟨l,hl⟩:=some_of_lt (show k<L.length by have:=HS.out.2.1;omega)
        have m7:=HS.out.1.ints.cell hl
        have f7:=HS.out.1.ints.free k
        clear hl
        go_wp2_with fail
        go_roundg (m - 1)
        case measure=>omega
        case rel=>exact ⟨k+1,_,by omega,by first | rfl | simp,HS.out.1.put k (-1),by rw [List.length_set];exact HS.out.2.1,minus_step HS.out.2.1 HS.out.2.2 (by omega)⟩
      · have hlk:L=(List.replicate (V+1) (-1)):=by
          have h1:=HS.out.2.2
          have h2:=HS.out.2.1
          have h3:k=V+1:=by omega
          rw [h3,List.take_of_length_le (by omega)] at h1
          exact h1
        have HD:=Lib.hid (hlk ▸ HS.out.1)
        clear HS hlk
        have HB2:=HD.out.own.below
        have n7:=(HB2.cell (p:=⟨w.heap.size,7,none⟩) (show w.heap.size<w.heap.size+1+1 by omega)).trans e7
        clear HB2
        go_wp2_with fail
        go_loopg [29] n.ands.length (fun m s29 wy=>∃ (k:Nat) (D:List PNode) (p:Value),k+m=n.ands.length∧s29=.int .i64 k∧Aside (Draft (w.heap.size+1+1) w2 wy (w.heap.size+1+1+1) (w.heap.size+1+1) n S p D (dfill 0 D (List.replicate (V+1) (-1)))∧D++(andNodes k (n.ands.drop k)++memNodes 0 n.mems)=n.nodes))
        case atStart=>exact ⟨0,[],_,by omega,rfl,HD.out,by simp [PNet.nodes]⟩
        case round =>
          clear HD hlt hk n7
          obtain ⟨k,D,p,hk,rfl,HS⟩:=hrel
          generalize gk=m at *
          by_cases hlt:k<n.ands.length
          · obtain ⟨x,hx⟩:=some_of_lt hlt
            have hltI:(k:Int)<(n.ands.length:Int):=by omega
            have hkb:(k:Int)≤1000000:=by have:=H.out.2.2.2.2.1.ands;omega
            have hE:D++⟨false,0,(k:Int),[x.aa,x.ab],[x.av]⟩::(andNodes (k+1) (n.ands.drop (k+1))++memNodes 0 n.mems)=n.nodes:=by
              rw [← HS.out.2,drop_some hx];simp [andNodes]
            have hxm:(⟨false,0,(k:Int),[x.aa,x.ab],[x.av]⟩:PNode)∈n.nodes:=by rw [← hE];simp
            have hDl:D.length≤1000:=by have:=H.out.2.2.2.2.2.2.1;rw [← hE] at this;simp at this;omega
            have hLl:(dfill 0 D (List.replicate (V+1) (-1))).length=V+1:=by rw [dfill_len,List.length_replicate]
            have HA:=Lib.hid (add_any n S (w.heap.size+1+1) w2 wr (w.heap.size+1+1+1) (w.heap.size+1+1) p D _ _ HS.out.1 (NetAt.below HS.out.1.own.below (Nat.le_refl _) (hs2 ▸ H.out.1)) hxm H.out.2.2.2.2.1 H.out.2.2.2.2.2.1 H.out.2.2.1 hDl (fun u hu=>by have:=H.out.2.2.2.1.vars _ hxm u hu;omega) (H.out.2.2.2.1.lens _ hxm).2)
            have HE:=Lib.hid hE
            clear hx hxm hE hLl hDl
            go_wp2_with (go_at_call 111;refine HA.out.mono ?_;rintro e w5 ⟨p',rfl,hD'⟩)
            have HQ:=Lib.hid hD'
            clear hD' HA HS
            go_roundg (m - 1)
            case measure=>omega
            case rel=>exact ⟨k+1,_,p',by omega,by first | rfl | simp,by rw [dfill_snoc,Nat.zero_add];exact HQ.out,by rw [← HE.out];simp⟩
          · have hltn:¬ ((k:Int)<(n.ands.length:Int)):=by omega
            have HE:=Lib.hid (show D++memNodes 0 (n.mems.drop 0)=n.nodes by
              rw [← HS.out.2,List.drop_eq_nil_of_le (show n.ands.length≤k by omega)];simp [andNodes])
            have n6:=(HS.out.1.own.below.cell (p:=⟨w.heap.size,6,none⟩) (show w.heap.size<w.heap.size+1+1 by omega)).trans e6
            have HD:=Lib.hid HS.out.1
            clear HS
            go_wp2_with fail
            clear n6
            go_loopg [39] n.mems.length (fun m s39 wy=>∃ (i:Nat) (D:List PNode) (p:Value),i+m=n.mems.length∧s39=.int .i64 i∧Aside (Draft (w.heap.size+1+1) w2 wy (w.heap.size+1+1+1) (w.heap.size+1+1) n S p D (dfill 0 D (List.replicate (V+1) (-1)))∧D++memNodes i (n.mems.drop i)=n.nodes))
            case atStart=>exact ⟨0,D,p,by omega,rfl,HD.out,HE.out⟩
            case round =>
              clear HD HE hlt hltn hk
              obtain ⟨i,D,p,hi,rfl,HS⟩:=hrel
              generalize gk=m at *
              by_cases hlt:i<n.mems.length
              · obtain ⟨x,hx⟩:=some_of_lt hlt
                have hltI:(i:Int)<(n.mems.length:Int):=by omega
                have hi0:(0:Int)≤(i:Int):=by omega
                have hib:(i:Int)≤1000000:=by have:=H.out.2.2.2.2.1.mems;omega
                have hxl:=(H.out.2.2.2.2.1.ports x (mem_of_some hx)).1
                have HE:=Lib.hid (show D++(portNodes x.mw i 0 (x.mr.drop 0)++memNodes (i+1) (n.mems.drop (i+1)))=n.nodes by
                  rw [← HS.out.2,drop_some hx];simp [memNodes])
                obtain ⟨b,o,hSm,hbB,hcell⟩:=(NetAt.below HS.out.1.own.below (Nat.le_refl _) (hs2 ▸ H.out.1)).mems.at hx
                obtain ⟨a1,c1,a2,c2,m0,m1,m2,m3,m4,hP⟩:=hcell i x hx
                have HD:=Lib.hid HS.out.1
                clear hcell hx hP HS
                rw [hSm]
                have HSm:=Lib.hid hSm
                clear hSm
                go_wp2_with fail
                have HD2:=Lib.hid (HD.out.call (below_box wr #[.int .i64 x.ma,.int .i64 x.mw,.bool x.mn,.slice a1 x.mr.length c1,.slice a2 x.mx.length c2] 54))
                clear HD
                generalize wr.alloc (.cells #[.int .i64 x.ma,.int .i64 x.mw,.bool x.mn,.slice a1 x.mr.length c1,.slice a2 x.mx.length c2] 54)=wq at *
                go_loopg [47] x.mr.length (fun m s47 wy=>∃ (j:Nat) (D:List PNode) (p:Value),j+m=x.mr.length∧s47=.int .i64 j∧Aside (Draft (w.heap.size+1+1) w2 wy (w.heap.size+1+1+1) (w.heap.size+1+1) n S p D (dfill 0 D (List.replicate (V+1) (-1)))∧D++(portNodes x.mw i j (x.mr.drop j)++memNodes (i+1) (n.mems.drop (i+1)))=n.nodes))
                case atStart=>exact ⟨0,D,p,by omega,rfl,HD2.out,HE.out⟩
                case round =>
                  clear HD2 HE
                  obtain ⟨j,D,p,hj,rfl,HS⟩:=hrel
                  generalize gk=m3 at *
                  by_cases hjl:j<x.mr.length
                  · obtain ⟨r,hr⟩:=some_of_lt hjl
                    have hjlI:(j:Int)<(x.mr.length:Int):=by omega
                    have hjb:(j:Int)≤1000000:=by omega
                    have hE:D++⟨true,(i:Int),(j:Int),r.ra,dataL r.rv x.mw⟩::(portNodes x.mw i (j+1) (x.mr.drop (j+1))++memNodes (i+1) (n.mems.drop (i+1)))=n.nodes:=by
                      rw [← HS.out.2,drop_some hr];simp [portNodes]
                    have hxm:(⟨true,(i:Int),(j:Int),r.ra,dataL r.rv x.mw⟩:PNode)∈n.nodes:=by rw [← hE];simp
                    have hDl:D.length≤1000:=by have:=H.out.2.2.2.2.2.2.1;rw [← hE] at this;simp at this;omega
                    have hLl:(dfill 0 D (List.replicate (V+1) (-1))).length=V+1:=by rw [dfill_len,List.length_replicate]
                    have HA:=Lib.hid (add_any n S (w.heap.size+1+1) w2 wr (w.heap.size+1+1+1) (w.heap.size+1+1) p D _ _ HS.out.1 (NetAt.below HS.out.1.own.below (Nat.le_refl _) (hs2 ▸ H.out.1)) hxm H.out.2.2.2.2.1 H.out.2.2.2.2.2.1 H.out.2.2.1 hDl (fun u hu=>by have:=H.out.2.2.2.1.vars _ hxm u hu;omega) (H.out.2.2.2.1.lens _ hxm).2)
                    have HE:=Lib.hid hE
                    clear hr hxm hE hLl hDl
                    go_wp2_with (go_at_call 111;refine HA.out.mono ?_;rintro e w5 ⟨p',rfl,hD'⟩)
                    have HQ:=Lib.hid hD'
                    clear hD' HA HS
                    go_roundg (m3 - 1)
                    case measure=>omega
                    case rel=>exact ⟨j+1,_,p',by omega,by first | rfl | simp,by rw [dfill_snoc,Nat.zero_add];exact HQ.out,by rw [← HE.out];simp⟩
                  · have hjn:¬ ((j:Int)<(x.mr.length:Int)):=by omega
                    have HE:=Lib.hid (show D++memNodes (i+1) (n.mems.drop (i+1))=n.nodes by
                      rw [← HS.out.2,List.drop_eq_nil_of_le (show x.mr.length≤j by omega)];simp [portNodes])
                    have HD:=Lib.hid HS.out.1
                    clear HS
                    go_wp2_with fail
                    rw [← HSm.out]
                    go_roundg (m - 1)
                    case measure=>omega
                    case rel=>exact ⟨i+1,D,p,by omega,by first | rfl | simp,HD.out,HE.out⟩
              · have hltn:¬ ((i:Int)<(n.mems.length:Int)):=by omega
                have hDn:D=n.nodes:=by
                  rw [← HS.out.2,List.drop_eq_nil_of_le (show n.mems.length≤i by omega)];simp [memNodes]
                have HD:=Lib.hid (hDn ▸ HS.out.1)
                clear HS hDn
                have hZ:=(HD.out.own.below.block (w.heap.size+1) (show w.heap.size+1<w.heap.size+1+1 by omega)).trans H.out.2.2.2.2.2.2.2.2
                have hLl:(dfill 0 n.nodes (List.replicate (V+1) (-1))).length=V+1:=by rw [dfill_len,List.length_replicate]
                have d0:wr.cell? ⟨(w.heap.size+1+1+1),0,none⟩=some (.int .i64 n.vars):=HD.out.cell (j:=0) rfl
                have d1:wr.cell? ⟨(w.heap.size+1+1+1),1,none⟩=some (.slice S.i n.inputs.length S.ic):=HD.out.cell (j:=1) rfl
                have d2:wr.cell? ⟨(w.heap.size+1+1+1),2,none⟩=some (.slice S.l n.latches.length S.lc):=HD.out.cell (j:=2) rfl
                have d3:wr.cell? ⟨(w.heap.size+1+1+1),3,none⟩=some (.slice S.o n.outs.length S.oc):=HD.out.cell (j:=3) rfl
                have d4:wr.cell? ⟨(w.heap.size+1+1+1),4,none⟩=some (.slice S.b n.bads.length S.bc):=HD.out.cell (j:=4) rfl
                have d5:wr.cell? ⟨(w.heap.size+1+1+1),5,none⟩=some (.slice S.c n.cons.length S.cc):=HD.out.cell (j:=5) rfl
                have d6:wr.cell? ⟨(w.heap.size+1+1+1),6,none⟩=some (.slice S.m n.mems.length S.mc):=HD.out.cell (j:=6) rfl
                have d7:wr.cell? ⟨(w.heap.size+1+1+1),7,none⟩=some (.slice S.a n.ands.length S.ac):=HD.out.cell (j:=7) rfl
                have d8:wr.cell? ⟨(w.heap.size+1+1+1),8,none⟩=some (p):=HD.out.cell (j:=8) rfl
                have d9:wr.cell? ⟨(w.heap.size+1+1+1),9,none⟩=some (.slice (some ⟨(w.heap.size+1+1),0,none⟩) (V+1) (V+1)):=HD.out.cell (j:=9) (by show some (Value.slice (some ⟨(w.heap.size+1+1),0,none⟩) (dfill 0 n.nodes (List.replicate (V+1) (-1))).length (dfill 0 n.nodes (List.replicate (V+1) (-1))).length)=_;rw [hLl])
                have r0:wr.cell? ⟨w.heap.size+1,0,none⟩=some (.int .i64 0):=by rw [cell_of_row wr (w.heap.size+1) 0 _ _ _ hZ];rfl
                have f0:wr.frozen? ⟨w.heap.size+1,0,none⟩=false:=frozen_of_row wr (w.heap.size+1) 0 _ _ hZ
                have r1:wr.cell? ⟨w.heap.size+1,1,none⟩=some (.slice none 0 0):=by rw [cell_of_row wr (w.heap.size+1) 1 _ _ _ hZ];rfl
                have f1:wr.frozen? ⟨w.heap.size+1,1,none⟩=false:=frozen_of_row wr (w.heap.size+1) 1 _ _ hZ
                have r2:wr.cell? ⟨w.heap.size+1,2,none⟩=some (.slice none 0 0):=by rw [cell_of_row wr (w.heap.size+1) 2 _ _ _ hZ];rfl
                have f2:wr.frozen? ⟨w.heap.size+1,2,none⟩=false:=frozen_of_row wr (w.heap.size+1) 2 _ _ hZ
                have r3:wr.cell? ⟨w.heap.size+1,3,none⟩=some (.slice none 0 0):=by rw [cell_of_row wr (w.heap.size+1) 3 _ _ _ hZ];rfl
                have f3:wr.frozen? ⟨w.heap.size+1,3,none⟩=false:=frozen_of_row wr (w.heap.size+1) 3 _ _ hZ
                have r4:wr.cell? ⟨w.heap.size+1,4,none⟩=some (.slice none 0 0):=by rw [cell_of_row wr (w.heap.size+1) 4 _ _ _ hZ];rfl
                have f4:wr.frozen? ⟨w.heap.size+1,4,none⟩=false:=frozen_of_row wr (w.heap.size+1) 4 _ _ hZ
                have r5:wr.cell? ⟨w.heap.size+1,5,none⟩=some (.slice none 0 0):=by rw [cell_of_row wr (w.heap.size+1) 5 _ _ _ hZ];rfl
                have f5:wr.frozen? ⟨w.heap.size+1,5,none⟩=false:=frozen_of_row wr (w.heap.size+1) 5 _ _ hZ
                have r6:wr.cell? ⟨w.heap.size+1,6,none⟩=some (.slice none 0 0):=by rw [cell_of_row wr (w.heap.size+1) 6 _ _ _ hZ];rfl
                have f6:wr.frozen? ⟨w.heap.size+1,6,none⟩=false:=frozen_of_row wr (w.heap.size+1) 6 _ _ hZ
                have r7:wr.cell? ⟨w.heap.size+1,7,none⟩=some (.slice none 0 0):=by rw [cell_of_row wr (w.heap.size+1) 7 _ _ _ hZ];rfl
                have f7:wr.frozen? ⟨w.heap.size+1,7,none⟩=false:=frozen_of_row wr (w.heap.size+1) 7 _ _ hZ
                have r8:wr.cell? ⟨w.heap.size+1,8,none⟩=some (.slice none 0 0):=by rw [cell_of_row wr (w.heap.size+1) 8 _ _ _ hZ];rfl
                have f8:wr.frozen? ⟨w.heap.size+1,8,none⟩=false:=frozen_of_row wr (w.heap.size+1) 8 _ _ hZ
                have r9:wr.cell? ⟨w.heap.size+1,9,none⟩=some (.slice none 0 0):=by rw [cell_of_row wr (w.heap.size+1) 9 _ _ _ hZ];rfl
                have f9:wr.frozen? ⟨w.heap.size+1,9,none⟩=false:=frozen_of_row wr (w.heap.size+1) 9 _ _ hZ
                obtain ⟨A,c,rfl,_⟩:=HD.out.own.form
                have HL:=Lib.hid hLl
                have HZ:=Lib.hid hZ
                clear hLl hZ
                go_wp2_with fail
                try simp only [Exit.inBlock,Exit.then]
                refine bodyPost_ret (results_cell_row rfl _ _ (w.heap.size+1) 102 _ (0,0) _ rfl (ten_row wr (w.heap.size+1) 102 _ _ _ _ _ _ _ _ _ _ _ _ _ _ _ _ _ _ _ _ (HZ.out)) Tryz.underlying102 rfl (by kernel_rfl)) rfl ?_
                have hne:(Value.slice A n.nodes.length c).ownBlock≠some (w.heap.size+1):=fun e=>by have:=HD.out.own.lt _ e;omega
                refine ⟨_,(w.heap.size+1+1),by rw [HL.out],ten_own (w.heap.size+1) _ _ _ _ _ _ _ _ _ _ (HD.out.own.down H.out.2.1 (by omega)) (by omega) hne,HD.out.ints.same (ten_other wr (w.heap.size+1) (w.heap.size+1+1) _ _ _ _ _ _ _ _ _ _ (by omega)),HD.out.ne2,by omega⟩
  · have hD:=draft_a w2 n S (n.vars.toNat+1)
    rw [hs2] at hD
    go_wp2_with fail
    have HD:=Lib.hid hD
    clear hD
    generalize ((World.alloc (World.alloc w2 (.cells #[.int .i64 n.vars,.slice S.i n.inputs.length S.ic,.slice S.l n.latches.length S.lc,.slice S.o n.outs.length S.oc,.slice S.b n.bads.length S.bc,.slice S.c n.cons.length S.cc,.slice S.m n.mems.length S.mc,.slice S.a n.ands.length S.ac,.slice none 0 0,.slice (some ⟨w.heap.size+1+1+1,0,none⟩) (n.vars.toNat+1) (n.vars.toNat+1)] 102)) (.cells (madeCells #[.int .i64 0] (n.vars.toNat+1)) 3)).drew)=wx at *
    generalize hVV:n.vars.toNat=V at *
    have hV2:(V:Int)=n.vars:=by omega
    clear hmk
    go_loopg [18] (V+1) (fun m s18 wy=>∃ (k:Nat) (L:List Int),k+m=V+1∧s18=.int .i64 k∧Aside (Draft (w.heap.size+1+1) w2 wy (w.heap.size+1+1) (w.heap.size+1+1+1) n S (.slice none 0 0) [] L∧L.length=V+1∧L.take k=List.replicate k (-1)))
    case atStart=>exact ⟨0,_,by omega,rfl,HD.out,by simp,by simp⟩
    case round =>
      clear HD
      obtain ⟨k,L,hk,rfl,HS⟩:=hrel
      generalize gk=m at *
      by_cases hlt:(k:Int)<n.vars+1
      · have hk0:(0:Int)≤(k:Int):=by omega
        have hkb:(k:Int)≤2000:=by omega
        have e9:=HS.out.1.cell (j:=9) (u:=.slice (some ⟨(w.heap.size+1+1+1),0,none⟩) (V+1) (V+1)) (by rw [← HS.out.2.1];rfl)
        have hkv:(k:Int)<(V:Int)+1:=by omega
        obtain ⟨l,hl⟩:=some_of_lt (show k<L.length by have:=HS.out.2.1;omega)
        have m7:=HS.out.1.ints.cell hl
        have f7:=HS.out.1.ints.free k
        clear hl
        go_wp2_with fail
        go_roundg (m - 1)
        case measure=>omega
        case rel=>exact ⟨k+1,_,by omega,by first | rfl | simp,HS.out.1.put k (-1),by rw [List.length_set];exact HS.out.2.1,minus_step HS.out.2.1 HS.out.2.2 (by omega)⟩
      · have hlk:L=(List.replicate (V+1) (-1)):=by
          have h1:=HS.out.2.2
          have h2:=HS.out.2.1
          have h3:k=V+1:=by omega
          rw [h3,List.take_of_length_le (by omega)] at h1
          exact h1
        have HD:=Lib.hid (hlk ▸ HS.out.1)
        clear HS hlk
        have HB2:=HD.out.own.below
        have n7:=(HB2.cell (p:=⟨w.heap.size,7,none⟩) (show w.heap.size<w.heap.size+1+1 by omega)).trans e7
        clear HB2
        go_wp2_with fail
        go_loopg [29] n.ands.length (fun m s29 wy=>∃ (k:Nat) (D:List PNode) (p:Value),k+m=n.ands.length∧s29=.int .i64 k∧Aside (Draft (w.heap.size+1+1) w2 wy (w.heap.size+1+1) (w.heap.size+1+1+1) n S p D (dfill 0 D (List.replicate (V+1) (-1)))∧D++(andNodes k (n.ands.drop k)++memNodes 0 n.mems)=n.nodes))
        case atStart=>exact ⟨0,[],_,by omega,rfl,HD.out,by simp [PNet.nodes]⟩
        case round =>
          clear HD hlt hk n7
          obtain ⟨k,D,p,hk,rfl,HS⟩:=hrel
          generalize gk=m at *
          by_cases hlt:k<n.ands.length
          · obtain ⟨x,hx⟩:=some_of_lt hlt
            have hltI:(k:Int)<(n.ands.length:Int):=by omega
            have hkb:(k:Int)≤1000000:=by have:=H.out.2.2.2.2.1.ands;omega
            have hE:D++⟨false,0,(k:Int),[x.aa,x.ab],[x.av]⟩::(andNodes (k+1) (n.ands.drop (k+1))++memNodes 0 n.mems)=n.nodes:=by
              rw [← HS.out.2,drop_some hx];simp [andNodes]
            have hxm:(⟨false,0,(k:Int),[x.aa,x.ab],[x.av]⟩:PNode)∈n.nodes:=by rw [← hE];simp
            have hDl:D.length≤1000:=by have:=H.out.2.2.2.2.2.2.1;rw [← hE] at this;simp at this;omega
            have hLl:(dfill 0 D (List.replicate (V+1) (-1))).length=V+1:=by rw [dfill_len,List.length_replicate]
            have HA:=Lib.hid (add_any n S (w.heap.size+1+1) w2 wr (w.heap.size+1+1) (w.heap.size+1+1+1) p D _ _ HS.out.1 (NetAt.below HS.out.1.own.below (Nat.le_refl _) (hs2 ▸ H.out.1)) hxm H.out.2.2.2.2.1 H.out.2.2.2.2.2.1 H.out.2.2.1 hDl (fun u hu=>by have:=H.out.2.2.2.1.vars _ hxm u hu;omega) (H.out.2.2.2.1.lens _ hxm).2)
            have HE:=Lib.hid hE
            clear hx hxm hE hLl hDl
            go_wp2_with (go_at_call 111;refine HA.out.mono ?_;rintro e w5 ⟨p',rfl,hD'⟩)
            have HQ:=Lib.hid hD'
            clear hD' HA HS
            go_roundg (m - 1)
            case measure=>omega
            case rel=>exact ⟨k+1,_,p',by omega,by first | rfl | simp,by rw [dfill_snoc,Nat.zero_add];exact HQ.out,by rw [← HE.out];simp⟩
          · have hltn:¬ ((k:Int)<(n.ands.length:Int)):=by omega
            have HE:=Lib.hid (show D++memNodes 0 (n.mems.drop 0)=n.nodes by
              rw [← HS.out.2,List.drop_eq_nil_of_le (show n.ands.length≤k by omega)];simp [andNodes])
            have n6:=(HS.out.1.own.below.cell (p:=⟨w.heap.size,6,none⟩) (show w.heap.size<w.heap.size+1+1 by omega)).trans e6
            have HD:=Lib.hid HS.out.1
            clear HS
            go_wp2_with fail
            clear n6
            go_loopg [39] n.mems.length (fun m s39 wy=>∃ (i:Nat) (D:List PNode) (p:Value),i+m=n.mems.length∧s39=.int .i64 i∧Aside (Draft (w.heap.size+1+1) w2 wy (w.heap.size+1+1) (w.heap.size+1+1+1) n S p D (dfill 0 D (List.replicate (V+1) (-1)))∧D++memNodes i (n.mems.drop i)=n.nodes))
            case atStart=>exact ⟨0,D,p,by omega,rfl,HD.out,HE.out⟩
            case round =>
              clear HD HE hlt hltn hk
              obtain ⟨i,D,p,hi,rfl,HS⟩:=hrel
              generalize gk=m at *
              by_cases hlt:i<n.mems.length
              · obtain ⟨x,hx⟩:=some_of_lt hlt
                have hltI:(i:Int)<(n.mems.length:Int):=by omega
                have hi0:(0:Int)≤(i:Int):=by omega
                have hib:(i:Int)≤1000000:=by have:=H.out.2.2.2.2.1.mems;omega
                have hxl:=(H.out.2.2.2.2.1.ports x (mem_of_some hx)).1
                have HE:=Lib.hid (show D++(portNodes x.mw i 0 (x.mr.drop 0)++memNodes (i+1) (n.mems.drop (i+1)))=n.nodes by
                  rw [← HS.out.2,drop_some hx];simp [memNodes])
                obtain ⟨b,o,hSm,hbB,hcell⟩:=(NetAt.below HS.out.1.own.below (Nat.le_refl _) (hs2 ▸ H.out.1)).mems.at hx
                obtain ⟨a1,c1,a2,c2,m0,m1,m2,m3,m4,hP⟩:=hcell i x hx
                have HD:=Lib.hid HS.out.1
                clear hcell hx hP HS
                rw [hSm]
                have HSm:=Lib.hid hSm
                clear hSm
                go_wp2_with fail
                have HD2:=Lib.hid (HD.out.call (below_box wr #[.int .i64 x.ma,.int .i64 x.mw,.bool x.mn,.slice a1 x.mr.length c1,.slice a2 x.mx.length c2] 54))
                clear HD
                generalize wr.alloc (.cells #[.int .i64 x.ma,.int .i64 x.mw,.bool x.mn,.slice a1 x.mr.length c1,.slice a2 x.mx.length c2] 54)=wq at *
                go_loopg [47] x.mr.length (fun m s47 wy=>∃ (j:Nat) (D:List PNode) (p:Value),j+m=x.mr.length∧s47=.int .i64 j∧Aside (Draft (w.heap.size+1+1) w2 wy (w.heap.size+1+1) (w.heap.size+1+1+1) n S p D (dfill 0 D (List.replicate (V+1) (-1)))∧D++(portNodes x.mw i j (x.mr.drop j)++memNodes (i+1) (n.mems.drop (i+1)))=n.nodes))
                case atStart=>exact ⟨0,D,p,by omega,rfl,HD2.out,HE.out⟩
                case round =>
                  clear HD2 HE
                  obtain ⟨j,D,p,hj,rfl,HS⟩:=hrel
                  generalize gk=m3 at *
                  by_cases hjl:j<x.mr.length
                  · obtain ⟨r,hr⟩:=some_of_lt hjl
                    have hjlI:(j:Int)<(x.mr.length:Int):=by omega
                    have hjb:(j:Int)≤1000000:=by omega
                    have hE:D++⟨true,(i:Int),(j:Int),r.ra,dataL r.rv x.mw⟩::(portNodes x.mw i (j+1) (x.mr.drop (j+1))++memNodes (i+1) (n.mems.drop (i+1)))=n.nodes:=by
                      rw [← HS.out.2,drop_some hr];simp [portNodes]
                    have hxm:(⟨true,(i:Int),(j:Int),r.ra,dataL r.rv x.mw⟩:PNode)∈n.nodes:=by rw [← hE];simp
                    have hDl:D.length≤1000:=by have:=H.out.2.2.2.2.2.2.1;rw [← hE] at this;simp at this;omega
                    have hLl:(dfill 0 D (List.replicate (V+1) (-1))).length=V+1:=by rw [dfill_len,List.length_replicate]
                    have HA:=Lib.hid (add_any n S (w.heap.size+1+1) w2 wr (w.heap.size+1+1) (w.heap.size+1+1+1) p D _ _ HS.out.1 (NetAt.below HS.out.1.own.below (Nat.le_refl _) (hs2 ▸ H.out.1)) hxm H.out.2.2.2.2.1 H.out.2.2.2.2.2.1 H.out.2.2.1 hDl (fun u hu=>by have:=H.out.2.2.2.1.vars _ hxm u hu;omega) (H.out.2.2.2.1.lens _ hxm).2)
                    have HE:=Lib.hid hE
                    clear hr hxm hE hLl hDl
                    go_wp2_with (go_at_call 111;refine HA.out.mono ?_;rintro e w5 ⟨p',rfl,hD'⟩)
                    have HQ:=Lib.hid hD'
                    clear hD' HA HS
                    go_roundg (m3 - 1)
                    case measure=>omega
                    case rel=>exact ⟨j+1,_,p',by omega,by first | rfl | simp,by rw [dfill_snoc,Nat.zero_add];exact HQ.out,by rw [← HE.out];simp⟩
                  · have hjn:¬ ((j:Int)<(x.mr.length:Int)):=by omega
                    have HE:=Lib.hid (show D++memNodes (i+1) (n.mems.drop (i+1))=n.nodes by
                      rw [← HS.out.2,List.drop_eq_nil_of_le (show x.mr.length≤j by omega)];simp [portNodes])
                    have HD:=Lib.hid HS.out.1
                    clear HS
                    go_wp2_with fail
                    rw [← HSm.out]
                    go_roundg (m - 1)
                    case measure=>omega
                    case rel=>exact ⟨i+1,D,p,by omega,by first | rfl | simp,HD.out,HE.out⟩
              · have hltn:¬ ((i:Int)<(n.mems.length:Int)):=by omega
                have hDn:D=n.nodes:=by
                  rw [← HS.out.2,List.drop_eq_nil_of_le (show n.mems.length≤i by omega)];simp [memNodes]
                have HD:=Lib.hid (hDn ▸ HS.out.1)
                clear HS hDn
                have hZ:=(HD.out.own.below.block (w.heap.size+1) (show w.heap.size+1<w.heap.size+1+1 by omega)).trans H.out.2.2.2.2.2.2.2.2
                have hLl:(dfill 0 n.nodes (List.replicate (V+1) (-1))).length=V+1:=by rw [dfill_len,List.length_replicate]
                have d0:wr.cell? ⟨(w.heap.size+1+1),0,none⟩=some (.int .i64 n.vars):=HD.out.cell (j:=0) rfl
                have d1:wr.cell? ⟨(w.heap.size+1+1),1,none⟩=some (.slice S.i n.inputs.length S.ic):=HD.out.cell (j:=1) rfl
                have d2:wr.cell? ⟨(w.heap.size+1+1),2,none⟩=some (.slice S.l n.latches.length S.lc):=HD.out.cell (j:=2) rfl
                have d3:wr.cell? ⟨(w.heap.size+1+1),3,none⟩=some (.slice S.o n.outs.length S.oc):=HD.out.cell (j:=3) rfl
                have d4:wr.cell? ⟨(w.heap.size+1+1),4,none⟩=some (.slice S.b n.bads.length S.bc):=HD.out.cell (j:=4) rfl
                have d5:wr.cell? ⟨(w.heap.size+1+1),5,none⟩=some (.slice S.c n.cons.length S.cc):=HD.out.cell (j:=5) rfl
                have d6:wr.cell? ⟨(w.heap.size+1+1),6,none⟩=some (.slice S.m n.mems.length S.mc):=HD.out.cell (j:=6) rfl
                have d7:wr.cell? ⟨(w.heap.size+1+1),7,none⟩=some (.slice S.a n.ands.length S.ac):=HD.out.cell (j:=7) rfl
                have d8:wr.cell? ⟨(w.heap.size+1+1),8,none⟩=some (p):=HD.out.cell (j:=8) rfl
                have d9:wr.cell? ⟨(w.heap.size+1+1),9,none⟩=some (.slice (some ⟨(w.heap.size+1+1+1),0,none⟩) (V+1) (V+1)):=HD.out.cell (j:=9) (by show some (Value.slice (some ⟨(w.heap.size+1+1+1),0,none⟩) (dfill 0 n.nodes (List.replicate (V+1) (-1))).length (dfill 0 n.nodes (List.replicate (V+1) (-1))).length)=_;rw [hLl])
                have r0:wr.cell? ⟨w.heap.size+1,0,none⟩=some (.int .i64 0):=by rw [cell_of_row wr (w.heap.size+1) 0 _ _ _ hZ];rfl
                have f0:wr.frozen? ⟨w.heap.size+1,0,none⟩=false:=frozen_of_row wr (w.heap.size+1) 0 _ _ hZ
                have r1:wr.cell? ⟨w.heap.size+1,1,none⟩=some (.slice none 0 0):=by rw [cell_of_row wr (w.heap.size+1) 1 _ _ _ hZ];rfl
                have f1:wr.frozen? ⟨w.heap.size+1,1,none⟩=false:=frozen_of_row wr (w.heap.size+1) 1 _ _ hZ
                have r2:wr.cell? ⟨w.heap.size+1,2,none⟩=some (.slice none 0 0):=by rw [cell_of_row wr (w.heap.size+1) 2 _ _ _ hZ];rfl
                have f2:wr.frozen? ⟨w.heap.size+1,2,none⟩=false:=frozen_of_row wr (w.heap.size+1) 2 _ _ hZ
                have r3:wr.cell? ⟨w.heap.size+1,3,none⟩=some (.slice none 0 0):=by rw [cell_of_row wr (w.heap.size+1) 3 _ _ _ hZ];rfl
                have f3:wr.frozen? ⟨w.heap.size+1,3,none⟩=false:=frozen_of_row wr (w.heap.size+1) 3 _ _ hZ
                have r4:wr.cell? ⟨w.heap.size+1,4,none⟩=some (.slice none 0 0):=by rw [cell_of_row wr (w.heap.size+1) 4 _ _ _ hZ];rfl
                have f4:wr.frozen? ⟨w.heap.size+1,4,none⟩=false:=frozen_of_row wr (w.heap.size+1) 4 _ _ hZ
                have r5:wr.cell? ⟨w.heap.size+1,5,none⟩=some (.slice none 0 0):=by rw [cell_of_row wr (w.heap.size+1) 5 _ _ _ hZ];rfl
                have f5:wr.frozen? ⟨w.heap.size+1,5,none⟩=false:=frozen_of_row wr (w.heap.size+1) 5 _ _ hZ
                have r6:wr.cell? ⟨w.heap.size+1,6,none⟩=some (.slice none 0 0):=by rw [cell_of_row wr (w.heap.size+1) 6 _ _ _ hZ];rfl
                have f6:wr.frozen? ⟨w.heap.size+1,6,none⟩=false:=frozen_of_row wr (w.heap.size+1) 6 _ _ hZ
                have r7:wr.cell? ⟨w.heap.size+1,7,none⟩=some (.slice none 0 0):=by rw [cell_of_row wr (w.heap.size+1) 7 _ _ _ hZ];rfl
                have f7:wr.frozen? ⟨w.heap.size+1,7,none⟩=false:=frozen_of_row wr (w.heap.size+1) 7 _ _ hZ
                have r8:wr.cell? ⟨w.heap.size+1,8,none⟩=some (.slice none 0 0):=by rw [cell_of_row wr (w.heap.size+1) 8 _ _ _ hZ];rfl
                have f8:wr.frozen? ⟨w.heap.size+1,8,none⟩=false:=frozen_of_row wr (w.heap.size+1) 8 _ _ hZ
                have r9:wr.cell? ⟨w.heap.size+1,9,none⟩=some (.slice none 0 0):=by rw [cell_of_row wr (w.heap.size+1) 9 _ _ _ hZ];rfl
                have f9:wr.frozen? ⟨w.heap.size+1,9,none⟩=false:=frozen_of_row wr (w.heap.size+1) 9 _ _ hZ
                obtain ⟨A,c,rfl,_⟩:=HD.out.own.form
                have HL:=Lib.hid hLl
                have HZ:=Lib.hid hZ
                clear hLl hZ
                go_wp2_with fail
                try simp only [Exit.inBlock,Exit.then]
                refine bodyPost_ret (results_cell_row rfl _ _ (w.heap.size+1) 102 _ (0,0) _ rfl (ten_row wr (w.heap.size+1) 102 _ _ _ _ _ _ _ _ _ _ _ _ _ _ _ _ _ _ _ _ (HZ.out)) Tryz.underlying102 rfl (by kernel_rfl)) rfl ?_
                have hne:(Value.slice A n.nodes.length c).ownBlock≠some (w.heap.size+1):=fun e=>by have:=HD.out.own.lt _ e;omega
                refine ⟨_,(w.heap.size+1+1+1),by rw [HL.out],ten_own (w.heap.size+1) _ _ _ _ _ _ _ _ _ _ (HD.out.own.down H.out.2.1 (by omega)) (by omega) hne,HD.out.ints.same (ten_other wr (w.heap.size+1) (w.heap.size+1+1+1) _ _ _ _ _ _ _ _ _ _ (by omega)),HD.out.ne2,by omega⟩
def amax (L:List Int) (l:List Nat):Int:=l.foldl (fun a x=>max a (at0 L x+1)) 0
theorem amax_snoc (L:List Int) (l:List Nat) (x:Nat):amax L (l++[x])=max (amax L l) (at0 L x+1):=by simp [amax]
theorem amax_congr {L M:List Int} {l:List Nat} (h:∀ x∈l,at0 L x=at0 M x):amax L l=amax M l:=by
  unfold amax
  have:∀ (l:List Nat) (a:Int),(∀ x∈l,at0 L x=at0 M x)→l.foldl (fun a x=>max a (at0 L x+1)) a=l.foldl (fun a x=>max a (at0 M x+1)) a:=by
    intro l
    induction l with
    | nil=>intro a _;rfl
    | cons x l ih =>
      intro a h
      simp only [List.foldl_cons]
      rw [h x (by simp),ih _ (fun y hy=>h y (by simp [hy]))]
  exact this l 0 h
theorem fold_bound {L:List Int} {c:Int}:∀ (l:List Nat) (a:Int),0≤a→a≤c+1→(∀ x∈l,at0 L x≤c)→0≤l.foldl (fun a x=>max a (at0 L x+1)) a∧l.foldl (fun a x=>max a (at0 L x+1)) a≤c+1
  | [],a,h0,h1,_=>⟨h0,h1⟩
  | x::l,a,h0,h1,h=>by
    have hx:=h x (by simp)
    show 0≤l.foldl (fun a x=>max a (at0 L x+1)) (max a (at0 L x+1))∧l.foldl (fun a x=>max a (at0 L x+1)) (max a (at0 L x+1))≤c+1
    exact fold_bound l _ (by omega) (by omega) (fun y hy=>h y (by simp [hy]))
theorem amax_bound {L:List Int} {c:Int} {l:List Nat} (hc:0≤c) (h:∀ x∈l,at0 L x≤c):0≤amax L l∧amax L l≤c+1:=fold_bound l 0 (Int.le_refl _) (by omega) h
theorem lvl_fold {L:List Int}:∀ (fs:List Int) (n:Int),0≤n→(∀ f∈fs,0≤at0 L (f / 2).toNat)→lvl L n fs=(fs.map fun f=>(f / 2).toNat).foldl (fun a x=>max a (at0 L x+1)) (n+1)
  | [],n,_,_=>rfl
  | f::fs,n,h0,h=>by
    have hf:=h f (by simp)
    show (if L.getD (f / 2).toNat 0<0 then -1 else lvl L (max n (L.getD (f / 2).toNat 0)) fs)=_
    have hf':¬ L.getD (f / 2).toNat 0<0:=by show ¬ at0 L (f / 2).toNat<0;omega
    rw [if_neg hf',lvl_fold fs _ (by omega) (fun g hg=>h g (by simp [hg]))]
    simp only [List.map_cons,List.foldl_cons]
    congr 1
    show max n (at0 L (f / 2).toNat)+1=max (n+1) (at0 L (f / 2).toNat+1)
    omega
theorem amax_plevel {L:List Int} {x:PNode} (hn:x.nf≠[]) (h:∀ f∈x.nf,0≤at0 L (f / 2).toNat):amax L (x.nf.map fun f=>(f / 2).toNat)=plevel L x:=by
  unfold plevel
  rw [lvl_fold _ 0 (Int.le_refl _) h]
  cases hx:x.nf with
  | nil=>exact absurd hx hn
  | cons f fs =>
    have hf:=h f (by rw [hx];simp)
    unfold amax
    simp only [List.map_cons,List.foldl_cons]
    congr 1
    omega
structure LvInv (D:List PNode) (V:Nat) (F:List Nat) (L:List Int):Prop where
  len:L.length=V+1
  le:∀ u∈F,u≤V
  nodup:F.Nodup
  closed:∀ u∈F,∀ x∈belowOf D u,x∈F
  off:∀ u,u ∉ F→at0 L u=0
  on:∀ u∈F,at0 L u=amax L (belowOf D u)
  low:∀ u,0≤at0 L u∧at0 L u≤F.length
theorem nodup_le {V:Nat} {F:List Nat} (hn:F.Nodup) (h:∀ u∈F,u≤V):F.length≤V+1:=by
  have:=nodup_sub (m:=List.range (V+1)) hn fun u hu=>List.mem_range.2 (by have:=h u hu;omega)
  simpa using this
theorem LvInv.start (D:List PNode) (V:Nat):LvInv D V [] (List.replicate (V+1) 0) :=
  ⟨by simp,by simp,by simp,by simp,fun u _=>at0_zeros _ _,by simp,fun u=>by rw [at0_zeros];simp⟩
theorem LvInv.size {D:List PNode} {V:Nat} {F:List Nat} {L:List Int} (h:LvInv D V F L):F.length≤V+1:=nodup_le h.nodup h.le
theorem LvInv.step {D:List PNode} {V:Nat} {F:List Nat} {L:List Int} (h:LvInv D V F L) {v:Nat} (hv:v≤V) (hF:v ∉ F) (hb:∀ x∈belowOf D v,x∈F):LvInv D V (F++[v]) (L.set v (amax L (belowOf D v))):=by
  have hl:=h.len
  have hat:∀ u,at0 (L.set v (amax L (belowOf D v))) u=if v=u then amax L (belowOf D v) else at0 L u:=fun u=>by
    rw [at0_set]
    by_cases e:v=u
    · rw [if_pos ⟨e,by omega⟩,if_pos e]
    · rw [if_neg (fun h=>e h.1),if_neg e]
  have hsame:∀ l:List Nat,(∀ x∈l,x∈F)→amax (L.set v (amax L (belowOf D v))) l=amax L l:=fun l hl=>amax_congr fun x hx=>by
    rw [hat,if_neg (fun e=>hF (by rw [e];exact hl x hx))]
  have hbd:=amax_bound (L:=L) (c:=(F.length:Int)) (l:=belowOf D v) (by omega) (fun x _=>(h.low x).2)
  refine ⟨by simp [hl],fun u hu=>?_,?_,fun u hu x hx=>?_,fun u hu=>?_,fun u hu=>?_,fun u=>?_⟩
  · rcases List.mem_append.1 hu with hu | hu
    · exact h.le u hu
    · simp at hu;omega
  · rw [List.nodup_append]
    exact ⟨h.nodup,by simp,fun a ha b hb e=>by simp at hb;subst hb;subst e;exact hF ha⟩
  · rcases List.mem_append.1 hu with hu | hu
    · exact List.mem_append_left _ (h.closed u hu x hx)
    · simp at hu;subst hu;exact List.mem_append_left _ (hb x hx)
  · rw [hat,if_neg (fun e=>hu (by simp [e]))]
    exact h.off u (fun e=>hu (by simp [e]))
  · rcases List.mem_append.1 hu with hu | hu
    · rw [hat,if_neg (fun e=>hF (by rw [e];exact hu)),hsame _ (h.closed u hu),h.on u hu]
    · simp at hu
      subst hu
      rw [hat,if_pos rfl,hsame _ hb]
  · rw [hat]
    have:=h.low u
    simp only [List.length_append,List.length_singleton]
    split
    · omega
    · omega
theorem LvInv.whole {D:List PNode} {V:Nat} {F:List Nat} {L:List Int} (hG:Good6 V D) (hn:∀ x∈D,x.nf≠[]) (h:LvInv D V F L) (hall:∀ u,u≤V→u∈F):IsLevels V D L:=by
  have hx:∀ x∈D,∀ v∈x.nv,at0 L v.toNat=plevel L x:=fun x hx v hv=>by
    have hv2:=hG.vars x hx v hv
    rw [h.on v.toNat (hall _ (by omega)),below_some hG hx hv rfl]
    exact amax_plevel (hn x hx) fun f _=>(h.low _).1
  refine ⟨h.len,fun i hi hno=>?_,hx,fun x hxD=>?_⟩
  · rw [h.on i (hall i hi),below_none hno]
    rfl
  · obtain ⟨v,hv⟩:=List.exists_mem_of_ne_nil _ (hG.some x hxD)
    rw [← hx x hxD v hv]
    exact (h.low _).1
theorem none_of_loops {D:List PNode} {V:Nat} (hG:Good6 V D) (h:Loops (belowOf D) V):∀ L,¬ IsLevels V D L:=fun L hL=>by
  refine h (fun u=>at0 L u) fun u hu x hx=>?_
  by_cases hd:∃ y∈D,∃ v∈y.nv,v.toNat=u
  · obtain ⟨y,hy,v,hv,e⟩:=hd
    rw [below_some hG hy hv e] at hx
    obtain ⟨f,hf,rfl⟩:=List.mem_map.1 hx
    show at0 L (f / 2).toNat<at0 L u
    rw [← e,hL.node y hy v hv]
    exact ((lvl_pos (L:=L) 0 (Int.le_refl _) (hL.pos y hy)).2 f hf).2
  · rw [below_none (fun y hy v hv e=>hd ⟨y,hy,v,hv,e⟩)] at hx
    simp at hx
theorem nf_some {n:PNet} (h:n.sound=0):∀ x∈n.nodes,x.nf≠[]:=fun x hx=>by
  obtain ⟨_,hF,_⟩:=good6_of h
  rcases node_at hx with ⟨_,_,j,a,_,_,rf,_⟩ | ⟨_,t,m,j,r,_,hmm,_,hr,rf,_⟩
  · rw [rf];simp
  · rw [rf]
    intro e
    have h1:=(hF m (mem_of_some hmm)).reads r (mem_of_some hr)
    have h2:=(hF m (mem_of_some hmm)).addr
    rw [e] at h1
    simp at h1
    omega
structure LvB (B:Nat) (w0:World) (bg xb lb V:Nat) (n:PNet) (S:NetS) (a d:Option Addr) (c cd:Nat) (L M:List Int) (W:World):Prop where
  below:Below B w0 W
  size:B≤W.heap.size
  box:W.heap[bg]?=some (.cells #[.int .i64 n.vars,.slice S.i n.inputs.length S.ic,.slice S.l n.latches.length S.lc,.slice S.o n.outs.length S.oc,.slice S.b n.bads.length S.bc,.slice S.c n.cons.length S.cc,.slice S.m n.mems.length S.mc,.slice S.a n.ands.length S.ac,.slice a n.nodes.length c,.slice d L.length cd] 102 (0,0))
  ptr:W.heap[xb]?=some (.cells #[.slice (some ⟨lb,0,none⟩) (V+1) (V+1)] 22 (0,0))
  ints:Ints W lb M
structure LvP (B lo bg xb lb:Nat):Prop where
  g0:B≤bg
  x0:B≤xb
  l0:B≤lb
  g1:bg<lo
  x1:xb<lo
  l1:lb<lo
  gl:bg≠lb
  xl:xb≠lb
variable {B lo bg xb lb V:Nat} {w0:World} {n:PNet} {S:NetS} {a d:Option Addr} {c cd:Nat} {L M:List Int} {W W':World}
theorem LvB.still (h:LvB B w0 bg xb lb V n S a d c cd L M W) (hp:LvP B lo bg xb lb) (hm:Moves lo (lo+5) noB W noB W'):LvB B w0 bg xb lb V n S a d c cd L M W':=by
  have hk:∀ b,b<W.heap.size→b<lo→W'.heap[b]?=W.heap[b]?:=fun b h1 h2=>(hm.block b h1 (.inl h2) (fun k=>k)).1
  refine ⟨⟨hm.os.trans h.below.os,hm.tape.trans h.below.tape,hm.output.trans h.below.output,Nat.le_trans h.below.size hm.size,fun k hk2=>(hk k ?_ ?_).trans (h.below.block k hk2)⟩,Nat.le_trans h.size hm.size,(hk _ (lt_of_row h.box) hp.g1).trans h.box,(hk _ (lt_of_row h.ptr) hp.x1).trans h.ptr,h.ints.same (hk _ h.ints.lt hp.l1)⟩
  · have:=h.size;omega
  · have:=hp.g0;have:=hp.g1;omega
theorem LvB.call (h:LvB B w0 bg xb lb V n S a d c cd L M W) (hb:Below W.heap.size W W'):LvB B w0 bg xb lb V n S a d c cd L M W' :=
  ⟨h.below.trans (hb.mono h.size),Nat.le_trans h.size hb.size,(hb.block _ (lt_of_row h.box)).trans h.box,(hb.block _ (lt_of_row h.ptr)).trans h.ptr,h.ints.same (hb.block _ h.ints.lt)⟩
theorem LvB.put (h:LvB B w0 bg xb lb V n S a d c cd L M W) (hp:LvP B lo bg xb lb) (j:Nat) (k:Int):LvB B w0 bg xb lb V n S a d c cd L (M.set j k) (W.setCell ⟨lb,j,none⟩ (.int .i64 k)) :=
  ⟨h.below.setCell (p:=⟨lb,j,none⟩) hp.l0 _,by have:=h.size;simp [World.setCell];omega,(heap_setCell_other _ _ _ _ hp.gl).trans h.box,(heap_setCell_other _ _ _ _ hp.xl).trans h.ptr,h.ints.set j k⟩
theorem LvB.cell (h:LvB B w0 bg xb lb V n S a d c cd L M W) {j:Nat} {u:Value} (hj:(#[.int .i64 n.vars,.slice S.i n.inputs.length S.ic,.slice S.l n.latches.length S.lc,.slice S.o n.outs.length S.oc,.slice S.b n.bads.length S.bc,.slice S.c n.cons.length S.cc,.slice S.m n.mems.length S.mc,.slice S.a n.ands.length S.ac,.slice a n.nodes.length c,.slice d L.length cd]:Array Value)[j]?=some u):W.cell? ⟨bg,j,none⟩=some u:=by
  rw [cell_of_row W bg j _ _ (0,0) h.box]
  exact hj
theorem LvB.round {v hi:Nat} {A:Option Addr} {l:List Int} {t:Int} {W0:World} (h:LvB B w0 bg xb lb V n S a d c cd L (M.set v t) W) (hp:LvP B lo bg xb lb) (hH:High W hi A l) (hlb:lb<hi) (hm:Moves lo lo (fun b=>b=lb) W0 (fun b=>b=lb) W) (u:Int) :
    LvB B w0 bg xb lb V n S a d c cd L (M.set v u) (W.setCell ⟨lb,v,none⟩ (.int .i64 u)).drew∧High (W.setCell ⟨lb,v,none⟩ (.int .i64 u)).drew hi A l∧Moves lo lo (fun b=>b=lb) W0 (fun b=>b=lb) (W.setCell ⟨lb,v,none⟩ (.int .i64 u)).drew:=by
  have h1:=(h.put hp v u).call (Below.refl _ _).drew
  rw [List.set_set] at h1
  refine ⟨h1,hH.keeps ((Keeps.set (lo:=0) (hi:=hi) W (a:=⟨lb,v,none⟩) (.int .i64 u) (Nat.zero_le _) hlb).trans (.of_below (Below.refl _ _).drew)),hm.trans ?_⟩
  have h2:Moves lo lo (fun b=>b=lb) W (fun b=>b=lb) (W.setCell ⟨lb,v,none⟩ (.int .i64 u)):=⟨rfl,rfl,rfl,by simp,fun b hb hr ho=>⟨heap_setCell_other W ⟨lb,v,none⟩ b _ ho,ho⟩⟩
  exact h2.trans (Moves.of_below (Below.refl _ _).drew)
set_option maxRecDepth 100000 in
set_option maxHeartbeats 4000000 in
theorem leave_levels (hg:GraphAt w0 B S n a d L) (ht:Tells n.nodes V L) (hG:Good6 V n.nodes) (hV:V≤2000) (hp:LvP B lo bg xb lb) (F:List Nat) (v:Nat) (hb:LvB B w0 bg xb lb V n S a d c cd L M W) (hI:LvInv n.nodes V F M) (hv:v≤V) (hF:v ∉ F) (hbl:∀ x∈belowOf n.nodes v,x∈F) :
    Calls Tryz.prog 114 #[.int .i64 (v:Nat),.pointer (some ⟨bg,0,none⟩),.pointer (some ⟨xb,0,none⟩)] W fun e w'=>e=.returned (.tuple #[])∧LvB B w0 bg xb lb V n S a d c cd L (M.set v (amax M (belowOf n.nodes v))) w'∧Moves lo lo (fun b=>b=lb) W (fun b=>b=lb) w':=by
  have e0:W.cell? ⟨bg,0,none⟩=some (.int .i64 n.vars):=hb.cell (j:=0) rfl
  have e1:W.cell? ⟨bg,1,none⟩=some (.slice S.i n.inputs.length S.ic):=hb.cell (j:=1) rfl
  have e2:W.cell? ⟨bg,2,none⟩=some (.slice S.l n.latches.length S.lc):=hb.cell (j:=2) rfl
  have e3:W.cell? ⟨bg,3,none⟩=some (.slice S.o n.outs.length S.oc):=hb.cell (j:=3) rfl
  have e4:W.cell? ⟨bg,4,none⟩=some (.slice S.b n.bads.length S.bc):=hb.cell (j:=4) rfl
  have e5:W.cell? ⟨bg,5,none⟩=some (.slice S.c n.cons.length S.cc):=hb.cell (j:=5) rfl
  have e6:W.cell? ⟨bg,6,none⟩=some (.slice S.m n.mems.length S.mc):=hb.cell (j:=6) rfl
  have e7:W.cell? ⟨bg,7,none⟩=some (.slice S.a n.ands.length S.ac):=hb.cell (j:=7) rfl
  have e8:W.cell? ⟨bg,8,none⟩=some (.slice a n.nodes.length c):=hb.cell (j:=8) rfl
  have e9:W.cell? ⟨bg,9,none⟩=some (.slice d L.length cd):=hb.cell (j:=9) rfl
  have hBl:=Lib.hid (below_any n S a d c cd L V W v (hg.later hb.below hb.size) ht hv (by omega) hG)
  have hl:=hI.len
  have hlen:=(below_le hG v).2
  have H:=Lib.hid (And.intro hb (And.intro hI (And.intro hp (And.intro hF (And.intro hbl (And.intro hl (below_le hG v).1))))))
  clear hg ht hb hI hp hF hbl hl hG
  go_enter Tryz.func114,Tryz.ntmps114
  go_wp2_with (go_at_call 113;refine hBl.out.mono ?_;rintro e w2 ⟨A,c2,rfl,hH,hs2,hb2⟩)
  have HS0:=Lib.hid (show LvB B w0 bg xb lb V n S a d c cd L (M.set v (amax M ((belowOf n.nodes v).take 0))) w2∧High w2 W.heap.size A (nats (belowOf n.nodes v))∧Moves lo lo (fun b=>b=lb) W (fun b=>b=lb) w2 from by
    refine ⟨?_,hH,Moves.of_below hb2⟩
    have:M.set v (amax M ((belowOf n.nodes v).take 0))=M:=by
      apply List.ext_getElem?
      intro i
      rw [List.getElem?_set]
      split
      · rename_i e
        subst e
        have h0:=H.out.2.1.off v H.out.2.2.2.1
        have h1:=at0_lt (L:=M) (i:=v) (by have:=H.out.2.2.2.2.2.1;omega)
        rw [h0] at h1
        rw [h1,if_pos (by have:=H.out.2.2.2.2.2.1;omega)]
        rfl
      · rfl
    rw [this]
    exact H.out.1.call hb2)
  clear hH hs2 hb2 e0 e1 e2 e3 e4 e5 e6 e7 e8 e9 hBl
  rw [nats_len]
  generalize hbel:belowOf n.nodes v=bel at *
  go_loopg [5,10] bel.length (fun m _ s10 wx=>∃ k:Nat,k+m=bel.length∧s10=.int .i64 k∧Aside (LvB B w0 bg xb lb V n S a d c cd L (M.set v (amax M (bel.take k))) wx∧High wx W.heap.size A (nats bel)∧Moves lo lo (fun b=>b=lb) W (fun b=>b=lb) wx))
  case atStart=>exact ⟨0,by omega,rfl,HS0.out⟩
  case round =>
    clear HS0
    obtain ⟨k,hk,rfl,HS⟩:=hrel
    generalize gk=m at *
    by_cases hlt:k<bel.length
    · obtain ⟨x,hx⟩:=some_of_lt hlt
      have hltI:(k:Int)<(bel.length:Int):=by omega
      have hk0:(0:Int)≤(k:Int):=by omega
      have hkb:(k:Int)≤1000:=by omega
      obtain ⟨b,s,hS,_,hc⟩:=HS.out.2.1.at (nats_at hx)
      have m6:=hc k _ (nats_at hx)
      have hxm:=mem_of_some hx
      have hxF:=H.out.2.2.2.2.1 x hxm
      have hxV:=H.out.2.2.2.2.2.2 x hxm
      have hne:v≠x:=fun e=>H.out.2.2.2.1 (e ▸ hxF)
      have hlm:=H.out.2.2.2.2.2.1
      have hlow:=H.out.2.1.low
      have hsz:=H.out.2.1.size
      have hab:=amax_bound (L:=M) (c:=(F.length:Int)) (l:=bel.take k) (by omega) (fun x _=>(hlow x).2)
      have cx:wr.cell? ⟨xb,0,none⟩=some (.slice (some ⟨lb,0,none⟩) (V+1) (V+1)):=by rw [cell_of_row wr xb 0 _ _ _ HS.out.1.ptr];rfl
      have cv:wr.cell? ⟨lb,v,none⟩=some (.int .i64 (amax M (bel.take k))):=HS.out.1.ints.cell (by rw [List.getElem?_set,if_pos rfl,if_pos (by omega)])
      have cy:wr.cell? ⟨lb,x,none⟩=some (.int .i64 (at0 M x)):=HS.out.1.ints.cell (by rw [List.getElem?_set,if_neg hne];exact at0_lt (by omega))
      have fv:=HS.out.1.ints.free v
      have hv0:(0:Int)≤(v:Int):=by omega
      have hv1:(v:Int)<(V:Int)+1:=by omega
      have hx0:(0:Int)≤(x:Int):=by omega
      have hx1:(x:Int)<(V:Int)+1:=by omega
      have hy0:=(hlow x).1
      have hy1:at0 M x≤1000000:=by have:=(hlow x).2;omega
      have HX:=Lib.hid (show amax M (bel.take (k+1))=max (amax M (bel.take k)) (at0 M x+1) by rw [take_some hx,amax_snoc])
      have HQ:=Lib.hid (HS.out.1.round H.out.2.2.1 HS.out.2.1 (show lb<W.heap.size from H.out.1.ints.lt) HS.out.2.2 (amax M (bel.take (k+1))))
      rw [HX.out] at HQ
      subst hS
      generalize amax M (bel.take k)=acc at *
      generalize at0 M x=ax at *
      clear hc hx hxm hxF hxV hlow hsz hlm HS
      go_wp2_with fail
      go_region
      all_goals
        go_wp2_with fail
        go_roundg (m - 1)
        case measure=>omega
        case rel=>exact ⟨k+1,by omega,by first | rfl | simp,by rw [HX.out];exact HQ.out⟩
    · have hltn:¬ ((k:Int)<(bel.length:Int)):=by omega
      have HX:=Lib.hid (show bel.take k=bel from List.take_of_length_le (by omega))
      go_wp2_with fail
      go_end0
      exact ⟨rfl,HX.out ▸ HS.out.1,HS.out.2.2⟩
def LvI (B:Nat) (w0:World) (bg xb lb V:Nat) (n:PNet) (S:NetS) (a d:Option Addr) (c cd:Nat) (L:List Int) (o:Nat→Prop) (F:List Nat) (W:World):Prop :=
  o=(fun b=>b=lb)∧∃ M,LvB B w0 bg xb lb V n S a d c cd L M W∧LvInv n.nodes V F M
theorem levels_leaves {B lo bg xb lb V:Nat} {w0:World} {n:PNet} {S:NetS} {a d:Option Addr} {c cd:Nat} {L:List Int} (hg:GraphAt w0 B S n a d L) (ht:Tells n.nodes V L) (hG:Good6 V n.nodes) (hV:V≤2000) (hp:LvP B lo bg xb lb) :
    Leaves lo V (belowOf n.nodes) (.agg #[.int .i64 n.vars,.slice S.i n.inputs.length S.ic,.slice S.l n.latches.length S.lc,.slice S.o n.outs.length S.oc,.slice S.b n.bads.length S.bc,.slice S.c n.cons.length S.cc,.slice S.m n.mems.length S.mc,.slice S.a n.ands.length S.ac,.slice a n.nodes.length c,.slice d L.length cd]) 114 #[.pointer (some ⟨bg,0,none⟩),.pointer (some ⟨xb,0,none⟩)] (LvI B w0 bg xb lb V n S a d c cd L) where
  low:=fun v _ x hx=>(below_le hG v).1 x hx
  short:=fun v _=>Nat.le_trans (below_le hG v).2 (by omega)
  still:=fun o F w w' h hm=>by
    obtain ⟨rfl,M,hB,hI⟩:=h
    exact ⟨rfl,M,hB.still hp hm,hI⟩
  own:=fun o F w b h hb=>by
    obtain ⟨rfl,M,hB,hI⟩:=h
    have e:b=lb:=hb
    subst e
    exact ⟨hB.ints.lt,.inl hp.l1⟩
  enters:=fun args w=>enters_of Tryz.func114 (by kernel_rfl) rfl args w
  below:=fun o F w v h hv=>by
    obtain ⟨rfl,M,hB,hI⟩:=h
    exact below_any n S a d c cd L V w v (hg.later hB.below hB.size) ht hv (by omega) hG
  leave:=fun o F w v h hv hF hb _=>by
    obtain ⟨rfl,M,hB,hI⟩:=h
    refine Calls.mono (leave_levels hg ht hG hV hp F v hB hI hv hF hb) ?_
    rintro e w' ⟨rfl,h1,h2⟩
    exact ⟨_,rfl,⟨rfl,_,h1,hI.step hv hF hb⟩,h2⟩
theorem range_snoc (k:Nat):nats (List.range (k+1))=nats (List.range k)++[(k:Int)]:=by unfold nats;rw [List.range_succ,List.map_append];rfl
set_option maxRecDepth 100000 in
set_option maxHeartbeats 8000000 in
theorem levels_graph (n:PNet) (S:NetS) (a d:Option Addr) (c cd:Nat) (L:List Int) (V:Nat) (w:World) (hg:GraphAt w w.heap.size S n a d L) (ht:Tells n.nodes V L) (hG:Good6 V n.nodes) (hV2:(V:Int)=n.vars) (hV:V≤2000) (hnf:∀ x∈n.nodes,x.nf≠[]) :
    Calls Tryz.prog 69 #[.agg #[.int .i64 n.vars,.slice S.i n.inputs.length S.ic,.slice S.l n.latches.length S.lc,.slice S.o n.outs.length S.oc,.slice S.b n.bads.length S.bc,.slice S.c n.cons.length S.cc,.slice S.m n.mems.length S.mc,.slice S.a n.ands.length S.ac,.slice a n.nodes.length c,.slice d L.length cd]] w (TLevels w (levelsOf V n.nodes)):=by
  have hVV:n.vars.toNat=V:=by omega
  have hmk:=run_ints n.vars (by omega) (by omega)
  rw [hVV] at hmk
  have hmx:max n.vars 0=n.vars:=by omega
  have hbx:=below_box w #[.int .i64 n.vars,.slice S.i n.inputs.length S.ic,.slice S.l n.latches.length S.lc,.slice S.o n.outs.length S.oc,.slice S.b n.bads.length S.bc,.slice S.c n.cons.length S.cc,.slice S.m n.mems.length S.mc,.slice S.a n.ands.length S.ac,.slice a n.nodes.length c,.slice d L.length cd] 102
  have hM:=gBox_new w n S (.slice a n.nodes.length c) (.slice d L.length cd) 102
  have hrow:=heap_alloc_new w (.cells #[.int .i64 n.vars,.slice S.i n.inputs.length S.ic,.slice S.l n.latches.length S.lc,.slice S.o n.outs.length S.oc,.slice S.b n.bads.length S.bc,.slice S.c n.cons.length S.cc,.slice S.m n.mems.length S.mc,.slice S.a n.ands.length S.ac,.slice a n.nodes.length c,.slice d L.length cd] 102)
  have s1:(w.alloc (.cells #[.int .i64 n.vars,.slice S.i n.inputs.length S.ic,.slice S.l n.latches.length S.lc,.slice S.o n.outs.length S.oc,.slice S.b n.bads.length S.bc,.slice S.c n.cons.length S.cc,.slice S.m n.mems.length S.mc,.slice S.a n.ands.length S.ac,.slice a n.nodes.length c,.slice d L.length cd] 102)).heap.size=w.heap.size+1:=by simp
  generalize hw1:w.alloc (.cells #[.int .i64 n.vars,.slice S.i n.inputs.length S.ic,.slice S.l n.latches.length S.lc,.slice S.o n.outs.length S.oc,.slice S.b n.bads.length S.bc,.slice S.c n.cons.length S.cc,.slice S.m n.mems.length S.mc,.slice S.a n.ands.length S.ac,.slice a n.nodes.length c,.slice d L.length cd] 102)=w1 at *
  have hI1:=Ints.new w1 (V+1)
  have hb2:=below_on hbx (below_box w1 (madeCells #[.int .i64 0] (V+1)) 3)
  have s2:(w1.alloc (.cells (madeCells #[.int .i64 0] (V+1)) 3)).heap.size=w.heap.size+1+1:=by simp [s1]
  replace hrow:=alloc_old (o:=.cells (madeCells #[.int .i64 0] (V+1)) 3) hrow
  rw [s1] at hI1
  generalize hw2:w1.alloc (.cells (madeCells #[.int .i64 0] (V+1)) 3)=w2 at *
  have hrow3:=heap_alloc_new w2 (.cells #[.slice (some ⟨w.heap.size+1,0,none⟩) (V+1) (V+1)] 22)
  have hb3:=below_on hb2 (below_box w2 #[.slice (some ⟨w.heap.size+1,0,none⟩) (V+1) (V+1)] 22)
  have s3:(w2.alloc (.cells #[.slice (some ⟨w.heap.size+1,0,none⟩) (V+1) (V+1)] 22)).heap.size=w.heap.size+1+1+1:=by simp [s2]
  replace hrow:=alloc_old (o:=.cells #[.slice (some ⟨w.heap.size+1,0,none⟩) (V+1) (V+1)] 22) hrow
  have hI3:Ints (w2.alloc (.cells #[.slice (some ⟨w.heap.size+1,0,none⟩) (V+1) (V+1)] 22)) (w.heap.size+1) (List.replicate (V+1) 0):=alloc_old hI1
  rw [s2] at hrow3
  generalize hw3:w2.alloc (.cells #[.slice (some ⟨w.heap.size+1,0,none⟩) (V+1) (V+1)] 22)=w3 at *
  have e0:=hM.net.n0
  have x3:w3.cell? ⟨w.heap.size+1+1,0,none⟩=some (.slice (some ⟨w.heap.size+1,0,none⟩) (V+1) (V+1)):=by rw [cell_of_row w3 _ 0 _ _ _ hrow3];rfl
  have HB:=Lib.hid (show LvB w.heap.size w w.heap.size (w.heap.size+1+1) (w.heap.size+1) V n S a d c cd L (List.replicate (V+1) 0) w3 from ⟨hb3,hb3.size,hrow,hrow3,hI3⟩)
  have HG:=Lib.hid (And.intro hg (And.intro ht (And.intro hG hnf)))
  clear hg ht hG hnf hbx hM hrow hI1 hb2 hrow3 hb3 hI3
  go_enter Tryz.func69,Tryz.ntmps69
  go_wp2_with fail
  clear hw1 hw2 hw3 hmk
  go_loopg [5,15] (V+1) (fun m s5 s15 wx=>∃ k:Nat,k+m=V+1∧s15=.int .i64 k∧Own w3.heap.size w3 wx s5 (nats (List.range k)))
  case atStart=>exact ⟨0,by omega,rfl,Own.nil _ _ (Nat.le_refl _)⟩
  case round =>
    obtain ⟨k,hk,rfl,hO⟩:=hrel
    generalize gk=m at *
    by_cases hlt:(k:Int)<n.vars+1
    · have hkv:(k:Int)<(V:Int)+1:=by omega
      have hk0:(0:Int)≤(k:Int):=by omega
      have hkb:(k:Int)≤2000:=by omega
      have hlo:(nats (List.range k)).length≤1000000:=by rw [nats_len,List.length_range];omega
      have HX:=Lib.hid (range_snoc k)
      go_wp2_with (at_builtin;refine wpl_one rfl _ _ rfl rfl hO rfl hlo ?_;intro v' w' hO2 hW)
      go_roundg (m - 1)
      case measure=>omega
      case rel=>exact ⟨k+1,by omega,by first | rfl | simp,by rw [HX.out];exact hO2⟩
    · have hkV:k=V+1:=by omega
      subst hkV
      have hkn:¬ (((V+1:Nat):Int)<(V:Int)+1):=by omega
      have HB2:=Lib.hid (HB.out.call hO.2.1)
      have g0:wr.cell? ⟨w.heap.size,0,none⟩=some (.int .i64 n.vars):=HB2.out.cell (j:=0) rfl
      have g1:wr.cell? ⟨w.heap.size,1,none⟩=some (.slice S.i n.inputs.length S.ic):=HB2.out.cell (j:=1) rfl
      have g2:wr.cell? ⟨w.heap.size,2,none⟩=some (.slice S.l n.latches.length S.lc):=HB2.out.cell (j:=2) rfl
      have g3:wr.cell? ⟨w.heap.size,3,none⟩=some (.slice S.o n.outs.length S.oc):=HB2.out.cell (j:=3) rfl
      have g4:wr.cell? ⟨w.heap.size,4,none⟩=some (.slice S.b n.bads.length S.bc):=HB2.out.cell (j:=4) rfl
      have g5:wr.cell? ⟨w.heap.size,5,none⟩=some (.slice S.c n.cons.length S.cc):=HB2.out.cell (j:=5) rfl
      have g6:wr.cell? ⟨w.heap.size,6,none⟩=some (.slice S.m n.mems.length S.mc):=HB2.out.cell (j:=6) rfl
      have g7:wr.cell? ⟨w.heap.size,7,none⟩=some (.slice S.a n.ands.length S.ac):=HB2.out.cell (j:=7) rfl
      have g8:wr.cell? ⟨w.heap.size,8,none⟩=some (.slice a n.nodes.length c):=HB2.out.cell (j:=8) rfl
      have g9:wr.cell? ⟨w.heap.size,9,none⟩=some (.slice d L.length cd):=HB2.out.cell (j:=9) rfl
      obtain ⟨A,cA,rfl,hsA,_⟩:=hO.form
      rw [nats_len,List.length_range]
      have hfar:Far wr.heap.size (fun b=>b=w.heap.size+1) wr A (nats (List.range (V+1))):=fun hn=>by
        obtain ⟨b,s,e,hlt2,hc⟩:=hsA hn
        subst e
        have:=(hO.lt (g:=b) rfl).1
        exact ⟨b,s,rfl,.inl hlt2,hlt2,by omega,hc⟩
      have hp:LvP w.heap.size wr.heap.size w.heap.size (w.heap.size+1+1) (w.heap.size+1):=by
        have:=hO.2.1.size
        exact ⟨by omega,by omega,by omega,by omega,by omega,by omega,by omega,by omega⟩
      have HW:=walk_any (fun b=>b=w.heap.size+1) (List.range (V+1)) A cA wr (levels_leaves HG.out.1 HG.out.2.1 HG.out.2.2.1 hV hp) (by omega) ⟨rfl,_,HB2.out,LvInv.start n.nodes V⟩ (fun x hx=>by have:=List.mem_range.1 hx;omega) (by rw [List.length_range];omega) hfar
      rw [hV2,List.length_range] at HW
      have HX:=Lib.hid HW
      have hbl:=hO.2.1.size
      have hxr:=HB2.out.ptr
      clear HW hfar hp hsA
      go_wp2_with (go_at_call 112;refine HX.out.mono ?_;rintro e w4 ⟨bb,o4,rfl,hMv,hD⟩;have x4:w4.cell? ⟨w.heap.size+1+1,0,none⟩=some (.slice (some ⟨w.heap.size+1,0,none⟩) (V+1) (V+1)):=(by rw [cell_of_row w4 _ 0 _ _ _ ((hMv.block (w.heap.size+1+1) (lt_of_row hxr) (.inl (lt_of_row hxr)) (show ¬ (w.heap.size+1+1=w.heap.size+1) by omega)).1.trans hxr)];rfl))
      · rename_i hbb
        have hb0:bb=false:=by cases bb <;> simp at hbb ⊢
        have hno:=levelsOf_none HG.out.2.2.1 (none_of_loops HG.out.2.2.1 (hD.out.2 hb0))
        have hBw:=HB2.out.below.trans (hMv.below (B:=w.heap.size) HB2.out.size HB2.out.size (fun b hb=>by have e:b=w.heap.size+1:=hb;omega))
        go_ret2
        rw [hno]
        exact ⟨none,0,rfl,Src.nil,hBw⟩
      · rename_i hbb
        have hb0:bb=true:=by cases bb <;> simp at hbb ⊢
        obtain ⟨F,hF,ho,M,hB4,hI4⟩:=hD.out.1 hb0
        have hlv:=hI4.whole HG.out.2.2.1 HG.out.2.2.2 (fun u hu=>hF.all u (List.mem_range.2 (by omega)))
        have hso:=(levelsOf_iff HG.out.2.2.1).2 hlv
        go_ret2
        rw [hso]
        refine ⟨some ⟨w.heap.size+1,0,none⟩,V+1,?_,hB4.ints.src,hB4.below⟩
        show _=Ending.returned (.tuple #[.slice _ M.length _,.bool true])
        rw [hlv.len]
        rfl
theorem GraphLeft.here {n:PNet} {S:NetS} {L:List Int} {w w':World} {e:Ending} (h:GraphLeft n S L w e w') (hN:NetAt w w.heap.size S n) :
    ∃ a d c cd,e=.returned (.agg #[.int .i64 n.vars,.slice S.i n.inputs.length S.ic,.slice S.l n.latches.length S.lc,.slice S.o n.outs.length S.oc,.slice S.b n.bads.length S.bc,.slice S.c n.cons.length S.cc,.slice S.m n.mems.length S.mc,.slice S.a n.ands.length S.ac,.slice a n.nodes.length c,.slice d L.length cd])∧GraphAt w' w'.heap.size S n a d L∧Below w.heap.size w w':=by
  obtain ⟨p,db,rfl,hO,hI,_,_⟩:=h
  obtain ⟨A,c,rfl,hR,_⟩:=hO.form
  exact ⟨A,some ⟨db,0,none⟩,c,L.length,rfl,⟨NetAt.later hN hO.below hO.below.size,hR,hI.src⟩,hO.below⟩
theorem levels_of {n:PNet} {S:NetS} {a d:Option Addr} {c cd:Nat} {w:World} (hs:n.sound=0) (hg:GraphAt w w.heap.size S n a d (dfill 0 n.nodes (List.replicate (n.vars.toNat+1) (-1)))) :
    Calls Tryz.prog 69 #[.agg #[.int .i64 n.vars,.slice S.i n.inputs.length S.ic,.slice S.l n.latches.length S.lc,.slice S.o n.outs.length S.oc,.slice S.b n.bads.length S.bc,.slice S.c n.cons.length S.cc,.slice S.m n.mems.length S.mc,.slice S.a n.ands.length S.ac,.slice a n.nodes.length c,.slice d (dfill 0 n.nodes (List.replicate (n.vars.toNat+1) (-1))).length cd]] w (TLevels w n.levels):=by
  obtain ⟨hW,hF,hG,_,_⟩:=good6_of hs
  have hv0:=hW.vars.1
  have hv1:=hW.vars.2
  have:=levels_graph n S a d c cd _ n.vars.toNat w hg (tells_of hG) hG (by omega) (by omega) (nf_some hs)
  have e:n.levels=levelsOf n.vars.toNat n.nodes:=by unfold PNet.levels;rw [if_pos hs]
  rw [e]
  exact this
set_option maxRecDepth 100000 in
set_option maxHeartbeats 4000000 in
theorem check_any (n:PNet) (S:NetS) (w:World) (h:NetAt w w.heap.size S n) (hf:n.fits) (hm:n.modest) (hr:n.near) (hd:n.nodes.length≤900) :
    Calls Tryz.prog 26 #[.agg #[.int .i64 n.vars,.slice S.i n.inputs.length S.ic,.slice S.l n.latches.length S.lc,.slice S.o n.outs.length S.oc,.slice S.b n.bads.length S.bc,.slice S.c n.cons.length S.cc,.slice S.m n.mems.length S.mc,.slice S.a n.ands.length S.ac]] w fun e w'=>e=.returned (.int .i64 n.check)∧Below w.heap.size w w':=by
  have hbx:=below_box w #[.int .i64 n.vars,.slice S.i n.inputs.length S.ic,.slice S.l n.latches.length S.lc,.slice S.o n.outs.length S.oc,.slice S.b n.bads.length S.bc,.slice S.c n.cons.length S.cc,.slice S.m n.mems.length S.mc,.slice S.a n.ands.length S.ac] 27
  have hM:=netBox_new w n S 27
  have hN:=NetAt.later h hbx (by simp)
  have hSo:=sound_any n S _ hN hf hm hr
  generalize hw1:w.alloc (.cells #[.int .i64 n.vars,.slice S.i n.inputs.length S.ic,.slice S.l n.latches.length S.lc,.slice S.o n.outs.length S.oc,.slice S.b n.bads.length S.bc,.slice S.c n.cons.length S.cc,.slice S.m n.mems.length S.mc,.slice S.a n.ands.length S.ac] 27)=w1 at *
  have HQ:=Lib.hid hSo
  obtain ⟨e0,e1,e2,e3,e4,e5,e6,e7,hlt⟩:=hM
  have HM:=Lib.hid (show NetBox w1 w.heap.size n S from ⟨e0,e1,e2,e3,e4,e5,e6,e7,hlt⟩)
  by_cases hs:n.sound=0
  · have HG:=Lib.hid fun (W:World) (hb:Below w1.heap.size w1 W)=>newGraph_any n S W (NetAt.later hN hb hb.size) hs hm hr hd
    have HNW:=Lib.hid fun (W:World) (hb:Below w1.heap.size w1 W)=>NetAt.later hN hb hb.size
    have HB:=Lib.hid hbx
    have HS:=Lib.hid hs
    have hss:(n.sound != 0)=false:=by simp [hs]
    have HC:=Lib.hid (show n.check=if n.levels.isSome then 0 else 8 by unfold PNet.check;rw [if_pos hs];cases n.levels <;> rfl)
    cases hlv:n.levels with
    | none =>
      rw [hlv] at HC
      have HLV:=Lib.hid hlv
      clear h hbx hN hSo hf hm hr hd hs hlt hlv
      go_enter Tryz.func26,Tryz.ntmps26
      go_wp2_with (first
        | (go_at_call 67;refine HQ.out.mono ?_;rintro e w2 ⟨rfl,hb2⟩;obtain ⟨n0,n1,n2,n3,n4,n5,n6,n7,nlt⟩:=HM.out.below hb2 HM.out.lt)
        | (go_at_call 68;refine (HG.out w2 hb2).mono ?_;rintro e w3 hh;obtain ⟨a,d,c,cd,rfl,hg,hb3⟩:=hh.here (HNW.out w2 hb2))
        | (go_at_call 69;refine (HLV.out ▸ levels_of HS.out hg).mono ?_;rintro e w4 ⟨A4,c4,rfl,hs4,hb4⟩;simp only [Option.isSome_none,Option.getD_none,List.length_nil]))
      go_ret
      exact ⟨ret_int HC.out.symm,below_on HB.out (below_on hb2 (below_on hb3 hb4))⟩
    | some l =>
      rw [hlv] at HC
      have HLV:=Lib.hid hlv
      clear h hbx hN hSo hf hm hr hd hs hlt hlv
      go_enter Tryz.func26,Tryz.ntmps26
      go_wp2_with (first
        | (go_at_call 67;refine HQ.out.mono ?_;rintro e w2 ⟨rfl,hb2⟩;obtain ⟨n0,n1,n2,n3,n4,n5,n6,n7,nlt⟩:=HM.out.below hb2 HM.out.lt)
        | (go_at_call 68;refine (HG.out w2 hb2).mono ?_;rintro e w3 hh;obtain ⟨a,d,c,cd,rfl,hg,hb3⟩:=hh.here (HNW.out w2 hb2))
        | (go_at_call 69;refine (HLV.out ▸ levels_of HS.out hg).mono ?_;rintro e w4 ⟨A4,c4,rfl,hs4,hb4⟩;simp only [Option.isSome_some,Option.getD_some]))
      go_ret
      exact ⟨ret_int HC.out.symm,below_on HB.out (below_on hb2 (below_on hb3 hb4))⟩
  · have hss:(n.sound != 0)=true:=by simp [hs]
    have HB:=Lib.hid hbx
    have HC:=Lib.hid (show n.check=n.sound by unfold PNet.check;rw [if_neg hs])
    clear h hbx hN hSo hf hm hr hd hs
    go_enter Tryz.func26,Tryz.ntmps26
    go_wp2_with (first
      | (go_at_call 67;refine HQ.out.mono ?_;rintro e w2 ⟨rfl,hb2⟩))
    go_ret
    exact ⟨ret_int HC.out.symm,below_on HB.out hb2⟩
end Go.Proofs.YtldnepogjnahfaaGreatDoor
