/- The contract of newGraph: the nodes in their order, and which of them defines each variable (conditions: the netlist lies where its value says and is sound, fits, is modest, its ports begin near 0; at most 1000 nodes). -/
import Derived.Test.YtchnpooijaalnaaTTells
namespace Go.Proofs.Ytchnpooijaalnaa
open Go.ChangeShapes Go.WideShapes Go.RowKit
set_option linter.unusedVariables false

/-- What newGraph leaves. -/
def GraphLeft (n : PNet) (S : NetS) (L : List Int) (w : World) (e : Ending) (w' : World) : Prop :=
  ∃ p db, e = .returned (.agg #[.int .i64 n.vars, .slice S.i n.inputs.length S.ic, .slice S.l n.latches.length S.lc, .slice S.o n.outs.length S.oc, .slice S.b n.bads.length S.bc, .slice S.c n.cons.length S.cc, .slice S.m n.mems.length S.mc, .slice S.a n.ands.length S.ac, p, .slice (some ⟨db, 0, none⟩) L.length L.length]) ∧ OwnT w.heap.size w w' p n.nodes ∧ Ints w' db L ∧ p.ownBlock ≠ some db ∧ w.heap.size ≤ db

theorem draft_a (w : World) (n : PNet) (S : NetS) (N : Nat) : Draft w.heap.size w ((World.alloc (World.alloc w (.cells #[.int .i64 n.vars, .slice S.i n.inputs.length S.ic, .slice S.l n.latches.length S.lc, .slice S.o n.outs.length S.oc, .slice S.b n.bads.length S.bc, .slice S.c n.cons.length S.cc, .slice S.m n.mems.length S.mc, .slice S.a n.ands.length S.ac, .slice none 0 0, .slice (some ⟨w.heap.size + 1, 0, none⟩) N N] 62)) (.cells (madeCells #[.int .i64 0] N) 3)).drew) w.heap.size (w.heap.size + 1) n S (.slice none 0 0) [] (List.replicate N 0) := by
  have a0 := heap_alloc_new w (.cells #[.int .i64 n.vars, .slice S.i n.inputs.length S.ic, .slice S.l n.latches.length S.lc, .slice S.o n.outs.length S.oc, .slice S.b n.bads.length S.bc, .slice S.c n.cons.length S.cc, .slice S.m n.mems.length S.mc, .slice S.a n.ands.length S.ac, .slice none 0 0, .slice (some ⟨w.heap.size + 1, 0, none⟩) N N] 62)
  have hb1 := below_box w #[.int .i64 n.vars, .slice S.i n.inputs.length S.ic, .slice S.l n.latches.length S.lc, .slice S.o n.outs.length S.oc, .slice S.b n.bads.length S.bc, .slice S.c n.cons.length S.cc, .slice S.m n.mems.length S.mc, .slice S.a n.ands.length S.ac, .slice none 0 0, .slice (some ⟨w.heap.size + 1, 0, none⟩) N N] 62
  have s1 : (w.alloc (.cells #[.int .i64 n.vars, .slice S.i n.inputs.length S.ic, .slice S.l n.latches.length S.lc, .slice S.o n.outs.length S.oc, .slice S.b n.bads.length S.bc, .slice S.c n.cons.length S.cc, .slice S.m n.mems.length S.mc, .slice S.a n.ands.length S.ac, .slice none 0 0, .slice (some ⟨w.heap.size + 1, 0, none⟩) N N] 62)).heap.size = w.heap.size + 1 := by simp
  generalize w.alloc (.cells #[.int .i64 n.vars, .slice S.i n.inputs.length S.ic, .slice S.l n.latches.length S.lc, .slice S.o n.outs.length S.oc, .slice S.b n.bads.length S.bc, .slice S.c n.cons.length S.cc, .slice S.m n.mems.length S.mc, .slice S.a n.ands.length S.ac, .slice none 0 0, .slice (some ⟨w.heap.size + 1, 0, none⟩) N N] 62) = w1 at *
  have a1 := Ints.new w1 N
  have hb2 := below_on hb1 (below_box w1 (madeCells #[.int .i64 0] N) 3)
  replace a0 := alloc_old (o := .cells (madeCells #[.int .i64 0] N) 3) a0
  rw [s1] at a1
  generalize w1.alloc (.cells (madeCells #[.int .i64 0] N) 3) = w2 at *
  exact ⟨by rw [List.length_replicate]; exact a0, ⟨World.ownsRow_nil _ _ _ _, hb2.trans (Below.refl _ _).drew, hb2.size⟩, a1, by simp [Value.ownBlock], by simp [Value.ownBlock], by omega, Nat.le_refl _, by omega⟩
theorem draft_b (w : World) (n : PNet) (S : NetS) (N : Nat) : Draft w.heap.size w ((World.alloc (World.alloc w (.cells (madeCells #[.int .i64 0] N) 3)) (.cells #[.int .i64 n.vars, .slice S.i n.inputs.length S.ic, .slice S.l n.latches.length S.lc, .slice S.o n.outs.length S.oc, .slice S.b n.bads.length S.bc, .slice S.c n.cons.length S.cc, .slice S.m n.mems.length S.mc, .slice S.a n.ands.length S.ac, .slice none 0 0, .slice (some ⟨w.heap.size, 0, none⟩) N N] 62)).drew) (w.heap.size + 1) w.heap.size n S (.slice none 0 0) [] (List.replicate N 0) := by
  have a1 := Ints.new w N
  have hb1 := below_box w (madeCells #[.int .i64 0] N) 3
  have s1 : (w.alloc (.cells (madeCells #[.int .i64 0] N) 3)).heap.size = w.heap.size + 1 := by simp
  generalize w.alloc (.cells (madeCells #[.int .i64 0] N) 3) = w1 at *
  have a0 := heap_alloc_new w1 (.cells #[.int .i64 n.vars, .slice S.i n.inputs.length S.ic, .slice S.l n.latches.length S.lc, .slice S.o n.outs.length S.oc, .slice S.b n.bads.length S.bc, .slice S.c n.cons.length S.cc, .slice S.m n.mems.length S.mc, .slice S.a n.ands.length S.ac, .slice none 0 0, .slice (some ⟨w.heap.size, 0, none⟩) N N] 62)
  have hb2 := below_on hb1 (below_box w1 #[.int .i64 n.vars, .slice S.i n.inputs.length S.ic, .slice S.l n.latches.length S.lc, .slice S.o n.outs.length S.oc, .slice S.b n.bads.length S.bc, .slice S.c n.cons.length S.cc, .slice S.m n.mems.length S.mc, .slice S.a n.ands.length S.ac, .slice none 0 0, .slice (some ⟨w.heap.size, 0, none⟩) N N] 62)
  replace a1 : Ints (w1.alloc (.cells #[.int .i64 n.vars, .slice S.i n.inputs.length S.ic, .slice S.l n.latches.length S.lc, .slice S.o n.outs.length S.oc, .slice S.b n.bads.length S.bc, .slice S.c n.cons.length S.cc, .slice S.m n.mems.length S.mc, .slice S.a n.ands.length S.ac, .slice none 0 0, .slice (some ⟨w.heap.size, 0, none⟩) N N] 62)) w.heap.size (List.replicate N 0) := alloc_old a1
  rw [s1] at a0
  generalize w1.alloc (.cells #[.int .i64 n.vars, .slice S.i n.inputs.length S.ic, .slice S.l n.latches.length S.lc, .slice S.o n.outs.length S.oc, .slice S.b n.bads.length S.bc, .slice S.c n.cons.length S.cc, .slice S.m n.mems.length S.mc, .slice S.a n.ands.length S.ac, .slice none 0 0, .slice (some ⟨w.heap.size, 0, none⟩) N N] 62) = w2 at *
  exact ⟨by rw [List.length_replicate]; exact a0, ⟨World.ownsRow_nil _ _ _ _, hb2.trans (Below.refl _ _).drew, hb2.size⟩, a1, by simp [Value.ownBlock], by simp [Value.ownBlock], by omega, by omega, Nat.le_refl _⟩

theorem OwnT.down {B B' : Nat} {w0 w0' w : World} {v : Value} {D : List PNode} (h : OwnT B w0 w v D) (hb : Below B' w0' w0) (hB : B' ≤ B) : OwnT B' w0' w v D := ⟨h.row.mono hB, hb.trans (h.below.mono hB), by have := h.size; omega⟩
theorem ten_row (w : World) (g : Nat) (t : TypeId) (z0 z1 z2 z3 z4 z5 z6 z7 z8 z9 v0 v1 v2 v3 v4 v5 v6 v7 v8 v9 : Value) (h : w.heap[g]? = some (.cells #[z0, z1, z2, z3, z4, z5, z6, z7, z8, z9] t (0, 0))) :
    ((((((((((w.setCell ⟨g, 0, none⟩ v0).setCell ⟨g, 1, none⟩ v1).setCell ⟨g, 2, none⟩ v2).setCell ⟨g, 3, none⟩ v3).setCell ⟨g, 4, none⟩ v4).setCell ⟨g, 5, none⟩ v5).setCell ⟨g, 6, none⟩ v6).setCell ⟨g, 7, none⟩ v7).setCell ⟨g, 8, none⟩ v8).setCell ⟨g, 9, none⟩ v9).heap[g]? = some (.cells #[v0, v1, v2, v3, v4, v5, v6, v7, v8, v9] t (0, 0)) := by
  have h0 : (w.setCell ⟨g, 0, none⟩ v0).heap[g]? = some (.cells #[v0, z1, z2, z3, z4, z5, z6, z7, z8, z9] t (0, 0)) := heap_setCell_same _ g 0 _ t v0 h
  have h1 : ((w.setCell ⟨g, 0, none⟩ v0).setCell ⟨g, 1, none⟩ v1).heap[g]? = some (.cells #[v0, v1, z2, z3, z4, z5, z6, z7, z8, z9] t (0, 0)) := heap_setCell_same _ g 1 _ t v1 h0
  have h2 : (((w.setCell ⟨g, 0, none⟩ v0).setCell ⟨g, 1, none⟩ v1).setCell ⟨g, 2, none⟩ v2).heap[g]? = some (.cells #[v0, v1, v2, z3, z4, z5, z6, z7, z8, z9] t (0, 0)) := heap_setCell_same _ g 2 _ t v2 h1
  have h3 : ((((w.setCell ⟨g, 0, none⟩ v0).setCell ⟨g, 1, none⟩ v1).setCell ⟨g, 2, none⟩ v2).setCell ⟨g, 3, none⟩ v3).heap[g]? = some (.cells #[v0, v1, v2, v3, z4, z5, z6, z7, z8, z9] t (0, 0)) := heap_setCell_same _ g 3 _ t v3 h2
  have h4 : (((((w.setCell ⟨g, 0, none⟩ v0).setCell ⟨g, 1, none⟩ v1).setCell ⟨g, 2, none⟩ v2).setCell ⟨g, 3, none⟩ v3).setCell ⟨g, 4, none⟩ v4).heap[g]? = some (.cells #[v0, v1, v2, v3, v4, z5, z6, z7, z8, z9] t (0, 0)) := heap_setCell_same _ g 4 _ t v4 h3
  have h5 : ((((((w.setCell ⟨g, 0, none⟩ v0).setCell ⟨g, 1, none⟩ v1).setCell ⟨g, 2, none⟩ v2).setCell ⟨g, 3, none⟩ v3).setCell ⟨g, 4, none⟩ v4).setCell ⟨g, 5, none⟩ v5).heap[g]? = some (.cells #[v0, v1, v2, v3, v4, v5, z6, z7, z8, z9] t (0, 0)) := heap_setCell_same _ g 5 _ t v5 h4
  have h6 : (((((((w.setCell ⟨g, 0, none⟩ v0).setCell ⟨g, 1, none⟩ v1).setCell ⟨g, 2, none⟩ v2).setCell ⟨g, 3, none⟩ v3).setCell ⟨g, 4, none⟩ v4).setCell ⟨g, 5, none⟩ v5).setCell ⟨g, 6, none⟩ v6).heap[g]? = some (.cells #[v0, v1, v2, v3, v4, v5, v6, z7, z8, z9] t (0, 0)) := heap_setCell_same _ g 6 _ t v6 h5
  have h7 : ((((((((w.setCell ⟨g, 0, none⟩ v0).setCell ⟨g, 1, none⟩ v1).setCell ⟨g, 2, none⟩ v2).setCell ⟨g, 3, none⟩ v3).setCell ⟨g, 4, none⟩ v4).setCell ⟨g, 5, none⟩ v5).setCell ⟨g, 6, none⟩ v6).setCell ⟨g, 7, none⟩ v7).heap[g]? = some (.cells #[v0, v1, v2, v3, v4, v5, v6, v7, z8, z9] t (0, 0)) := heap_setCell_same _ g 7 _ t v7 h6
  have h8 : (((((((((w.setCell ⟨g, 0, none⟩ v0).setCell ⟨g, 1, none⟩ v1).setCell ⟨g, 2, none⟩ v2).setCell ⟨g, 3, none⟩ v3).setCell ⟨g, 4, none⟩ v4).setCell ⟨g, 5, none⟩ v5).setCell ⟨g, 6, none⟩ v6).setCell ⟨g, 7, none⟩ v7).setCell ⟨g, 8, none⟩ v8).heap[g]? = some (.cells #[v0, v1, v2, v3, v4, v5, v6, v7, v8, z9] t (0, 0)) := heap_setCell_same _ g 8 _ t v8 h7
  have h9 : ((((((((((w.setCell ⟨g, 0, none⟩ v0).setCell ⟨g, 1, none⟩ v1).setCell ⟨g, 2, none⟩ v2).setCell ⟨g, 3, none⟩ v3).setCell ⟨g, 4, none⟩ v4).setCell ⟨g, 5, none⟩ v5).setCell ⟨g, 6, none⟩ v6).setCell ⟨g, 7, none⟩ v7).setCell ⟨g, 8, none⟩ v8).setCell ⟨g, 9, none⟩ v9).heap[g]? = some (.cells #[v0, v1, v2, v3, v4, v5, v6, v7, v8, v9] t (0, 0)) := heap_setCell_same _ g 9 _ t v9 h8
  exact h9
theorem ten_own {B : Nat} {w0 w : World} {p : Value} {D : List PNode} (g : Nat) (v0 v1 v2 v3 v4 v5 v6 v7 v8 v9 : Value) (h : OwnT B w0 w p D) (hg : B ≤ g) (hne : p.ownBlock ≠ some g) : OwnT B w0 ((((((((((w.setCell ⟨g, 0, none⟩ v0).setCell ⟨g, 1, none⟩ v1).setCell ⟨g, 2, none⟩ v2).setCell ⟨g, 3, none⟩ v3).setCell ⟨g, 4, none⟩ v4).setCell ⟨g, 5, none⟩ v5).setCell ⟨g, 6, none⟩ v6).setCell ⟨g, 7, none⟩ v7).setCell ⟨g, 8, none⟩ v8).setCell ⟨g, 9, none⟩ v9) p D :=
  (((((((((h.set hg hne).set hg hne).set hg hne).set hg hne).set hg hne).set hg hne).set hg hne).set hg hne).set hg hne).set hg hne
theorem ten_other (w : World) (g b : Nat) (v0 v1 v2 v3 v4 v5 v6 v7 v8 v9 : Value) (hb : b ≠ g) : ((((((((((w.setCell ⟨g, 0, none⟩ v0).setCell ⟨g, 1, none⟩ v1).setCell ⟨g, 2, none⟩ v2).setCell ⟨g, 3, none⟩ v3).setCell ⟨g, 4, none⟩ v4).setCell ⟨g, 5, none⟩ v5).setCell ⟨g, 6, none⟩ v6).setCell ⟨g, 7, none⟩ v7).setCell ⟨g, 8, none⟩ v8).setCell ⟨g, 9, none⟩ v9).heap[b]? = w.heap[b]? := by
  iterate 9 refine (heap_setCell_other _ _ _ _ hb).trans ?_
  exact heap_setCell_other _ _ _ _ hb

theorem minus_step {L : List Int} {k V : Nat} (hl : L.length = V) (h : L.take k = List.replicate k (-1)) (hk : k < V) : (L.set k (-1)).take (k + 1) = List.replicate (k + 1) (-1) := by
  apply List.ext_getElem?
  intro i
  rw [List.getElem?_take, List.getElem?_set, List.getElem?_replicate]
  by_cases hi : i < k + 1
  · rw [if_pos hi, if_pos hi]
    by_cases he : k = i
    · rw [if_pos he, if_pos (by omega)]
    · rw [if_neg he]
      have h1 := congrArg (fun l => l[i]?) h
      simp only [List.getElem?_take, List.getElem?_replicate] at h1
      rw [if_pos (by omega), if_pos (by omega)] at h1
      exact h1
  · rw [if_neg hi, if_neg hi]

set_option maxRecDepth 100000 in
set_option maxHeartbeats 16000000 in
theorem newGraph_any (n : PNet) (S : NetS) (w : World) (h : NetAt w w.heap.size S n) (hs : n.sound = 0) (hm : n.modest) (hr : n.near) (hd : n.nodes.length ≤ 900) :
    Calls Try.prog 23 #[.agg #[.int .i64 n.vars, .slice S.i n.inputs.length S.ic, .slice S.l n.latches.length S.lc, .slice S.o n.outs.length S.oc, .slice S.b n.bads.length S.bc, .slice S.c n.cons.length S.cc, .slice S.m n.mems.length S.mc, .slice S.a n.ands.length S.ac]] w (GraphLeft n S (dfill 0 n.nodes (List.replicate (n.vars.toNat + 1) (-1))) w) := by
  obtain ⟨hW, hF, hG, hgood, hlits⟩ := good6_of hs
  have hv0 := hW.vars.1
  have hv1 := hW.vars.2
  have hmk := run_ints n.vars hv0 (by omega)
  have hmx : max n.vars 0 = n.vars := by omega
  have hbx := below_on (below_box w #[.int .i64 n.vars, .slice S.i n.inputs.length S.ic, .slice S.l n.latches.length S.lc, .slice S.o n.outs.length S.oc, .slice S.b n.bads.length S.bc, .slice S.c n.cons.length S.cc, .slice S.m n.mems.length S.mc, .slice S.a n.ands.length S.ac] 27) (below_box (w.alloc (.cells #[.int .i64 n.vars, .slice S.i n.inputs.length S.ic, .slice S.l n.latches.length S.lc, .slice S.o n.outs.length S.oc, .slice S.b n.bads.length S.bc, .slice S.c n.cons.length S.cc, .slice S.m n.mems.length S.mc, .slice S.a n.ands.length S.ac] 27)) #[.int .i64 0, .slice none 0 0, .slice none 0 0, .slice none 0 0, .slice none 0 0, .slice none 0 0, .slice none 0 0, .slice none 0 0, .slice none 0 0, .slice none 0 0] 62)
  have hM := (netBox_new w n S 27).below (below_box (w.alloc (.cells #[.int .i64 n.vars, .slice S.i n.inputs.length S.ic, .slice S.l n.latches.length S.lc, .slice S.o n.outs.length S.oc, .slice S.b n.bads.length S.bc, .slice S.c n.cons.length S.cc, .slice S.m n.mems.length S.mc, .slice S.a n.ands.length S.ac] 27)) #[.int .i64 0, .slice none 0 0, .slice none 0 0, .slice none 0 0, .slice none 0 0, .slice none 0 0, .slice none 0 0, .slice none 0 0, .slice none 0 0, .slice none 0 0] 62) (by simp)
  have hs2 : (World.alloc (World.alloc w (.cells #[.int .i64 n.vars, .slice S.i n.inputs.length S.ic, .slice S.l n.latches.length S.lc, .slice S.o n.outs.length S.oc, .slice S.b n.bads.length S.bc, .slice S.c n.cons.length S.cc, .slice S.m n.mems.length S.mc, .slice S.a n.ands.length S.ac] 27)) (.cells #[.int .i64 0, .slice none 0 0, .slice none 0 0, .slice none 0 0, .slice none 0 0, .slice none 0 0, .slice none 0 0, .slice none 0 0, .slice none 0 0, .slice none 0 0] 62)).heap.size = w.heap.size + 1 + 1 := by simp
  have hz : (World.alloc (World.alloc w (.cells #[.int .i64 n.vars, .slice S.i n.inputs.length S.ic, .slice S.l n.latches.length S.lc, .slice S.o n.outs.length S.oc, .slice S.b n.bads.length S.bc, .slice S.c n.cons.length S.cc, .slice S.m n.mems.length S.mc, .slice S.a n.ands.length S.ac] 27)) (.cells #[.int .i64 0, .slice none 0 0, .slice none 0 0, .slice none 0 0, .slice none 0 0, .slice none 0 0, .slice none 0 0, .slice none 0 0, .slice none 0 0, .slice none 0 0] 62)).heap[w.heap.size + 1]? = some (.cells #[.int .i64 0, .slice none 0 0, .slice none 0 0, .slice none 0 0, .slice none 0 0, .slice none 0 0, .slice none 0 0, .slice none 0 0, .slice none 0 0, .slice none 0 0] 62 (0, 0)) := by
    have := heap_alloc_new (World.alloc w (.cells #[.int .i64 n.vars, .slice S.i n.inputs.length S.ic, .slice S.l n.latches.length S.lc, .slice S.o n.outs.length S.oc, .slice S.b n.bads.length S.bc, .slice S.c n.cons.length S.cc, .slice S.m n.mems.length S.mc, .slice S.a n.ands.length S.ac] 27)) (.cells #[.int .i64 0, .slice none 0 0, .slice none 0 0, .slice none 0 0, .slice none 0 0, .slice none 0 0, .slice none 0 0, .slice none 0 0, .slice none 0 0, .slice none 0 0] 62)
    simpa using this
  generalize hw2 : World.alloc (World.alloc w (.cells #[.int .i64 n.vars, .slice S.i n.inputs.length S.ic, .slice S.l n.latches.length S.lc, .slice S.o n.outs.length S.oc, .slice S.b n.bads.length S.bc, .slice S.c n.cons.length S.cc, .slice S.m n.mems.length S.mc, .slice S.a n.ands.length S.ac] 27)) (.cells #[.int .i64 0, .slice none 0 0, .slice none 0 0, .slice none 0 0, .slice none 0 0, .slice none 0 0, .slice none 0 0, .slice none 0 0, .slice none 0 0, .slice none 0 0] 62) = w2 at *
  have hN := NetAt.later h hbx hbx.size
  have e0 := hM.n0
  have e1 := hM.n1
  have e2 := hM.n2
  have e3 := hM.n3
  have e4 := hM.n4
  have e5 := hM.n5
  have e6 := hM.n6
  have e7 := hM.n7
  have hg2 : w.heap.size < w2.heap.size := by omega
  have H := Lib.hid (And.intro hN (And.intro hbx (And.intro hF (And.intro hG (And.intro hm (And.intro (told_of hr hF) (And.intro hd (And.intro hM hz))))))))
  clear hN hbx hF hG hm hr hd h hs hW hM hz hgood hlits
  go_enter Try.func23, Try.ntmps23
  go_wp2_with fail
  clear hw2
  go_region
  · have hD := draft_b w2 n S (n.vars.toNat + 1)
    rw [hs2] at hD
    go_wp2_with fail
    have HD := Lib.hid hD
    clear hD
    generalize ((World.alloc (World.alloc w2 (.cells (madeCells #[.int .i64 0] (n.vars.toNat + 1)) 3)) (.cells #[.int .i64 n.vars, .slice S.i n.inputs.length S.ic, .slice S.l n.latches.length S.lc, .slice S.o n.outs.length S.oc, .slice S.b n.bads.length S.bc, .slice S.c n.cons.length S.cc, .slice S.m n.mems.length S.mc, .slice S.a n.ands.length S.ac, .slice none 0 0, .slice (some ⟨w.heap.size + 1 + 1, 0, none⟩) (n.vars.toNat + 1) (n.vars.toNat + 1)] 62)).drew) = wx at *
    generalize hVV : n.vars.toNat = V at *
    have hV2 : (V : Int) = n.vars := by omega
    clear hmk
    go_loopg [18] (V + 1) (fun m s18 wy => ∃ (k : Nat) (L : List Int), k + m = V + 1 ∧ s18 = .int .i64 k ∧ Aside (Draft (w.heap.size + 1 + 1) w2 wy (w.heap.size + 1 + 1 + 1) (w.heap.size + 1 + 1) n S (.slice none 0 0) [] L ∧ L.length = V + 1 ∧ L.take k = List.replicate k (-1)))
    case atStart => exact ⟨0, _, by omega, rfl, HD.out, by simp, by simp⟩
    case round =>
      clear HD
      obtain ⟨k, L, hk, rfl, HS⟩ := hrel
      generalize gk = m at *
      by_cases hlt : (k : Int) < n.vars + 1
      · have hk0 : (0 : Int) ≤ (k : Int) := by omega
        have hkb : (k : Int) ≤ 2000 := by omega
        have e9 := HS.out.1.cell (j := 9) (u := .slice (some ⟨(w.heap.size + 1 + 1), 0, none⟩) (V + 1) (V + 1)) (by rw [← HS.out.2.1]; rfl)
        have hkv : (k : Int) < (V : Int) + 1 := by omega
        obtain ⟨l, hl⟩ := some_of_lt (show k < L.length by have := HS.out.2.1; omega)
        have m7 := HS.out.1.ints.cell hl
        have f7 := HS.out.1.ints.free k
        clear hl
        go_wp2_with fail
        go_roundg (m - 1)
        case measure => omega
        case rel => exact ⟨k + 1, _, by omega, by first | rfl | simp, HS.out.1.put k (-1), by rw [List.length_set]; exact HS.out.2.1, minus_step HS.out.2.1 HS.out.2.2 (by omega)⟩
      · have hlk : L = (List.replicate (V + 1) (-1)) := by
          have h1 := HS.out.2.2
          have h2 := HS.out.2.1
          have h3 : k = V + 1 := by omega
          rw [h3, List.take_of_length_le (by omega)] at h1
          exact h1
        have HD := Lib.hid (hlk ▸ HS.out.1)
        clear HS hlk
        have HB2 := HD.out.own.below
        have n7 := (HB2.cell (p := ⟨w.heap.size, 7, none⟩) (show w.heap.size < w.heap.size + 1 + 1 by omega)).trans e7
        clear HB2
        go_wp2_with fail
        go_loopg [29] n.ands.length (fun m s29 wy => ∃ (k : Nat) (D : List PNode) (p : Value), k + m = n.ands.length ∧ s29 = .int .i64 k ∧ Aside (Draft (w.heap.size + 1 + 1) w2 wy (w.heap.size + 1 + 1 + 1) (w.heap.size + 1 + 1) n S p D (dfill 0 D (List.replicate (V + 1) (-1))) ∧ D ++ (andNodes k (n.ands.drop k) ++ memNodes 0 n.mems) = n.nodes))
        case atStart => exact ⟨0, [], _, by omega, rfl, HD.out, by simp [PNet.nodes]⟩
        case round =>
          clear HD hlt hk n7
          obtain ⟨k, D, p, hk, rfl, HS⟩ := hrel
          generalize gk = m at *
          by_cases hlt : k < n.ands.length
          · obtain ⟨x, hx⟩ := some_of_lt hlt
            have hltI : (k : Int) < (n.ands.length : Int) := by omega
            have hkb : (k : Int) ≤ 1000000 := by have := H.out.2.2.2.2.1.ands; omega
            have hE : D ++ ⟨false, 0, (k : Int), [x.aa, x.ab], [x.av]⟩ :: (andNodes (k + 1) (n.ands.drop (k + 1)) ++ memNodes 0 n.mems) = n.nodes := by
              rw [← HS.out.2, drop_some hx]; simp [andNodes]
            have hxm : (⟨false, 0, (k : Int), [x.aa, x.ab], [x.av]⟩ : PNode) ∈ n.nodes := by rw [← hE]; simp
            have hDl : D.length ≤ 1000 := by have := H.out.2.2.2.2.2.2.1; rw [← hE] at this; simp at this; omega
            have hLl : (dfill 0 D (List.replicate (V + 1) (-1))).length = V + 1 := by rw [dfill_len, List.length_replicate]
            have HA := Lib.hid (add_any n S (w.heap.size + 1 + 1) w2 wr (w.heap.size + 1 + 1 + 1) (w.heap.size + 1 + 1) p D _ _ HS.out.1 (NetAt.below HS.out.1.own.below (Nat.le_refl _) (hs2 ▸ H.out.1)) hxm H.out.2.2.2.2.1 H.out.2.2.2.2.2.1 H.out.2.2.1 hDl (fun u hu => by have := H.out.2.2.2.1.vars _ hxm u hu; omega) (H.out.2.2.2.1.lens _ hxm).2)
            have HE := Lib.hid hE
            clear hx hxm hE hLl hDl
            go_wp2_with (go_at_call 46; refine HA.out.mono ?_; rintro e w5 ⟨p', rfl, hD'⟩)
            have HQ := Lib.hid hD'
            clear hD' HA HS
            go_roundg (m - 1)
            case measure => omega
            case rel => exact ⟨k + 1, _, p', by omega, by first | rfl | simp, by rw [dfill_snoc, Nat.zero_add]; exact HQ.out, by rw [← HE.out]; simp⟩
          · have hltn : ¬ ((k : Int) < (n.ands.length : Int)) := by omega
            have HE := Lib.hid (show D ++ memNodes 0 (n.mems.drop 0) = n.nodes by
              rw [← HS.out.2, List.drop_eq_nil_of_le (show n.ands.length ≤ k by omega)]; simp [andNodes])
            have n6 := (HS.out.1.own.below.cell (p := ⟨w.heap.size, 6, none⟩) (show w.heap.size < w.heap.size + 1 + 1 by omega)).trans e6
            have HD := Lib.hid HS.out.1
            clear HS
            go_wp2_with fail
            clear n6
            go_loopg [39] n.mems.length (fun m s39 wy => ∃ (i : Nat) (D : List PNode) (p : Value), i + m = n.mems.length ∧ s39 = .int .i64 i ∧ Aside (Draft (w.heap.size + 1 + 1) w2 wy (w.heap.size + 1 + 1 + 1) (w.heap.size + 1 + 1) n S p D (dfill 0 D (List.replicate (V + 1) (-1))) ∧ D ++ memNodes i (n.mems.drop i) = n.nodes))
            case atStart => exact ⟨0, D, p, by omega, rfl, HD.out, HE.out⟩
            case round =>
              clear HD HE hlt hltn hk
              obtain ⟨i, D, p, hi, rfl, HS⟩ := hrel
              generalize gk = m at *
              by_cases hlt : i < n.mems.length
              · obtain ⟨x, hx⟩ := some_of_lt hlt
                have hltI : (i : Int) < (n.mems.length : Int) := by omega
                have hi0 : (0 : Int) ≤ (i : Int) := by omega
                have hib : (i : Int) ≤ 1000000 := by have := H.out.2.2.2.2.1.mems; omega
                have hxl := (H.out.2.2.2.2.1.ports x (mem_of_some hx)).1
                have HE := Lib.hid (show D ++ (portNodes x.mw i 0 (x.mr.drop 0) ++ memNodes (i + 1) (n.mems.drop (i + 1))) = n.nodes by
                  rw [← HS.out.2, drop_some hx]; simp [memNodes])
                obtain ⟨b, o, hSm, hbB, hcell⟩ := (NetAt.below HS.out.1.own.below (Nat.le_refl _) (hs2 ▸ H.out.1)).mems.at hx
                obtain ⟨a1, c1, a2, c2, m0, m1, m2, m3, m4, hP⟩ := hcell i x hx
                have HD := Lib.hid HS.out.1
                clear hcell hx hP HS
                rw [hSm]
                have HSm := Lib.hid hSm
                clear hSm
                go_wp2_with fail
                have HD2 := Lib.hid (HD.out.call (below_box wr #[.int .i64 x.ma, .int .i64 x.mw, .bool x.mn, .slice a1 x.mr.length c1, .slice a2 x.mx.length c2] 56))
                clear HD
                generalize wr.alloc (.cells #[.int .i64 x.ma, .int .i64 x.mw, .bool x.mn, .slice a1 x.mr.length c1, .slice a2 x.mx.length c2] 56) = wq at *
                go_loopg [47] x.mr.length (fun m s47 wy => ∃ (j : Nat) (D : List PNode) (p : Value), j + m = x.mr.length ∧ s47 = .int .i64 j ∧ Aside (Draft (w.heap.size + 1 + 1) w2 wy (w.heap.size + 1 + 1 + 1) (w.heap.size + 1 + 1) n S p D (dfill 0 D (List.replicate (V + 1) (-1))) ∧ D ++ (portNodes x.mw i j (x.mr.drop j) ++ memNodes (i + 1) (n.mems.drop (i + 1))) = n.nodes))
                case atStart => exact ⟨0, D, p, by omega, rfl, HD2.out, HE.out⟩
                case round =>
                  clear HD2 HE
                  obtain ⟨j, D, p, hj, rfl, HS⟩ := hrel
                  generalize gk = m3 at *
                  by_cases hjl : j < x.mr.length
                  · obtain ⟨r, hr⟩ := some_of_lt hjl
                    have hjlI : (j : Int) < (x.mr.length : Int) := by omega
                    have hjb : (j : Int) ≤ 1000000 := by omega
                    have hE : D ++ ⟨true, (i : Int), (j : Int), r.ra, dataL r.rv x.mw⟩ :: (portNodes x.mw i (j + 1) (x.mr.drop (j + 1)) ++ memNodes (i + 1) (n.mems.drop (i + 1))) = n.nodes := by
                      rw [← HS.out.2, drop_some hr]; simp [portNodes]
                    have hxm : (⟨true, (i : Int), (j : Int), r.ra, dataL r.rv x.mw⟩ : PNode) ∈ n.nodes := by rw [← hE]; simp
                    have hDl : D.length ≤ 1000 := by have := H.out.2.2.2.2.2.2.1; rw [← hE] at this; simp at this; omega
                    have hLl : (dfill 0 D (List.replicate (V + 1) (-1))).length = V + 1 := by rw [dfill_len, List.length_replicate]
                    have HA := Lib.hid (add_any n S (w.heap.size + 1 + 1) w2 wr (w.heap.size + 1 + 1 + 1) (w.heap.size + 1 + 1) p D _ _ HS.out.1 (NetAt.below HS.out.1.own.below (Nat.le_refl _) (hs2 ▸ H.out.1)) hxm H.out.2.2.2.2.1 H.out.2.2.2.2.2.1 H.out.2.2.1 hDl (fun u hu => by have := H.out.2.2.2.1.vars _ hxm u hu; omega) (H.out.2.2.2.1.lens _ hxm).2)
                    have HE := Lib.hid hE
                    clear hr hxm hE hLl hDl
                    go_wp2_with (go_at_call 46; refine HA.out.mono ?_; rintro e w5 ⟨p', rfl, hD'⟩)
                    have HQ := Lib.hid hD'
                    clear hD' HA HS
                    go_roundg (m3 - 1)
                    case measure => omega
                    case rel => exact ⟨j + 1, _, p', by omega, by first | rfl | simp, by rw [dfill_snoc, Nat.zero_add]; exact HQ.out, by rw [← HE.out]; simp⟩
                  · have hjn : ¬ ((j : Int) < (x.mr.length : Int)) := by omega
                    have HE := Lib.hid (show D ++ memNodes (i + 1) (n.mems.drop (i + 1)) = n.nodes by
                      rw [← HS.out.2, List.drop_eq_nil_of_le (show x.mr.length ≤ j by omega)]; simp [portNodes])
                    have HD := Lib.hid HS.out.1
                    clear HS
                    go_wp2_with fail
                    rw [← HSm.out]
                    go_roundg (m - 1)
                    case measure => omega
                    case rel => exact ⟨i + 1, D, p, by omega, by first | rfl | simp, HD.out, HE.out⟩
              · have hltn : ¬ ((i : Int) < (n.mems.length : Int)) := by omega
                have hDn : D = n.nodes := by
                  rw [← HS.out.2, List.drop_eq_nil_of_le (show n.mems.length ≤ i by omega)]; simp [memNodes]
                have HD := Lib.hid (hDn ▸ HS.out.1)
                clear HS hDn
                have hZ := (HD.out.own.below.block (w.heap.size + 1) (show w.heap.size + 1 < w.heap.size + 1 + 1 by omega)).trans H.out.2.2.2.2.2.2.2.2
                have hLl : (dfill 0 n.nodes (List.replicate (V + 1) (-1))).length = V + 1 := by rw [dfill_len, List.length_replicate]
                have d0 : wr.cell? ⟨(w.heap.size + 1 + 1 + 1), 0, none⟩ = some (.int .i64 n.vars) := HD.out.cell (j := 0) rfl
                have d1 : wr.cell? ⟨(w.heap.size + 1 + 1 + 1), 1, none⟩ = some (.slice S.i n.inputs.length S.ic) := HD.out.cell (j := 1) rfl
                have d2 : wr.cell? ⟨(w.heap.size + 1 + 1 + 1), 2, none⟩ = some (.slice S.l n.latches.length S.lc) := HD.out.cell (j := 2) rfl
                have d3 : wr.cell? ⟨(w.heap.size + 1 + 1 + 1), 3, none⟩ = some (.slice S.o n.outs.length S.oc) := HD.out.cell (j := 3) rfl
                have d4 : wr.cell? ⟨(w.heap.size + 1 + 1 + 1), 4, none⟩ = some (.slice S.b n.bads.length S.bc) := HD.out.cell (j := 4) rfl
                have d5 : wr.cell? ⟨(w.heap.size + 1 + 1 + 1), 5, none⟩ = some (.slice S.c n.cons.length S.cc) := HD.out.cell (j := 5) rfl
                have d6 : wr.cell? ⟨(w.heap.size + 1 + 1 + 1), 6, none⟩ = some (.slice S.m n.mems.length S.mc) := HD.out.cell (j := 6) rfl
                have d7 : wr.cell? ⟨(w.heap.size + 1 + 1 + 1), 7, none⟩ = some (.slice S.a n.ands.length S.ac) := HD.out.cell (j := 7) rfl
                have d8 : wr.cell? ⟨(w.heap.size + 1 + 1 + 1), 8, none⟩ = some (p) := HD.out.cell (j := 8) rfl
                have d9 : wr.cell? ⟨(w.heap.size + 1 + 1 + 1), 9, none⟩ = some (.slice (some ⟨(w.heap.size + 1 + 1), 0, none⟩) (V + 1) (V + 1)) := HD.out.cell (j := 9) (by show some (Value.slice (some ⟨(w.heap.size + 1 + 1), 0, none⟩) (dfill 0 n.nodes (List.replicate (V + 1) (-1))).length (dfill 0 n.nodes (List.replicate (V + 1) (-1))).length) = _; rw [hLl])
                have r0 : wr.cell? ⟨w.heap.size + 1, 0, none⟩ = some (.int .i64 0) := by rw [cell_of_row wr (w.heap.size + 1) 0 _ _ _ hZ]; rfl
                have f0 : wr.frozen? ⟨w.heap.size + 1, 0, none⟩ = false := frozen_of_row wr (w.heap.size + 1) 0 _ _ hZ
                have r1 : wr.cell? ⟨w.heap.size + 1, 1, none⟩ = some (.slice none 0 0) := by rw [cell_of_row wr (w.heap.size + 1) 1 _ _ _ hZ]; rfl
                have f1 : wr.frozen? ⟨w.heap.size + 1, 1, none⟩ = false := frozen_of_row wr (w.heap.size + 1) 1 _ _ hZ
                have r2 : wr.cell? ⟨w.heap.size + 1, 2, none⟩ = some (.slice none 0 0) := by rw [cell_of_row wr (w.heap.size + 1) 2 _ _ _ hZ]; rfl
                have f2 : wr.frozen? ⟨w.heap.size + 1, 2, none⟩ = false := frozen_of_row wr (w.heap.size + 1) 2 _ _ hZ
                have r3 : wr.cell? ⟨w.heap.size + 1, 3, none⟩ = some (.slice none 0 0) := by rw [cell_of_row wr (w.heap.size + 1) 3 _ _ _ hZ]; rfl
                have f3 : wr.frozen? ⟨w.heap.size + 1, 3, none⟩ = false := frozen_of_row wr (w.heap.size + 1) 3 _ _ hZ
                have r4 : wr.cell? ⟨w.heap.size + 1, 4, none⟩ = some (.slice none 0 0) := by rw [cell_of_row wr (w.heap.size + 1) 4 _ _ _ hZ]; rfl
                have f4 : wr.frozen? ⟨w.heap.size + 1, 4, none⟩ = false := frozen_of_row wr (w.heap.size + 1) 4 _ _ hZ
                have r5 : wr.cell? ⟨w.heap.size + 1, 5, none⟩ = some (.slice none 0 0) := by rw [cell_of_row wr (w.heap.size + 1) 5 _ _ _ hZ]; rfl
                have f5 : wr.frozen? ⟨w.heap.size + 1, 5, none⟩ = false := frozen_of_row wr (w.heap.size + 1) 5 _ _ hZ
                have r6 : wr.cell? ⟨w.heap.size + 1, 6, none⟩ = some (.slice none 0 0) := by rw [cell_of_row wr (w.heap.size + 1) 6 _ _ _ hZ]; rfl
                have f6 : wr.frozen? ⟨w.heap.size + 1, 6, none⟩ = false := frozen_of_row wr (w.heap.size + 1) 6 _ _ hZ
                have r7 : wr.cell? ⟨w.heap.size + 1, 7, none⟩ = some (.slice none 0 0) := by rw [cell_of_row wr (w.heap.size + 1) 7 _ _ _ hZ]; rfl
                have f7 : wr.frozen? ⟨w.heap.size + 1, 7, none⟩ = false := frozen_of_row wr (w.heap.size + 1) 7 _ _ hZ
                have r8 : wr.cell? ⟨w.heap.size + 1, 8, none⟩ = some (.slice none 0 0) := by rw [cell_of_row wr (w.heap.size + 1) 8 _ _ _ hZ]; rfl
                have f8 : wr.frozen? ⟨w.heap.size + 1, 8, none⟩ = false := frozen_of_row wr (w.heap.size + 1) 8 _ _ hZ
                have r9 : wr.cell? ⟨w.heap.size + 1, 9, none⟩ = some (.slice none 0 0) := by rw [cell_of_row wr (w.heap.size + 1) 9 _ _ _ hZ]; rfl
                have f9 : wr.frozen? ⟨w.heap.size + 1, 9, none⟩ = false := frozen_of_row wr (w.heap.size + 1) 9 _ _ hZ
                obtain ⟨A, c, rfl, _⟩ := HD.out.own.form
                have HL := Lib.hid hLl
                have HZ := Lib.hid hZ
                clear hLl hZ
                go_wp2_with fail
                try simp only [Exit.inBlock, Exit.then]
                refine bodyPost_ret (results_cell_row rfl _ _ (w.heap.size + 1) 62 _ (0, 0) _ rfl (ten_row wr (w.heap.size + 1) 62 _ _ _ _ _ _ _ _ _ _ _ _ _ _ _ _ _ _ _ _ (HZ.out)) Try.underlying62 rfl (by kernel_rfl)) rfl ?_
                have hne : (Value.slice A n.nodes.length c).ownBlock ≠ some (w.heap.size + 1) := fun e => by have := HD.out.own.lt _ e; omega
                refine ⟨_, (w.heap.size + 1 + 1), by rw [HL.out], ten_own (w.heap.size + 1) _ _ _ _ _ _ _ _ _ _ (HD.out.own.down H.out.2.1 (by omega)) (by omega) hne, HD.out.ints.same (ten_other wr (w.heap.size + 1) (w.heap.size + 1 + 1) _ _ _ _ _ _ _ _ _ _ (by omega)), HD.out.ne2, by omega⟩
  · have hD := draft_a w2 n S (n.vars.toNat + 1)
    rw [hs2] at hD
    go_wp2_with fail
    have HD := Lib.hid hD
    clear hD
    generalize ((World.alloc (World.alloc w2 (.cells #[.int .i64 n.vars, .slice S.i n.inputs.length S.ic, .slice S.l n.latches.length S.lc, .slice S.o n.outs.length S.oc, .slice S.b n.bads.length S.bc, .slice S.c n.cons.length S.cc, .slice S.m n.mems.length S.mc, .slice S.a n.ands.length S.ac, .slice none 0 0, .slice (some ⟨w.heap.size + 1 + 1 + 1, 0, none⟩) (n.vars.toNat + 1) (n.vars.toNat + 1)] 62)) (.cells (madeCells #[.int .i64 0] (n.vars.toNat + 1)) 3)).drew) = wx at *
    generalize hVV : n.vars.toNat = V at *
    have hV2 : (V : Int) = n.vars := by omega
    clear hmk
    go_loopg [18] (V + 1) (fun m s18 wy => ∃ (k : Nat) (L : List Int), k + m = V + 1 ∧ s18 = .int .i64 k ∧ Aside (Draft (w.heap.size + 1 + 1) w2 wy (w.heap.size + 1 + 1) (w.heap.size + 1 + 1 + 1) n S (.slice none 0 0) [] L ∧ L.length = V + 1 ∧ L.take k = List.replicate k (-1)))
    case atStart => exact ⟨0, _, by omega, rfl, HD.out, by simp, by simp⟩
    case round =>
      clear HD
      obtain ⟨k, L, hk, rfl, HS⟩ := hrel
      generalize gk = m at *
      by_cases hlt : (k : Int) < n.vars + 1
      · have hk0 : (0 : Int) ≤ (k : Int) := by omega
        have hkb : (k : Int) ≤ 2000 := by omega
        have e9 := HS.out.1.cell (j := 9) (u := .slice (some ⟨(w.heap.size + 1 + 1 + 1), 0, none⟩) (V + 1) (V + 1)) (by rw [← HS.out.2.1]; rfl)
        have hkv : (k : Int) < (V : Int) + 1 := by omega
        obtain ⟨l, hl⟩ := some_of_lt (show k < L.length by have := HS.out.2.1; omega)
        have m7 := HS.out.1.ints.cell hl
        have f7 := HS.out.1.ints.free k
        clear hl
        go_wp2_with fail
        go_roundg (m - 1)
        case measure => omega
        case rel => exact ⟨k + 1, _, by omega, by first | rfl | simp, HS.out.1.put k (-1), by rw [List.length_set]; exact HS.out.2.1, minus_step HS.out.2.1 HS.out.2.2 (by omega)⟩
      · have hlk : L = (List.replicate (V + 1) (-1)) := by
          have h1 := HS.out.2.2
          have h2 := HS.out.2.1
          have h3 : k = V + 1 := by omega
          rw [h3, List.take_of_length_le (by omega)] at h1
          exact h1
        have HD := Lib.hid (hlk ▸ HS.out.1)
        clear HS hlk
        have HB2 := HD.out.own.below
        have n7 := (HB2.cell (p := ⟨w.heap.size, 7, none⟩) (show w.heap.size < w.heap.size + 1 + 1 by omega)).trans e7
        clear HB2
        go_wp2_with fail
        go_loopg [29] n.ands.length (fun m s29 wy => ∃ (k : Nat) (D : List PNode) (p : Value), k + m = n.ands.length ∧ s29 = .int .i64 k ∧ Aside (Draft (w.heap.size + 1 + 1) w2 wy (w.heap.size + 1 + 1) (w.heap.size + 1 + 1 + 1) n S p D (dfill 0 D (List.replicate (V + 1) (-1))) ∧ D ++ (andNodes k (n.ands.drop k) ++ memNodes 0 n.mems) = n.nodes))
        case atStart => exact ⟨0, [], _, by omega, rfl, HD.out, by simp [PNet.nodes]⟩
        case round =>
          clear HD hlt hk n7
          obtain ⟨k, D, p, hk, rfl, HS⟩ := hrel
          generalize gk = m at *
          by_cases hlt : k < n.ands.length
          · obtain ⟨x, hx⟩ := some_of_lt hlt
            have hltI : (k : Int) < (n.ands.length : Int) := by omega
            have hkb : (k : Int) ≤ 1000000 := by have := H.out.2.2.2.2.1.ands; omega
            have hE : D ++ ⟨false, 0, (k : Int), [x.aa, x.ab], [x.av]⟩ :: (andNodes (k + 1) (n.ands.drop (k + 1)) ++ memNodes 0 n.mems) = n.nodes := by
              rw [← HS.out.2, drop_some hx]; simp [andNodes]
            have hxm : (⟨false, 0, (k : Int), [x.aa, x.ab], [x.av]⟩ : PNode) ∈ n.nodes := by rw [← hE]; simp
            have hDl : D.length ≤ 1000 := by have := H.out.2.2.2.2.2.2.1; rw [← hE] at this; simp at this; omega
            have hLl : (dfill 0 D (List.replicate (V + 1) (-1))).length = V + 1 := by rw [dfill_len, List.length_replicate]
            have HA := Lib.hid (add_any n S (w.heap.size + 1 + 1) w2 wr (w.heap.size + 1 + 1) (w.heap.size + 1 + 1 + 1) p D _ _ HS.out.1 (NetAt.below HS.out.1.own.below (Nat.le_refl _) (hs2 ▸ H.out.1)) hxm H.out.2.2.2.2.1 H.out.2.2.2.2.2.1 H.out.2.2.1 hDl (fun u hu => by have := H.out.2.2.2.1.vars _ hxm u hu; omega) (H.out.2.2.2.1.lens _ hxm).2)
            have HE := Lib.hid hE
            clear hx hxm hE hLl hDl
            go_wp2_with (go_at_call 46; refine HA.out.mono ?_; rintro e w5 ⟨p', rfl, hD'⟩)
            have HQ := Lib.hid hD'
            clear hD' HA HS
            go_roundg (m - 1)
            case measure => omega
            case rel => exact ⟨k + 1, _, p', by omega, by first | rfl | simp, by rw [dfill_snoc, Nat.zero_add]; exact HQ.out, by rw [← HE.out]; simp⟩
          · have hltn : ¬ ((k : Int) < (n.ands.length : Int)) := by omega
            have HE := Lib.hid (show D ++ memNodes 0 (n.mems.drop 0) = n.nodes by
              rw [← HS.out.2, List.drop_eq_nil_of_le (show n.ands.length ≤ k by omega)]; simp [andNodes])
            have n6 := (HS.out.1.own.below.cell (p := ⟨w.heap.size, 6, none⟩) (show w.heap.size < w.heap.size + 1 + 1 by omega)).trans e6
            have HD := Lib.hid HS.out.1
            clear HS
            go_wp2_with fail
            clear n6
            go_loopg [39] n.mems.length (fun m s39 wy => ∃ (i : Nat) (D : List PNode) (p : Value), i + m = n.mems.length ∧ s39 = .int .i64 i ∧ Aside (Draft (w.heap.size + 1 + 1) w2 wy (w.heap.size + 1 + 1) (w.heap.size + 1 + 1 + 1) n S p D (dfill 0 D (List.replicate (V + 1) (-1))) ∧ D ++ memNodes i (n.mems.drop i) = n.nodes))
            case atStart => exact ⟨0, D, p, by omega, rfl, HD.out, HE.out⟩
            case round =>
              clear HD HE hlt hltn hk
              obtain ⟨i, D, p, hi, rfl, HS⟩ := hrel
              generalize gk = m at *
              by_cases hlt : i < n.mems.length
              · obtain ⟨x, hx⟩ := some_of_lt hlt
                have hltI : (i : Int) < (n.mems.length : Int) := by omega
                have hi0 : (0 : Int) ≤ (i : Int) := by omega
                have hib : (i : Int) ≤ 1000000 := by have := H.out.2.2.2.2.1.mems; omega
                have hxl := (H.out.2.2.2.2.1.ports x (mem_of_some hx)).1
                have HE := Lib.hid (show D ++ (portNodes x.mw i 0 (x.mr.drop 0) ++ memNodes (i + 1) (n.mems.drop (i + 1))) = n.nodes by
                  rw [← HS.out.2, drop_some hx]; simp [memNodes])
                obtain ⟨b, o, hSm, hbB, hcell⟩ := (NetAt.below HS.out.1.own.below (Nat.le_refl _) (hs2 ▸ H.out.1)).mems.at hx
                obtain ⟨a1, c1, a2, c2, m0, m1, m2, m3, m4, hP⟩ := hcell i x hx
                have HD := Lib.hid HS.out.1
                clear hcell hx hP HS
                rw [hSm]
                have HSm := Lib.hid hSm
                clear hSm
                go_wp2_with fail
                have HD2 := Lib.hid (HD.out.call (below_box wr #[.int .i64 x.ma, .int .i64 x.mw, .bool x.mn, .slice a1 x.mr.length c1, .slice a2 x.mx.length c2] 56))
                clear HD
                generalize wr.alloc (.cells #[.int .i64 x.ma, .int .i64 x.mw, .bool x.mn, .slice a1 x.mr.length c1, .slice a2 x.mx.length c2] 56) = wq at *
                go_loopg [47] x.mr.length (fun m s47 wy => ∃ (j : Nat) (D : List PNode) (p : Value), j + m = x.mr.length ∧ s47 = .int .i64 j ∧ Aside (Draft (w.heap.size + 1 + 1) w2 wy (w.heap.size + 1 + 1) (w.heap.size + 1 + 1 + 1) n S p D (dfill 0 D (List.replicate (V + 1) (-1))) ∧ D ++ (portNodes x.mw i j (x.mr.drop j) ++ memNodes (i + 1) (n.mems.drop (i + 1))) = n.nodes))
                case atStart => exact ⟨0, D, p, by omega, rfl, HD2.out, HE.out⟩
                case round =>
                  clear HD2 HE
                  obtain ⟨j, D, p, hj, rfl, HS⟩ := hrel
                  generalize gk = m3 at *
                  by_cases hjl : j < x.mr.length
                  · obtain ⟨r, hr⟩ := some_of_lt hjl
                    have hjlI : (j : Int) < (x.mr.length : Int) := by omega
                    have hjb : (j : Int) ≤ 1000000 := by omega
                    have hE : D ++ ⟨true, (i : Int), (j : Int), r.ra, dataL r.rv x.mw⟩ :: (portNodes x.mw i (j + 1) (x.mr.drop (j + 1)) ++ memNodes (i + 1) (n.mems.drop (i + 1))) = n.nodes := by
                      rw [← HS.out.2, drop_some hr]; simp [portNodes]
                    have hxm : (⟨true, (i : Int), (j : Int), r.ra, dataL r.rv x.mw⟩ : PNode) ∈ n.nodes := by rw [← hE]; simp
                    have hDl : D.length ≤ 1000 := by have := H.out.2.2.2.2.2.2.1; rw [← hE] at this; simp at this; omega
                    have hLl : (dfill 0 D (List.replicate (V + 1) (-1))).length = V + 1 := by rw [dfill_len, List.length_replicate]
                    have HA := Lib.hid (add_any n S (w.heap.size + 1 + 1) w2 wr (w.heap.size + 1 + 1) (w.heap.size + 1 + 1 + 1) p D _ _ HS.out.1 (NetAt.below HS.out.1.own.below (Nat.le_refl _) (hs2 ▸ H.out.1)) hxm H.out.2.2.2.2.1 H.out.2.2.2.2.2.1 H.out.2.2.1 hDl (fun u hu => by have := H.out.2.2.2.1.vars _ hxm u hu; omega) (H.out.2.2.2.1.lens _ hxm).2)
                    have HE := Lib.hid hE
                    clear hr hxm hE hLl hDl
                    go_wp2_with (go_at_call 46; refine HA.out.mono ?_; rintro e w5 ⟨p', rfl, hD'⟩)
                    have HQ := Lib.hid hD'
                    clear hD' HA HS
                    go_roundg (m3 - 1)
                    case measure => omega
                    case rel => exact ⟨j + 1, _, p', by omega, by first | rfl | simp, by rw [dfill_snoc, Nat.zero_add]; exact HQ.out, by rw [← HE.out]; simp⟩
                  · have hjn : ¬ ((j : Int) < (x.mr.length : Int)) := by omega
                    have HE := Lib.hid (show D ++ memNodes (i + 1) (n.mems.drop (i + 1)) = n.nodes by
                      rw [← HS.out.2, List.drop_eq_nil_of_le (show x.mr.length ≤ j by omega)]; simp [portNodes])
                    have HD := Lib.hid HS.out.1
                    clear HS
                    go_wp2_with fail
                    rw [← HSm.out]
                    go_roundg (m - 1)
                    case measure => omega
                    case rel => exact ⟨i + 1, D, p, by omega, by first | rfl | simp, HD.out, HE.out⟩
              · have hltn : ¬ ((i : Int) < (n.mems.length : Int)) := by omega
                have hDn : D = n.nodes := by
                  rw [← HS.out.2, List.drop_eq_nil_of_le (show n.mems.length ≤ i by omega)]; simp [memNodes]
                have HD := Lib.hid (hDn ▸ HS.out.1)
                clear HS hDn
                have hZ := (HD.out.own.below.block (w.heap.size + 1) (show w.heap.size + 1 < w.heap.size + 1 + 1 by omega)).trans H.out.2.2.2.2.2.2.2.2
                have hLl : (dfill 0 n.nodes (List.replicate (V + 1) (-1))).length = V + 1 := by rw [dfill_len, List.length_replicate]
                have d0 : wr.cell? ⟨(w.heap.size + 1 + 1), 0, none⟩ = some (.int .i64 n.vars) := HD.out.cell (j := 0) rfl
                have d1 : wr.cell? ⟨(w.heap.size + 1 + 1), 1, none⟩ = some (.slice S.i n.inputs.length S.ic) := HD.out.cell (j := 1) rfl
                have d2 : wr.cell? ⟨(w.heap.size + 1 + 1), 2, none⟩ = some (.slice S.l n.latches.length S.lc) := HD.out.cell (j := 2) rfl
                have d3 : wr.cell? ⟨(w.heap.size + 1 + 1), 3, none⟩ = some (.slice S.o n.outs.length S.oc) := HD.out.cell (j := 3) rfl
                have d4 : wr.cell? ⟨(w.heap.size + 1 + 1), 4, none⟩ = some (.slice S.b n.bads.length S.bc) := HD.out.cell (j := 4) rfl
                have d5 : wr.cell? ⟨(w.heap.size + 1 + 1), 5, none⟩ = some (.slice S.c n.cons.length S.cc) := HD.out.cell (j := 5) rfl
                have d6 : wr.cell? ⟨(w.heap.size + 1 + 1), 6, none⟩ = some (.slice S.m n.mems.length S.mc) := HD.out.cell (j := 6) rfl
                have d7 : wr.cell? ⟨(w.heap.size + 1 + 1), 7, none⟩ = some (.slice S.a n.ands.length S.ac) := HD.out.cell (j := 7) rfl
                have d8 : wr.cell? ⟨(w.heap.size + 1 + 1), 8, none⟩ = some (p) := HD.out.cell (j := 8) rfl
                have d9 : wr.cell? ⟨(w.heap.size + 1 + 1), 9, none⟩ = some (.slice (some ⟨(w.heap.size + 1 + 1 + 1), 0, none⟩) (V + 1) (V + 1)) := HD.out.cell (j := 9) (by show some (Value.slice (some ⟨(w.heap.size + 1 + 1 + 1), 0, none⟩) (dfill 0 n.nodes (List.replicate (V + 1) (-1))).length (dfill 0 n.nodes (List.replicate (V + 1) (-1))).length) = _; rw [hLl])
                have r0 : wr.cell? ⟨w.heap.size + 1, 0, none⟩ = some (.int .i64 0) := by rw [cell_of_row wr (w.heap.size + 1) 0 _ _ _ hZ]; rfl
                have f0 : wr.frozen? ⟨w.heap.size + 1, 0, none⟩ = false := frozen_of_row wr (w.heap.size + 1) 0 _ _ hZ
                have r1 : wr.cell? ⟨w.heap.size + 1, 1, none⟩ = some (.slice none 0 0) := by rw [cell_of_row wr (w.heap.size + 1) 1 _ _ _ hZ]; rfl
                have f1 : wr.frozen? ⟨w.heap.size + 1, 1, none⟩ = false := frozen_of_row wr (w.heap.size + 1) 1 _ _ hZ
                have r2 : wr.cell? ⟨w.heap.size + 1, 2, none⟩ = some (.slice none 0 0) := by rw [cell_of_row wr (w.heap.size + 1) 2 _ _ _ hZ]; rfl
                have f2 : wr.frozen? ⟨w.heap.size + 1, 2, none⟩ = false := frozen_of_row wr (w.heap.size + 1) 2 _ _ hZ
                have r3 : wr.cell? ⟨w.heap.size + 1, 3, none⟩ = some (.slice none 0 0) := by rw [cell_of_row wr (w.heap.size + 1) 3 _ _ _ hZ]; rfl
                have f3 : wr.frozen? ⟨w.heap.size + 1, 3, none⟩ = false := frozen_of_row wr (w.heap.size + 1) 3 _ _ hZ
                have r4 : wr.cell? ⟨w.heap.size + 1, 4, none⟩ = some (.slice none 0 0) := by rw [cell_of_row wr (w.heap.size + 1) 4 _ _ _ hZ]; rfl
                have f4 : wr.frozen? ⟨w.heap.size + 1, 4, none⟩ = false := frozen_of_row wr (w.heap.size + 1) 4 _ _ hZ
                have r5 : wr.cell? ⟨w.heap.size + 1, 5, none⟩ = some (.slice none 0 0) := by rw [cell_of_row wr (w.heap.size + 1) 5 _ _ _ hZ]; rfl
                have f5 : wr.frozen? ⟨w.heap.size + 1, 5, none⟩ = false := frozen_of_row wr (w.heap.size + 1) 5 _ _ hZ
                have r6 : wr.cell? ⟨w.heap.size + 1, 6, none⟩ = some (.slice none 0 0) := by rw [cell_of_row wr (w.heap.size + 1) 6 _ _ _ hZ]; rfl
                have f6 : wr.frozen? ⟨w.heap.size + 1, 6, none⟩ = false := frozen_of_row wr (w.heap.size + 1) 6 _ _ hZ
                have r7 : wr.cell? ⟨w.heap.size + 1, 7, none⟩ = some (.slice none 0 0) := by rw [cell_of_row wr (w.heap.size + 1) 7 _ _ _ hZ]; rfl
                have f7 : wr.frozen? ⟨w.heap.size + 1, 7, none⟩ = false := frozen_of_row wr (w.heap.size + 1) 7 _ _ hZ
                have r8 : wr.cell? ⟨w.heap.size + 1, 8, none⟩ = some (.slice none 0 0) := by rw [cell_of_row wr (w.heap.size + 1) 8 _ _ _ hZ]; rfl
                have f8 : wr.frozen? ⟨w.heap.size + 1, 8, none⟩ = false := frozen_of_row wr (w.heap.size + 1) 8 _ _ hZ
                have r9 : wr.cell? ⟨w.heap.size + 1, 9, none⟩ = some (.slice none 0 0) := by rw [cell_of_row wr (w.heap.size + 1) 9 _ _ _ hZ]; rfl
                have f9 : wr.frozen? ⟨w.heap.size + 1, 9, none⟩ = false := frozen_of_row wr (w.heap.size + 1) 9 _ _ hZ
                obtain ⟨A, c, rfl, _⟩ := HD.out.own.form
                have HL := Lib.hid hLl
                have HZ := Lib.hid hZ
                clear hLl hZ
                go_wp2_with fail
                try simp only [Exit.inBlock, Exit.then]
                refine bodyPost_ret (results_cell_row rfl _ _ (w.heap.size + 1) 62 _ (0, 0) _ rfl (ten_row wr (w.heap.size + 1) 62 _ _ _ _ _ _ _ _ _ _ _ _ _ _ _ _ _ _ _ _ (HZ.out)) Try.underlying62 rfl (by kernel_rfl)) rfl ?_
                have hne : (Value.slice A n.nodes.length c).ownBlock ≠ some (w.heap.size + 1) := fun e => by have := HD.out.own.lt _ e; omega
                refine ⟨_, (w.heap.size + 1 + 1 + 1), by rw [HL.out], ten_own (w.heap.size + 1) _ _ _ _ _ _ _ _ _ _ (HD.out.own.down H.out.2.1 (by omega)) (by omega) hne, HD.out.ints.same (ten_other wr (w.heap.size + 1) (w.heap.size + 1 + 1 + 1) _ _ _ _ _ _ _ _ _ _ (by omega)), HD.out.ne2, by omega⟩
end Go.Proofs.Ytchnpooijaalnaa
