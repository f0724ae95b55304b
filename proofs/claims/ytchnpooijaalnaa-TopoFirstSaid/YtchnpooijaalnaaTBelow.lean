/- The literals on which a node of package topo hangs, and the variables below a variable (conditions: the netlist, the nodes and the definers lie where the graph's value says). -/
import Derived.Test.YtchnpooijaalnaaWalk
namespace Go.Proofs.Ytchnpooijaalnaa
open Go.ChangeShapes Go.WideShapes Go.RowKit
set_option linter.unusedVariables false

theorem HighL.lists {w w' : World} {xs : List Int} {e : Ending} (h : HighL w xs e w') : Lists w xs e w' := by
  obtain ⟨A, c, rfl, _, hs, hb⟩ := h
  exact ⟨A, c, rfl, hs, hb⟩

set_option maxRecDepth 100000 in
set_option maxHeartbeats 4000000 in
theorem literals_node (n : PNet) (S : NetS) (p q : Value) (w : World) (x : PNode) (h : NetAt w w.heap.size S n) (hx : x ∈ n.nodes) :
    Calls Try.prog 56 #[.agg #[.int .i64 n.vars, .slice S.i n.inputs.length S.ic, .slice S.l n.latches.length S.lc, .slice S.o n.outs.length S.oc, .slice S.b n.bads.length S.bc, .slice S.c n.cons.length S.cc, .slice S.m n.mems.length S.mc, .slice S.a n.ands.length S.ac, p, q], .agg #[.bool x.nr, .int .i64 x.nm, .int .i64 x.na]] w (Lists w x.nf) := by
  obtain ⟨nr, nm, na, nf, nv⟩ := x
  have hb2 := below_on (below_box w #[.int .i64 n.vars, .slice S.i n.inputs.length S.ic, .slice S.l n.latches.length S.lc, .slice S.o n.outs.length S.oc, .slice S.b n.bads.length S.bc, .slice S.c n.cons.length S.cc, .slice S.m n.mems.length S.mc, .slice S.a n.ands.length S.ac, p, q] 62) (below_box (w.alloc (.cells #[.int .i64 n.vars, .slice S.i n.inputs.length S.ic, .slice S.l n.latches.length S.lc, .slice S.o n.outs.length S.oc, .slice S.b n.bads.length S.bc, .slice S.c n.cons.length S.cc, .slice S.m n.mems.length S.mc, .slice S.a n.ands.length S.ac, p, q] 62)) #[.bool nr, .int .i64 nm, .int .i64 na] 42)
  have hM := (gBox_new w n S p q 62).below (below_box _ #[.bool nr, .int .i64 nm, .int .i64 na] 42) (by simp)
  obtain ⟨t0, t1, t2⟩ := tBox_new (w.alloc (.cells #[.int .i64 n.vars, .slice S.i n.inputs.length S.ic, .slice S.l n.latches.length S.lc, .slice S.o n.outs.length S.oc, .slice S.b n.bads.length S.bc, .slice S.c n.cons.length S.cc, .slice S.m n.mems.length S.mc, .slice S.a n.ands.length S.ac, p, q] 62)) ⟨nr, nm, na, nf, nv⟩ 42
  rw [show (w.alloc (.cells #[.int .i64 n.vars, .slice S.i n.inputs.length S.ic, .slice S.l n.latches.length S.lc, .slice S.o n.outs.length S.oc, .slice S.b n.bads.length S.bc, .slice S.c n.cons.length S.cc, .slice S.m n.mems.length S.mc, .slice S.a n.ands.length S.ac, p, q] 62)).heap.size = w.heap.size + 1 from by simp] at t0 t1 t2
  have hN := NetAt.below hb2 (Nat.le_refl _) h
  rcases node_at hx with ⟨r0, r1, j, a, r2, hj, rf, rv⟩ | ⟨r0, t, m, j, r, r1, hmm, r2, hr, rf, rv⟩
  · simp only at r0 r1 r2 rf rv
    subst r0 r1 r2 rf rv
    generalize hw2 : World.alloc (World.alloc w (.cells #[.int .i64 n.vars, .slice S.i n.inputs.length S.ic, .slice S.l n.latches.length S.lc, .slice S.o n.outs.length S.oc, .slice S.b n.bads.length S.bc, .slice S.c n.cons.length S.cc, .slice S.m n.mems.length S.mc, .slice S.a n.ands.length S.ac, p, q] 62)) (.cells #[.bool false, .int .i64 0, .int .i64 (j : Int)] 42) = w2 at hb2 hM t0 t1 t2 hN
    obtain ⟨e0, e1, e2, e3, e4, e5, e6, e7, e8⟩ := hM.net
    obtain ⟨b, o, hS, hbB, hcell⟩ := hN.ands.at hj
    obtain ⟨m0, m1, m2⟩ := hcell j a hj
    have hjl := lt_of_some hj
    have hjI : (j : Int) < (n.ands.length : Int) := by omega
    have hj0 : (0 : Int) ≤ (j : Int) := by omega
    have HB := Lib.hid hb2
    clear hcell hN h hb2 hx hj hM
    generalize S.a = sa at *
    subst hS
    go_enter Try.func56, Try.ntmps56
    go_wp2_with fail
    go_ret
    exact HighL.lists (highL_two a.aa a.ab (by simp) (below_on HB.out (below_box _ _ _)))
  · simp only at r0 r1 r2 rf rv
    subst r0 r1 r2 rf rv
    generalize hw2 : World.alloc (World.alloc w (.cells #[.int .i64 n.vars, .slice S.i n.inputs.length S.ic, .slice S.l n.latches.length S.lc, .slice S.o n.outs.length S.oc, .slice S.b n.bads.length S.bc, .slice S.c n.cons.length S.cc, .slice S.m n.mems.length S.mc, .slice S.a n.ands.length S.ac, p, q] 62)) (.cells #[.bool true, .int .i64 (t : Int), .int .i64 (j : Int)] 42) = w2 at hb2 hM t0 t1 t2 hN
    obtain ⟨e0, e1, e2, e3, e4, e5, e6, e7, e8⟩ := hM.net
    obtain ⟨b, o, hS, hbB, hcell⟩ := hN.mems.at hmm
    obtain ⟨a1, c1, a2, c2, m0, m1, m2, m3, m4, hP⟩ := hcell t m hmm
    have htl := lt_of_some hmm
    have htI : (t : Int) < (n.mems.length : Int) := by omega
    have ht0 : (0 : Int) ≤ (t : Int) := by omega
    have hjl := lt_of_some hr
    have hjI : (j : Int) < (m.mr.length : Int) := by omega
    have hj0 : (0 : Int) ≤ (j : Int) := by omega
    obtain ⟨br, orr, hSr, hbrB, hcr⟩ := hP.1.at hr
    obtain ⟨ar, cr, r0', r1', hsr, _⟩ := hcr j r hr
    have HB := Lib.hid (And.intro hb2 (hsr.wider hb2.size))
    subst hSr
    clear hcell hN h hb2 hx hr hM hmm hP hcr hsr
    generalize S.m = sm at *
    subst hS
    go_enter Try.func56, Try.ntmps56
    go_wp2_with fail
    clear hw2
    go_quiet (fail)
    go_wp2_with fail
    go_ret
    exact ⟨_, _, rfl, HB.out.2, ⟨HB.out.1.os, HB.out.1.tape, HB.out.1.output, HB.out.1.size, HB.out.1.block⟩⟩

/-- The variables below v: those of the literals of the node that defines it. -/
def belowOf (D : List PNode) (v : Nat) : List Nat := match D.find? (fun x => x.nv.any fun u => u.toNat == v) with | some x => x.nf.map fun f => (f / 2).toNat | none => []
/-- L tells of each variable which node defines it. -/
structure Tells (D : List PNode) (V : Nat) (L : List Int) : Prop where
  len : L.length = V + 1
  here : ∀ v, v ≤ V → (L[v]? = some (-1) ∧ belowOf D v = []) ∨ (∃ (j : Nat) (x : PNode), L[v]? = some (j : Int) ∧ D[j]? = some x ∧ belowOf D v = x.nf.map fun f => (f / 2).toNat)
/-- A graph: the netlist, its nodes and which of them defines each variable. -/
structure GraphAt (w : World) (B : Nat) (S : NetS) (n : PNet) (a : Option Addr) (d : Option Addr) (L : List Int) : Prop where
  net : NetAt w B S n
  nodes : Row B 3 (TNodeAt w) a n.nodes
  defs : Src w B d L
theorem TNodeAt.below {w w' : World} {B b o : Nat} {x : PNode} (hb : Below B w w') (hlt : b < B) (h : TNodeAt w b o x) : TNodeAt w' b o x :=
  ⟨(hb.cell (p := ⟨b, o, none⟩) hlt).trans h.1, (hb.cell (p := ⟨b, o + 1, none⟩) hlt).trans h.2.1, (hb.cell (p := ⟨b, o + 2, none⟩) hlt).trans h.2.2⟩
theorem GraphAt.later {w w' : World} {B B' : Nat} {S : NetS} {n : PNet} {a d : Option Addr} {L : List Int} (h : GraphAt w B S n a d L) (hb : Below B w w') (hB : B ≤ B') : GraphAt w' B' S n a d L :=
  ⟨NetAt.wider hB (NetAt.below hb (Nat.le_refl _) h.net), h.nodes.mono hB fun b o x hlt hx => hx.below hb hlt, (h.defs.below hb (Nat.le_refl _)).wider hB⟩

theorem halves_map {l : List Int} (h : ∀ f ∈ l, 0 ≤ f) : nats (l.map fun f => (f / 2).toNat) = l.map (· / 2) := by
  unfold nats
  rw [List.map_map]
  refine List.map_congr_left fun f hf => ?_
  have := h f hf
  show (((f / 2).toNat : Nat) : Int) = f / 2
  omega
theorem tvar_any (l : Int) (w : World) : Calls Try.prog 32 #[.int .i64 l] w fun e w' => e = .returned (.int .i64 (l / 2)) ∧ w = w' := by
  go_enter Try.func32, Try.ntmps32
  go_wp2
  go_ret
  exact ⟨rfl, rfl⟩

set_option maxRecDepth 100000 in
set_option maxHeartbeats 4000000 in
theorem below_any (n : PNet) (S : NetS) (a d : Option Addr) (c cd : Nat) (L : List Int) (V : Nat) (w : World) (v : Nat) (h : GraphAt w w.heap.size S n a d L) (ht : Tells n.nodes V L) (hv : v ≤ V) (hV : V ≤ 1000000) (hG : Good6 V n.nodes) :
    Calls Try.prog 34 #[.agg #[.int .i64 n.vars, .slice S.i n.inputs.length S.ic, .slice S.l n.latches.length S.lc, .slice S.o n.outs.length S.oc, .slice S.b n.bads.length S.bc, .slice S.c n.cons.length S.cc, .slice S.m n.mems.length S.mc, .slice S.a n.ands.length S.ac, .slice a n.nodes.length c, .slice d L.length cd], .int .i64 (v : Nat)] w (HighL w (nats (belowOf n.nodes v))) := by
  have hbx := below_box w #[.int .i64 n.vars, .slice S.i n.inputs.length S.ic, .slice S.l n.latches.length S.lc, .slice S.o n.outs.length S.oc, .slice S.b n.bads.length S.bc, .slice S.c n.cons.length S.cc, .slice S.m n.mems.length S.mc, .slice S.a n.ands.length S.ac, .slice a n.nodes.length c, .slice d L.length cd] 62
  have hM := gBox_new w n S (.slice a n.nodes.length c) (.slice d L.length cd) 62
  have hg := h.later hbx (by simp : w.heap.size ≤ w.heap.size + 1)
  have hl := ht.len
  have hv0 : (0 : Int) ≤ (v : Int) := by omega
  have hv1 : (v : Int) < (L.length : Int) := by omega
  clear hl
  generalize hw1 : World.alloc w (.cells #[.int .i64 n.vars, .slice S.i n.inputs.length S.ic, .slice S.l n.latches.length S.lc, .slice S.o n.outs.length S.oc, .slice S.b n.bads.length S.bc, .slice S.c n.cons.length S.cc, .slice S.m n.mems.length S.mc, .slice S.a n.ands.length S.ac, .slice a n.nodes.length c, .slice d L.length cd] 62) = w1 at hbx hM hg
  have e9 := hM.n9
  rcases ht.here v hv with ⟨q1, q2⟩ | ⟨j, x, q1, q2, q3⟩
  · obtain ⟨b, o, hS, hbB, hcell⟩ := hg.defs.at q1
    have m0 := hcell v _ q1
    subst hS
    rw [q2]
    have HB := Lib.hid hbx
    clear hcell hg h ht hG hbx hM q1 q2
    go_enter Try.func34, Try.ntmps34
    go_wp2_with fail
    go_ret
    exact ⟨none, 0, rfl, fun h => absurd rfl h, Src.nil, HB.out⟩
  · obtain ⟨b, o, hS, hbB, hcell⟩ := hg.defs.at q1
    have m0 := hcell v _ q1
    subst hS
    obtain ⟨bn, on, hSn, hbn, hcn⟩ := hg.nodes.at q2
    obtain ⟨t0, t1, t2⟩ := hcn j x q2
    subst hSn
    have hjl := lt_of_some q2
    have hjI : (j : Int) < (n.nodes.length : Int) := by omega
    have hj0 : (0 : Int) ≤ (j : Int) := by omega
    have hjne : ((j : Int) == -1) = false := by simp
    have hxm := mem_of_some q2
    have hf0 : ∀ f ∈ x.nf, 0 ≤ f := fun f hf => (hG.lits x hxm f hf).1
    have hfl := (hG.lens x hxm).1
    obtain ⟨e0, e1, e2, e3, e4, e5, e6, e7, e8⟩ := hM.net
    have e10 := hM.n8
    have hbnl : bn < w1.heap.size := Nat.lt_of_lt_of_le hbn (by omega)
    have hbl : b < w1.heap.size := Nat.lt_of_lt_of_le hbB (by omega)
    have HK := Lib.hid fun (W : World) (hW : Below w1.heap.size w1 W) => show ((W.cell? ⟨w.heap.size, 0, none⟩ = some (.int .i64 n.vars) ∧ W.cell? ⟨w.heap.size, 1, none⟩ = some (.slice S.i n.inputs.length S.ic) ∧ W.cell? ⟨w.heap.size, 2, none⟩ = some (.slice S.l n.latches.length S.lc) ∧ W.cell? ⟨w.heap.size, 3, none⟩ = some (.slice S.o n.outs.length S.oc) ∧ W.cell? ⟨w.heap.size, 4, none⟩ = some (.slice S.b n.bads.length S.bc) ∧ W.cell? ⟨w.heap.size, 5, none⟩ = some (.slice S.c n.cons.length S.cc) ∧ W.cell? ⟨w.heap.size, 6, none⟩ = some (.slice S.m n.mems.length S.mc) ∧ W.cell? ⟨w.heap.size, 7, none⟩ = some (.slice S.a n.ands.length S.ac) ∧ W.cell? ⟨w.heap.size, 8, none⟩ = some (.slice (some ⟨bn, on, none⟩) n.nodes.length c) ∧ W.cell? ⟨w.heap.size, 9, none⟩ = some (.slice (some ⟨b, o, none⟩) L.length cd) ∧ W.cell? ⟨b, o + v, none⟩ = some (.int .i64 (j : Int)) ∧ W.cell? ⟨bn, on + j * 3, none⟩ = some (.bool x.nr) ∧ W.cell? ⟨bn, on + j * 3 + 1, none⟩ = some (.int .i64 x.nm) ∧ W.cell? ⟨bn, on + j * 3 + 2, none⟩ = some (.int .i64 x.na)) ∧ Hid (Below w1.heap.size w1 W)) from
      ⟨⟨(hM.below hW e8).net.n0, (hM.below hW e8).net.n1, (hM.below hW e8).net.n2, (hM.below hW e8).net.n3, (hM.below hW e8).net.n4, (hM.below hW e8).net.n5, (hM.below hW e8).net.n6, (hM.below hW e8).net.n7, (hM.below hW e8).n8, (hM.below hW e8).n9, (hW.cell (p := ⟨b, o + v, none⟩) hbl).trans m0, (hW.cell (p := ⟨bn, on + j * 3, none⟩) hbnl).trans t0, (hW.cell (p := ⟨bn, on + j * 3 + 1, none⟩) hbnl).trans t1, (hW.cell (p := ⟨bn, on + j * 3 + 2, none⟩) hbnl).trans t2⟩, Lib.hid hW⟩
    have HD := Lib.hid fun (W : World) (hW : ((W.cell? ⟨w.heap.size, 0, none⟩ = some (.int .i64 n.vars) ∧ W.cell? ⟨w.heap.size, 1, none⟩ = some (.slice S.i n.inputs.length S.ic) ∧ W.cell? ⟨w.heap.size, 2, none⟩ = some (.slice S.l n.latches.length S.lc) ∧ W.cell? ⟨w.heap.size, 3, none⟩ = some (.slice S.o n.outs.length S.oc) ∧ W.cell? ⟨w.heap.size, 4, none⟩ = some (.slice S.b n.bads.length S.bc) ∧ W.cell? ⟨w.heap.size, 5, none⟩ = some (.slice S.c n.cons.length S.cc) ∧ W.cell? ⟨w.heap.size, 6, none⟩ = some (.slice S.m n.mems.length S.mc) ∧ W.cell? ⟨w.heap.size, 7, none⟩ = some (.slice S.a n.ands.length S.ac) ∧ W.cell? ⟨w.heap.size, 8, none⟩ = some (.slice (some ⟨bn, on, none⟩) n.nodes.length c) ∧ W.cell? ⟨w.heap.size, 9, none⟩ = some (.slice (some ⟨b, o, none⟩) L.length cd) ∧ W.cell? ⟨b, o + v, none⟩ = some (.int .i64 (j : Int)) ∧ W.cell? ⟨bn, on + j * 3, none⟩ = some (.bool x.nr) ∧ W.cell? ⟨bn, on + j * 3 + 1, none⟩ = some (.int .i64 x.nm) ∧ W.cell? ⟨bn, on + j * 3 + 2, none⟩ = some (.int .i64 x.na)) ∧ Hid (Below w1.heap.size w1 W))) => literals_node n S (.slice (some ⟨bn, on, none⟩) n.nodes.length c) (.slice (some ⟨b, o, none⟩) L.length cd) W x (NetAt.later hg.net (hW.2.out.mono (by omega)) (Nat.le_trans (by omega) hW.2.out.size)) hxm
    have HT := Lib.hid fun (W V' : World) (hW : ((W.cell? ⟨w.heap.size, 0, none⟩ = some (.int .i64 n.vars) ∧ W.cell? ⟨w.heap.size, 1, none⟩ = some (.slice S.i n.inputs.length S.ic) ∧ W.cell? ⟨w.heap.size, 2, none⟩ = some (.slice S.l n.latches.length S.lc) ∧ W.cell? ⟨w.heap.size, 3, none⟩ = some (.slice S.o n.outs.length S.oc) ∧ W.cell? ⟨w.heap.size, 4, none⟩ = some (.slice S.b n.bads.length S.bc) ∧ W.cell? ⟨w.heap.size, 5, none⟩ = some (.slice S.c n.cons.length S.cc) ∧ W.cell? ⟨w.heap.size, 6, none⟩ = some (.slice S.m n.mems.length S.mc) ∧ W.cell? ⟨w.heap.size, 7, none⟩ = some (.slice S.a n.ands.length S.ac) ∧ W.cell? ⟨w.heap.size, 8, none⟩ = some (.slice (some ⟨bn, on, none⟩) n.nodes.length c) ∧ W.cell? ⟨w.heap.size, 9, none⟩ = some (.slice (some ⟨b, o, none⟩) L.length cd) ∧ W.cell? ⟨b, o + v, none⟩ = some (.int .i64 (j : Int)) ∧ W.cell? ⟨bn, on + j * 3, none⟩ = some (.bool x.nr) ∧ W.cell? ⟨bn, on + j * 3 + 1, none⟩ = some (.int .i64 x.nm) ∧ W.cell? ⟨bn, on + j * 3 + 2, none⟩ = some (.int .i64 x.na)) ∧ Hid (Below w1.heap.size w1 W))) (hV : Below W.heap.size W V') => HK.out V' (below_on hW.2.out hV)
    have HB := Lib.hid hbx
    have HQ := Lib.hid (And.intro q3 (And.intro hf0 hfl))
    clear hcell hg h ht hG hM q1 q2 q3 hcn hbn hbnl hbl hbB hf0 hfl hxm hbx
    go_enter Try.func34, Try.ntmps34
    go_wp2_with fail
    clear hw1
    go_region_held3 (fun W => ((W.cell? ⟨w.heap.size, 0, none⟩ = some (.int .i64 n.vars) ∧ W.cell? ⟨w.heap.size, 1, none⟩ = some (.slice S.i n.inputs.length S.ic) ∧ W.cell? ⟨w.heap.size, 2, none⟩ = some (.slice S.l n.latches.length S.lc) ∧ W.cell? ⟨w.heap.size, 3, none⟩ = some (.slice S.o n.outs.length S.oc) ∧ W.cell? ⟨w.heap.size, 4, none⟩ = some (.slice S.b n.bads.length S.bc) ∧ W.cell? ⟨w.heap.size, 5, none⟩ = some (.slice S.c n.cons.length S.cc) ∧ W.cell? ⟨w.heap.size, 6, none⟩ = some (.slice S.m n.mems.length S.mc) ∧ W.cell? ⟨w.heap.size, 7, none⟩ = some (.slice S.a n.ands.length S.ac) ∧ W.cell? ⟨w.heap.size, 8, none⟩ = some (.slice (some ⟨bn, on, none⟩) n.nodes.length c) ∧ W.cell? ⟨w.heap.size, 9, none⟩ = some (.slice (some ⟨b, o, none⟩) L.length cd) ∧ W.cell? ⟨b, o + v, none⟩ = some (.int .i64 (j : Int)) ∧ W.cell? ⟨bn, on + j * 3, none⟩ = some (.bool x.nr) ∧ W.cell? ⟨bn, on + j * 3 + 1, none⟩ = some (.int .i64 x.nm) ∧ W.cell? ⟨bn, on + j * 3 + 2, none⟩ = some (.int .i64 x.na)) ∧ Hid (Below w1.heap.size w1 W))) (first | exact HK.out _ (Below.refl _ _).drew | exact HT.out _ _ (by assumption) (by assumption) | go_keep)
      (first
        | (go_at_call 56; refine (HD.out _ (by assumption)).mono ?_; rintro e w5 ⟨A5, c5, rfl, hs5, hb5⟩)
        | fail)
    all_goals
      have HE := Lib.hid (below_on HB.out (show ((w5.cell? ⟨w.heap.size, 0, none⟩ = some (.int .i64 n.vars) ∧ w5.cell? ⟨w.heap.size, 1, none⟩ = some (.slice S.i n.inputs.length S.ic) ∧ w5.cell? ⟨w.heap.size, 2, none⟩ = some (.slice S.l n.latches.length S.lc) ∧ w5.cell? ⟨w.heap.size, 3, none⟩ = some (.slice S.o n.outs.length S.oc) ∧ w5.cell? ⟨w.heap.size, 4, none⟩ = some (.slice S.b n.bads.length S.bc) ∧ w5.cell? ⟨w.heap.size, 5, none⟩ = some (.slice S.c n.cons.length S.cc) ∧ w5.cell? ⟨w.heap.size, 6, none⟩ = some (.slice S.m n.mems.length S.mc) ∧ w5.cell? ⟨w.heap.size, 7, none⟩ = some (.slice S.a n.ands.length S.ac) ∧ w5.cell? ⟨w.heap.size, 8, none⟩ = some (.slice (some ⟨bn, on, none⟩) n.nodes.length c) ∧ w5.cell? ⟨w.heap.size, 9, none⟩ = some (.slice (some ⟨b, o, none⟩) L.length cd) ∧ w5.cell? ⟨b, o + v, none⟩ = some (.int .i64 (j : Int)) ∧ w5.cell? ⟨bn, on + j * 3, none⟩ = some (.bool x.nr) ∧ w5.cell? ⟨bn, on + j * 3 + 1, none⟩ = some (.int .i64 x.nm) ∧ w5.cell? ⟨bn, on + j * 3 + 2, none⟩ = some (.int .i64 x.na)) ∧ Hid (Below w1.heap.size w1 w5)) from by assumption).2.out)
      have HS5 := Lib.hid hs5
      clear hs5 hb5 e0 e1 e2 e3 e4 e5 e6 e7 e8 e9 e10 t0 t1 t2 m0 HK HD HT
      rename_i hrest
      clear hrest
      generalize hnf : x.nf = nf at *
      go_wp2_with fail
      go_loopg [5, 7, 26] nf.length (fun m s5 _ s26 wx => ∃ k : Nat, k + m = nf.length ∧ s26 = .int .i64 k ∧ Own w5.heap.size w5 wx s5 ((nf.take k).map (· / 2)))
      case atStart => exact ⟨0, by omega, rfl, by simpa using Own.nil w5 _ (Nat.le_refl _)⟩
      case round =>
        obtain ⟨k, hk, rfl, hO⟩ := hrel
        generalize gk = m at *
        by_cases hlt : k < nf.length
        · obtain ⟨f, hf⟩ := some_of_lt hlt
          have hltI : (k : Int) < (nf.length : Int) := by omega
          have hk0 : (0 : Int) ≤ (k : Int) := by omega
          have hkb : (k : Int) ≤ 1000 := by have := HQ.out.2.2; omega
          obtain ⟨b6, o6, hS6, _, hc6⟩ := (HS5.out.own hO).at hf
          have m6 := hc6 k f hf
          have hlo : ((nf.take k).map (· / 2)).length ≤ 1000000 := by simp; omega
          have HX := Lib.hid (show (nf.take (k + 1)).map (· / 2) = (nf.take k).map (· / 2) ++ [f / 2] by rw [take_some hf]; simp)
          subst hS6
          clear hc6 hf
          go_wp2_with (first | (go_at_call 32; refine (tvar_any _ _).mono ?_; rintro e w' ⟨rfl, rfl⟩) | (at_builtin; refine wpl_one rfl _ _ rfl rfl hO rfl hlo ?_; intro v' w' hO2 hW))
          go_roundg (m - 1)
          case measure => omega
          case rel => exact ⟨k + 1, by omega, by first | rfl | simp, by rw [HX.out]; exact hO2⟩
        · have hltn : ¬ ((k : Int) < (nf.length : Int)) := by omega
          have HX := Lib.hid (show (nf.take k).map (· / 2) = nats (belowOf n.nodes v) by rw [HQ.out.1, halves_map HQ.out.2.1, List.take_of_length_le (by omega)])
          have HO := Lib.hid hO
          clear hO
          go_wp2_with fail
          go_ret
          exact Left.highL (w1 := w5) ⟨_, rfl, HX.out ▸ HO.out⟩ HE.out
end Go.Proofs.Ytchnpooijaalnaa
