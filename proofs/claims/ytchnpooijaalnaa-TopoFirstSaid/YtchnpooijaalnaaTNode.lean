/- What a node of package topo defines, and on what it hangs (conditions: the netlist lies where its value says, is modest; its words have at most 64 bits). -/
import Derived.Test.YtchnpooijaalnaaTopoSays
import Derived.Test.YtchnpooijaalnaaSound
import Derived.BigQuiet
namespace Go.Proofs.Ytchnpooijaalnaa
open Go.ChangeShapes Go.WideShapes Go.RowKit
set_option linter.unusedVariables false

/-- A list of numbers in a block of its own is answered. -/
def HighL (w : World) (xs : List Int) (e : Ending) (w' : World) : Prop := ∃ A c, e = .returned (.slice A xs.length c) ∧ High w' w.heap.size A xs ∧ Src w' w'.heap.size A xs ∧ Below w.heap.size w w'
theorem Left.highL {w w1 : World} {xs : List Int} {e : Ending} {w' : World} (h : Left w1 xs e w') (hb : Below w.heap.size w w1) : HighL w xs e w' := by
  obtain ⟨v, rfl, hO⟩ := h
  obtain ⟨A, c, rfl, hH⟩ := hO.high (hi := w.heap.size) hb.size
  obtain ⟨A2, c2, e2, hs, _⟩ := hO.form
  injection e2 with e3 e4 e5
  subst e3
  subst e5
  exact ⟨A, c, rfl, hH, hs, below_on hb hO.2.1⟩

theorem highL_one {w0 w : World} (x : Int) {g : Nat} (hg : g = w.heap.size) (hb : Below w0.heap.size w0 w) : HighL w0 [x] (.returned (.slice (some ⟨g, 0, none⟩) 1 1)) (w.alloc (.cells #[.int .i64 x] 3)) := by
  subst hg
  refine ⟨_, _, rfl, fun _ => ⟨_, _, rfl, hb.size, fun j y hj => ?_⟩, Src.one (t := 3) (fr := (0, 0)) (heap_alloc_new _ _) (by simp), below_on hb (below_box _ _ _)⟩
  have hj2 := lt_of_some hj
  have : j = 0 := by simpa using hj2
  subst this
  simp at hj
  subst hj
  rw [Nat.zero_add, cell_of_row _ w.heap.size 0 _ _ _ (heap_alloc_new w _)]
  rfl
theorem highL_two {w0 w : World} (x y : Int) {g : Nat} (hg : g = w.heap.size) (hb : Below w0.heap.size w0 w) : HighL w0 [x, y] (.returned (.slice (some ⟨g, 0, none⟩) 2 2)) (w.alloc (.cells #[.int .i64 x, .int .i64 y] 3)) := by
  subst hg
  refine ⟨_, _, rfl, fun _ => ⟨_, _, rfl, hb.size, fun j z hj => ?_⟩, Src.two (t := 3) (fr := (0, 0)) (heap_alloc_new _ _) (by simp), below_on hb (below_box _ _ _)⟩
  have hj2 := lt_of_some hj
  rw [cell_of_row _ w.heap.size (0 + j) _ _ _ (heap_alloc_new w _)]
  match j, hj2 with
  | 0, _ => simp at hj; subst hj; rfl
  | 1, _ => simp at hj; subst hj; rfl

/-- A graph that lies in block g as one value. -/
structure GBox (w : World) (g : Nat) (n : PNet) (S : NetS) (p q : Value) : Prop where
  net : NetBox w g n S
  n8 : w.cell? ⟨g, 8, none⟩ = some p
  n9 : w.cell? ⟨g, 9, none⟩ = some q
theorem GBox.below {w w' : World} {g B : Nat} {n : PNet} {S : NetS} {p q : Value} (h : GBox w g n S p q) (hb : Below B w w') (hg : g < B) : GBox w' g n S p q :=
  ⟨h.net.below hb hg, (hb.cell (p := ⟨g, 8, none⟩) hg).trans h.n8, (hb.cell (p := ⟨g, 9, none⟩) hg).trans h.n9⟩
theorem gBox_new (w : World) (n : PNet) (S : NetS) (p q : Value) (t : TypeId) : GBox (w.alloc (.cells #[.int .i64 n.vars, .slice S.i n.inputs.length S.ic, .slice S.l n.latches.length S.lc, .slice S.o n.outs.length S.oc, .slice S.b n.bads.length S.bc, .slice S.c n.cons.length S.cc, .slice S.m n.mems.length S.mc, .slice S.a n.ands.length S.ac, p, q] t)) w.heap.size n S p q :=
  ⟨⟨cell_box w _ t 0 _ rfl, cell_box w _ t 1 _ rfl, cell_box w _ t 2 _ rfl, cell_box w _ t 3 _ rfl, cell_box w _ t 4 _ rfl, cell_box w _ t 5 _ rfl, cell_box w _ t 6 _ rfl, cell_box w _ t 7 _ rfl, by simp⟩, cell_box w _ t 8 _ rfl, cell_box w _ t 9 _ rfl⟩
/-- A node of package topo that lies in block g as one value. -/
structure TBox (w : World) (g : Nat) (x : PNode) : Prop where
  t0 : w.cell? ⟨g, 0, none⟩ = some (.bool x.nr)
  t1 : w.cell? ⟨g, 1, none⟩ = some (.int .i64 x.nm)
  t2 : w.cell? ⟨g, 2, none⟩ = some (.int .i64 x.na)
theorem tBox_new (w : World) (x : PNode) (t : TypeId) : TBox (w.alloc (.cells #[.bool x.nr, .int .i64 x.nm, .int .i64 x.na] t)) w.heap.size x :=
  ⟨cell_box w _ t 0 _ rfl, cell_box w _ t 1 _ rfl, cell_box w _ t 2 _ rfl⟩

set_option maxRecDepth 100000 in
set_option maxHeartbeats 4000000 in
theorem variables_any (n : PNet) (S : NetS) (p q : Value) (w : World) (x : PNode) (h : NetAt w w.heap.size S n) (hx : x ∈ n.nodes) (hm : n.modest) (ht : ∀ m ∈ n.mems, m.told) (hF : ∀ m ∈ n.mems, m.Fit) :
    Calls Try.prog 28 #[.agg #[.int .i64 n.vars, .slice S.i n.inputs.length S.ic, .slice S.l n.latches.length S.lc, .slice S.o n.outs.length S.oc, .slice S.b n.bads.length S.bc, .slice S.c n.cons.length S.cc, .slice S.m n.mems.length S.mc, .slice S.a n.ands.length S.ac, p, q], .agg #[.bool x.nr, .int .i64 x.nm, .int .i64 x.na]] w (HighL w x.nv) := by
  obtain ⟨nr, nm, na, nf, nv⟩ := x
  have hb2 := below_on (below_box w #[.int .i64 n.vars, .slice S.i n.inputs.length S.ic, .slice S.l n.latches.length S.lc, .slice S.o n.outs.length S.oc, .slice S.b n.bads.length S.bc, .slice S.c n.cons.length S.cc, .slice S.m n.mems.length S.mc, .slice S.a n.ands.length S.ac, p, q] 62) (below_box (w.alloc (.cells #[.int .i64 n.vars, .slice S.i n.inputs.length S.ic, .slice S.l n.latches.length S.lc, .slice S.o n.outs.length S.oc, .slice S.b n.bads.length S.bc, .slice S.c n.cons.length S.cc, .slice S.m n.mems.length S.mc, .slice S.a n.ands.length S.ac, p, q] 62)) #[.bool nr, .int .i64 nm, .int .i64 na] 42)
  have hM := (gBox_new w n S p q 62).below (below_box _ #[.bool nr, .int .i64 nm, .int .i64 na] 42) (by simp)
  obtain ⟨t0, t1, t2⟩ := tBox_new (w.alloc (.cells #[.int .i64 n.vars, .slice S.i n.inputs.length S.ic, .slice S.l n.latches.length S.lc, .slice S.o n.outs.length S.oc, .slice S.b n.bads.length S.bc, .slice S.c n.cons.length S.cc, .slice S.m n.mems.length S.mc, .slice S.a n.ands.length S.ac, p, q] 62)) ⟨nr, nm, na, nf, nv⟩ 42
  rw [show (w.alloc (.cells #[.int .i64 n.vars, .slice S.i n.inputs.length S.ic, .slice S.l n.latches.length S.lc, .slice S.o n.outs.length S.oc, .slice S.b n.bads.length S.bc, .slice S.c n.cons.length S.cc, .slice S.m n.mems.length S.mc, .slice S.a n.ands.length S.ac, p, q] 62)).heap.size = w.heap.size + 1 from by simp] at t0 t1 t2
  have hN := NetAt.below hb2 (Nat.le_refl _) h
  rcases node_at hx with ⟨r0, r1, j, a, r2, hj, rf, rv⟩ | ⟨r0, t, m, j, r, r1, hmm, r2, hr, rf, rv⟩
  · simp only at r0 r1 r2 rf rv
    subst r0 r1 r2 rf rv
    obtain ⟨e0, e1, e2, e3, e4, e5, e6, e7, e8⟩ := hM.net
    obtain ⟨b, o, hS, hbB, hcell⟩ := hN.ands.at hj
    obtain ⟨m0, m1, m2⟩ := hcell j a hj
    have hjl := lt_of_some hj
    have hjI : (j : Int) < (n.ands.length : Int) := by omega
    have hj0 : (0 : Int) ≤ (j : Int) := by omega
    have HB := Lib.hid hb2
    clear hcell hN h hb2 hx hm ht hF hj hM
    generalize S.a = sa at *
    subst hS
    go_enter Try.func28, Try.ntmps28
    go_wp2_with fail
    go_ret
    exact highL_one a.av (by simp) HB.out
  · simp only at r0 r1 r2 rf rv
    subst r0 r1 r2 rf rv
    generalize hw2 : World.alloc (World.alloc w (.cells #[.int .i64 n.vars, .slice S.i n.inputs.length S.ic, .slice S.l n.latches.length S.lc, .slice S.o n.outs.length S.oc, .slice S.b n.bads.length S.bc, .slice S.c n.cons.length S.cc, .slice S.m n.mems.length S.mc, .slice S.a n.ands.length S.ac, p, q] 62)) (.cells #[.bool true, .int .i64 (t : Int), .int .i64 (j : Int)] 42) = w2 at hb2 hM t0 t1 t2 hN
    obtain ⟨e0, e1, e2, e3, e4, e5, e6, e7, e8⟩ := hM.net
    obtain ⟨b, o, hS, hbB, hcell⟩ := hN.mems.at hmm
    obtain ⟨a1, c1, a2, c2, m0, m1, m2, m3, m4, hP⟩ := hcell t m hmm
    have htl := lt_of_some hmm
    have htI : (t : Int) < (n.mems.length : Int) := by omega
    have ht0 : (0 : Int) ≤ (t : Int) := by omega
    have hw0 := (hF m (mem_of_some hmm)).word
    have hrl := (hm.ports m (mem_of_some hmm)).1
    have hrv := (ht m (mem_of_some hmm)).2.2 r (mem_of_some hr)
    have HB := Lib.hid hb2
    have hbw : b < w2.heap.size := Nat.lt_of_lt_of_le hbB hb2.size
    have hg : w.heap.size + 2 ≤ w2.heap.size := by rw [← hw2]; simp
    rw [hS] at e6
    have HK := Lib.hid fun (W : World) (hW : Below w2.heap.size w2 W) => show ((W.cell? ⟨w.heap.size, 6, none⟩ = some (.slice (some ⟨b, o, none⟩) n.mems.length S.mc) ∧ W.cell? ⟨w.heap.size + 1, 1, none⟩ = some (.int .i64 (t : Int)) ∧ W.cell? ⟨w.heap.size + 1, 2, none⟩ = some (.int .i64 (j : Int)) ∧ W.cell? ⟨b, o + t * 5, none⟩ = some (.int .i64 m.ma) ∧ W.cell? ⟨b, o + t * 5 + 1, none⟩ = some (.int .i64 m.mw) ∧ W.cell? ⟨b, o + t * 5 + 2, none⟩ = some (.bool m.mn) ∧ W.cell? ⟨b, o + t * 5 + 3, none⟩ = some (.slice a1 m.mr.length c1) ∧ W.cell? ⟨b, o + t * 5 + 4, none⟩ = some (.slice a2 m.mx.length c2)) ∧ Hid (Below w2.heap.size w2 W)) from
      ⟨⟨(hW.cell (p := ⟨w.heap.size, 6, none⟩) (show w.heap.size < w2.heap.size by omega)).trans e6, (hW.cell (p := ⟨w.heap.size + 1, 1, none⟩) (show w.heap.size + 1 < w2.heap.size by omega)).trans t1, (hW.cell (p := ⟨w.heap.size + 1, 2, none⟩) (show w.heap.size + 1 < w2.heap.size by omega)).trans t2, (hW.cell (p := ⟨b, o + t * 5, none⟩) hbw).trans m0, (hW.cell (p := ⟨b, o + t * 5 + 1, none⟩) hbw).trans m1, (hW.cell (p := ⟨b, o + t * 5 + 2, none⟩) hbw).trans m2, (hW.cell (p := ⟨b, o + t * 5 + 3, none⟩) hbw).trans m3, (hW.cell (p := ⟨b, o + t * 5 + 4, none⟩) hbw).trans m4⟩, Lib.hid hW⟩
    have HD := Lib.hid fun (W : World) (hW : (W.cell? ⟨w.heap.size, 6, none⟩ = some (.slice (some ⟨b, o, none⟩) n.mems.length S.mc) ∧ W.cell? ⟨w.heap.size + 1, 1, none⟩ = some (.int .i64 (t : Int)) ∧ W.cell? ⟨w.heap.size + 1, 2, none⟩ = some (.int .i64 (j : Int)) ∧ W.cell? ⟨b, o + t * 5, none⟩ = some (.int .i64 m.ma) ∧ W.cell? ⟨b, o + t * 5 + 1, none⟩ = some (.int .i64 m.mw) ∧ W.cell? ⟨b, o + t * 5 + 2, none⟩ = some (.bool m.mn) ∧ W.cell? ⟨b, o + t * 5 + 3, none⟩ = some (.slice a1 m.mr.length c1) ∧ W.cell? ⟨b, o + t * 5 + 4, none⟩ = some (.slice a2 m.mx.length c2)) ∧ Hid (Below w2.heap.size w2 W)) => data_any m a1 c1 a2 c2 j r W (Ports.wider (Nat.le_trans hb2.size hW.2.out.size) (Ports.below hW.2.out hb2.size hP)) hr hrl ⟨by omega, by omega⟩ hrv
    have HT := Lib.hid fun (W V : World) (hW : (W.cell? ⟨w.heap.size, 6, none⟩ = some (.slice (some ⟨b, o, none⟩) n.mems.length S.mc) ∧ W.cell? ⟨w.heap.size + 1, 1, none⟩ = some (.int .i64 (t : Int)) ∧ W.cell? ⟨w.heap.size + 1, 2, none⟩ = some (.int .i64 (j : Int)) ∧ W.cell? ⟨b, o + t * 5, none⟩ = some (.int .i64 m.ma) ∧ W.cell? ⟨b, o + t * 5 + 1, none⟩ = some (.int .i64 m.mw) ∧ W.cell? ⟨b, o + t * 5 + 2, none⟩ = some (.bool m.mn) ∧ W.cell? ⟨b, o + t * 5 + 3, none⟩ = some (.slice a1 m.mr.length c1) ∧ W.cell? ⟨b, o + t * 5 + 4, none⟩ = some (.slice a2 m.mx.length c2)) ∧ Hid (Below w2.heap.size w2 W)) (hV : Below W.heap.size W V) => HK.out V (below_on hW.2.out hV)
    clear hcell hN h hb2 hx hm ht hF hr hM hmm hrl hrv hw0 hP
    generalize S.m = sm at *
    subst hS
    go_enter Try.func28, Try.ntmps28
    go_wp2_with fail
    clear hw2
    go_region_held3 (fun W => (W.cell? ⟨w.heap.size, 6, none⟩ = some (.slice (some ⟨b, o, none⟩) n.mems.length S.mc) ∧ W.cell? ⟨w.heap.size + 1, 1, none⟩ = some (.int .i64 (t : Int)) ∧ W.cell? ⟨w.heap.size + 1, 2, none⟩ = some (.int .i64 (j : Int)) ∧ W.cell? ⟨b, o + t * 5, none⟩ = some (.int .i64 m.ma) ∧ W.cell? ⟨b, o + t * 5 + 1, none⟩ = some (.int .i64 m.mw) ∧ W.cell? ⟨b, o + t * 5 + 2, none⟩ = some (.bool m.mn) ∧ W.cell? ⟨b, o + t * 5 + 3, none⟩ = some (.slice a1 m.mr.length c1) ∧ W.cell? ⟨b, o + t * 5 + 4, none⟩ = some (.slice a2 m.mx.length c2)) ∧ Hid (Below w2.heap.size w2 W)) (first | exact HK.out _ (Below.refl _ _).drew | exact HT.out _ _ (by assumption) (by assumption) | go_keep)
      (first
        | (go_at_call 52; refine (HD.out _ (by assumption)).mono ?_; rintro e w5 ⟨v5, rfl, hO5⟩; have hb5 : Below w2.drew.heap.size w2.drew w5 := hO5.2.1)
        | fail)
    all_goals
      have HE := Lib.hid (show ((w5.cell? ⟨w.heap.size, 6, none⟩ = some (.slice (some ⟨b, o, none⟩) n.mems.length S.mc) ∧ w5.cell? ⟨w.heap.size + 1, 1, none⟩ = some (.int .i64 (t : Int)) ∧ w5.cell? ⟨w.heap.size + 1, 2, none⟩ = some (.int .i64 (j : Int)) ∧ w5.cell? ⟨b, o + t * 5, none⟩ = some (.int .i64 m.ma) ∧ w5.cell? ⟨b, o + t * 5 + 1, none⟩ = some (.int .i64 m.mw) ∧ w5.cell? ⟨b, o + t * 5 + 2, none⟩ = some (.bool m.mn) ∧ w5.cell? ⟨b, o + t * 5 + 3, none⟩ = some (.slice a1 m.mr.length c1) ∧ w5.cell? ⟨b, o + t * 5 + 4, none⟩ = some (.slice a2 m.mx.length c2)) ∧ Hid (Below w2.heap.size w2 w5)) from by assumption).2
      have HO5 := Lib.hid hO5
      clear hO5
      go_wp2_with fail
      go_ret
      exact Left.highL ⟨_, rfl, HO5.out⟩ (HB.out.trans ((Below.refl _ _).drew))
end Go.Proofs.Ytchnpooijaalnaa
