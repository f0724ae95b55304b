/- What is done behind each variable, for the levels: its level is written (conditions: the row of levels, the graph and the variable that holds the row lie in blocks of their own). -/
import Derived.Test.YtchnpooijaalnaaTLv
namespace Go.Proofs.Ytchnpooijaalnaa
open Go.ChangeShapes Go.WideShapes Go.RowKit
set_option linter.unusedVariables false

/-- The graph's box, the variable that holds the row, and the row of levels M. -/
structure LvB (B : Nat) (w0 : World) (bg xb lb V : Nat) (n : PNet) (S : NetS) (a d : Option Addr) (c cd : Nat) (L M : List Int) (W : World) : Prop where
  below : Below B w0 W
  size : B ≤ W.heap.size
  box : W.heap[bg]? = some (.cells #[.int .i64 n.vars, .slice S.i n.inputs.length S.ic, .slice S.l n.latches.length S.lc, .slice S.o n.outs.length S.oc, .slice S.b n.bads.length S.bc, .slice S.c n.cons.length S.cc, .slice S.m n.mems.length S.mc, .slice S.a n.ands.length S.ac, .slice a n.nodes.length c, .slice d L.length cd] 62 (0, 0))
  ptr : W.heap[xb]? = some (.cells #[.slice (some ⟨lb, 0, none⟩) (V + 1) (V + 1)] 22 (0, 0))
  ints : Ints W lb M
/-- Where these blocks are. -/
structure LvP (B lo bg xb lb : Nat) : Prop where
  g0 : B ≤ bg
  x0 : B ≤ xb
  l0 : B ≤ lb
  g1 : bg < lo
  x1 : xb < lo
  l1 : lb < lo
  gl : bg ≠ lb
  xl : xb ≠ lb
variable {B lo bg xb lb V : Nat} {w0 : World} {n : PNet} {S : NetS} {a d : Option Addr} {c cd : Nat} {L M : List Int} {W W' : World}
theorem LvB.still (h : LvB B w0 bg xb lb V n S a d c cd L M W) (hp : LvP B lo bg xb lb) (hm : Moves lo (lo + 5) noB W noB W') : LvB B w0 bg xb lb V n S a d c cd L M W' := by
  have hk : ∀ b, b < W.heap.size → b < lo → W'.heap[b]? = W.heap[b]? := fun b h1 h2 => (hm.block b h1 (.inl h2) (fun k => k)).1
  refine ⟨⟨hm.os.trans h.below.os, hm.tape.trans h.below.tape, hm.output.trans h.below.output, Nat.le_trans h.below.size hm.size, fun k hk2 => (hk k ?_ ?_).trans (h.below.block k hk2)⟩, Nat.le_trans h.size hm.size, (hk _ (lt_of_row h.box) hp.g1).trans h.box, (hk _ (lt_of_row h.ptr) hp.x1).trans h.ptr, h.ints.same (hk _ h.ints.lt hp.l1)⟩
  · have := h.size; omega
  · have := hp.g0; have := hp.g1; omega
theorem LvB.call (h : LvB B w0 bg xb lb V n S a d c cd L M W) (hb : Below W.heap.size W W') : LvB B w0 bg xb lb V n S a d c cd L M W' :=
  ⟨h.below.trans (hb.mono h.size), Nat.le_trans h.size hb.size, (hb.block _ (lt_of_row h.box)).trans h.box, (hb.block _ (lt_of_row h.ptr)).trans h.ptr, h.ints.same (hb.block _ h.ints.lt)⟩
theorem LvB.put (h : LvB B w0 bg xb lb V n S a d c cd L M W) (hp : LvP B lo bg xb lb) (j : Nat) (k : Int) : LvB B w0 bg xb lb V n S a d c cd L (M.set j k) (W.setCell ⟨lb, j, none⟩ (.int .i64 k)) :=
  ⟨h.below.setCell (p := ⟨lb, j, none⟩) hp.l0 _, by have := h.size; simp [World.setCell]; omega, (heap_setCell_other _ _ _ _ hp.gl).trans h.box, (heap_setCell_other _ _ _ _ hp.xl).trans h.ptr, h.ints.set j k⟩
theorem LvB.cell (h : LvB B w0 bg xb lb V n S a d c cd L M W) {j : Nat} {u : Value} (hj : (#[.int .i64 n.vars, .slice S.i n.inputs.length S.ic, .slice S.l n.latches.length S.lc, .slice S.o n.outs.length S.oc, .slice S.b n.bads.length S.bc, .slice S.c n.cons.length S.cc, .slice S.m n.mems.length S.mc, .slice S.a n.ands.length S.ac, .slice a n.nodes.length c, .slice d L.length cd] : Array Value)[j]? = some u) : W.cell? ⟨bg, j, none⟩ = some u := by
  rw [cell_of_row W bg j _ _ (0, 0) h.box]
  exact hj

theorem LvB.round {v hi : Nat} {A : Option Addr} {l : List Int} {t : Int} {W0 : World} (h : LvB B w0 bg xb lb V n S a d c cd L (M.set v t) W) (hp : LvP B lo bg xb lb) (hH : High W hi A l) (hlb : lb < hi) (hm : Moves lo lo (fun b => b = lb) W0 (fun b => b = lb) W) (u : Int) :
    LvB B w0 bg xb lb V n S a d c cd L (M.set v u) (W.setCell ⟨lb, v, none⟩ (.int .i64 u)).drew ∧ High (W.setCell ⟨lb, v, none⟩ (.int .i64 u)).drew hi A l ∧ Moves lo lo (fun b => b = lb) W0 (fun b => b = lb) (W.setCell ⟨lb, v, none⟩ (.int .i64 u)).drew := by
  have h1 := (h.put hp v u).call (Below.refl _ _).drew
  rw [List.set_set] at h1
  refine ⟨h1, hH.keeps ((Keeps.set (lo := 0) (hi := hi) W (a := ⟨lb, v, none⟩) (.int .i64 u) (Nat.zero_le _) hlb).trans (.of_below (Below.refl _ _).drew)), hm.trans ?_⟩
  have h2 : Moves lo lo (fun b => b = lb) W (fun b => b = lb) (W.setCell ⟨lb, v, none⟩ (.int .i64 u)) := ⟨rfl, rfl, rfl, by simp, fun b hb hr ho => ⟨heap_setCell_other W ⟨lb, v, none⟩ b _ ho, ho⟩⟩
  exact h2.trans (Moves.of_below (Below.refl _ _).drew)

set_option maxRecDepth 100000 in
set_option maxHeartbeats 4000000 in
theorem leave_levels (hg : GraphAt w0 B S n a d L) (ht : Tells n.nodes V L) (hG : Good6 V n.nodes) (hV : V ≤ 2000) (hp : LvP B lo bg xb lb) (F : List Nat) (v : Nat) (hb : LvB B w0 bg xb lb V n S a d c cd L M W) (hI : LvInv n.nodes V F M) (hv : v ≤ V) (hF : v ∉ F) (hbl : ∀ x ∈ belowOf n.nodes v, x ∈ F) :
    Calls Try.prog 47 #[.int .i64 (v : Nat), .pointer (some ⟨bg, 0, none⟩), .pointer (some ⟨xb, 0, none⟩)] W fun e w' => e = .returned (.tuple #[]) ∧ LvB B w0 bg xb lb V n S a d c cd L (M.set v (amax M (belowOf n.nodes v))) w' ∧ Moves lo lo (fun b => b = lb) W (fun b => b = lb) w' := by
  have e0 : W.cell? ⟨bg, 0, none⟩ = some (.int .i64 n.vars) := hb.cell (j := 0) rfl
  have e1 : W.cell? ⟨bg, 1, none⟩ = some (.slice S.i n.inputs.length S.ic) := hb.cell (j := 1) rfl
  have e2 : W.cell? ⟨bg, 2, none⟩ = some (.slice S.l n.latches.length S.lc) := hb.cell (j := 2) rfl
  have e3 : W.cell? ⟨bg, 3, none⟩ = some (.slice S.o n.outs.length S.oc) := hb.cell (j := 3) rfl
  have e4 : W.cell? ⟨bg, 4, none⟩ = some (.slice S.b n.bads.length S.bc) := hb.cell (j := 4) rfl
  have e5 : W.cell? ⟨bg, 5, none⟩ = some (.slice S.c n.cons.length S.cc) := hb.cell (j := 5) rfl
  have e6 : W.cell? ⟨bg, 6, none⟩ = some (.slice S.m n.mems.length S.mc) := hb.cell (j := 6) rfl
  have e7 : W.cell? ⟨bg, 7, none⟩ = some (.slice S.a n.ands.length S.ac) := hb.cell (j := 7) rfl
  have e8 : W.cell? ⟨bg, 8, none⟩ = some (.slice a n.nodes.length c) := hb.cell (j := 8) rfl
  have e9 : W.cell? ⟨bg, 9, none⟩ = some (.slice d L.length cd) := hb.cell (j := 9) rfl
  have hBl := Lib.hid (below_any n S a d c cd L V W v (hg.later hb.below hb.size) ht hv (by omega) hG)
  have hl := hI.len
  have hlen := (below_le hG v).2
  have H := Lib.hid (And.intro hb (And.intro hI (And.intro hp (And.intro hF (And.intro hbl (And.intro hl (below_le hG v).1))))))
  clear hg ht hb hI hp hF hbl hl hG
  go_enter Try.func47, Try.ntmps47
  go_wp2_with (go_at_call 34; refine hBl.out.mono ?_; rintro e w2 ⟨A, c2, rfl, hH, hs2, hb2⟩)
  have HS0 := Lib.hid (show LvB B w0 bg xb lb V n S a d c cd L (M.set v (amax M ((belowOf n.nodes v).take 0))) w2 ∧ High w2 W.heap.size A (nats (belowOf n.nodes v)) ∧ Moves lo lo (fun b => b = lb) W (fun b => b = lb) w2 from by
    refine ⟨?_, hH, Moves.of_below hb2⟩
    have : M.set v (amax M ((belowOf n.nodes v).take 0)) = M := by
      apply List.ext_getElem?
      intro i
      rw [List.getElem?_set]
      split
      · rename_i e
        subst e
        have h0 := H.out.2.1.off v H.out.2.2.2.1
        have h1 := at0_lt (L := M) (i := v) (by have := H.out.2.2.2.2.2.1; omega)
        rw [h0] at h1
        rw [h1, if_pos (by have := H.out.2.2.2.2.2.1; omega)]
        rfl
      · rfl
    rw [this]
    exact H.out.1.call hb2)
  clear hH hs2 hb2 e0 e1 e2 e3 e4 e5 e6 e7 e8 e9 hBl
  rw [nats_len]
  generalize hbel : belowOf n.nodes v = bel at *
  go_loopg [5, 10] bel.length (fun m _ s10 wx => ∃ k : Nat, k + m = bel.length ∧ s10 = .int .i64 k ∧ Aside (LvB B w0 bg xb lb V n S a d c cd L (M.set v (amax M (bel.take k))) wx ∧ High wx W.heap.size A (nats bel) ∧ Moves lo lo (fun b => b = lb) W (fun b => b = lb) wx))
  case atStart => exact ⟨0, by omega, rfl, HS0.out⟩
  case round =>
    clear HS0
    obtain ⟨k, hk, rfl, HS⟩ := hrel
    generalize gk = m at *
    by_cases hlt : k < bel.length
    · obtain ⟨x, hx⟩ := some_of_lt hlt
      have hltI : (k : Int) < (bel.length : Int) := by omega
      have hk0 : (0 : Int) ≤ (k : Int) := by omega
      have hkb : (k : Int) ≤ 1000 := by omega
      obtain ⟨b, s, hS, _, hc⟩ := HS.out.2.1.at (nats_at hx)
      have m6 := hc k _ (nats_at hx)
      have hxm := mem_of_some hx
      have hxF := H.out.2.2.2.2.1 x hxm
      have hxV := H.out.2.2.2.2.2.2 x hxm
      have hne : v ≠ x := fun e => H.out.2.2.2.1 (e ▸ hxF)
      have hlm := H.out.2.2.2.2.2.1
      have hlow := H.out.2.1.low
      have hsz := H.out.2.1.size
      have hab := amax_bound (L := M) (c := (F.length : Int)) (l := bel.take k) (by omega) (fun x _ => (hlow x).2)
      have cx : wr.cell? ⟨xb, 0, none⟩ = some (.slice (some ⟨lb, 0, none⟩) (V + 1) (V + 1)) := by rw [cell_of_row wr xb 0 _ _ _ HS.out.1.ptr]; rfl
      have cv : wr.cell? ⟨lb, v, none⟩ = some (.int .i64 (amax M (bel.take k))) := HS.out.1.ints.cell (by rw [List.getElem?_set, if_pos rfl, if_pos (by omega)])
      have cy : wr.cell? ⟨lb, x, none⟩ = some (.int .i64 (at0 M x)) := HS.out.1.ints.cell (by rw [List.getElem?_set, if_neg hne]; exact at0_lt (by omega))
      have fv := HS.out.1.ints.free v
      have hv0 : (0 : Int) ≤ (v : Int) := by omega
      have hv1 : (v : Int) < (V : Int) + 1 := by omega
      have hx0 : (0 : Int) ≤ (x : Int) := by omega
      have hx1 : (x : Int) < (V : Int) + 1 := by omega
      have hy0 := (hlow x).1
      have hy1 : at0 M x ≤ 1000000 := by have := (hlow x).2; omega
      have HX := Lib.hid (show amax M (bel.take (k + 1)) = max (amax M (bel.take k)) (at0 M x + 1) by rw [take_some hx, amax_snoc])
      have HQ := Lib.hid (HS.out.1.round H.out.2.2.1 HS.out.2.1 (show lb < W.heap.size from H.out.1.ints.lt) HS.out.2.2 (amax M (bel.take (k + 1))))
      rw [HX.out] at HQ
      subst hS
      generalize amax M (bel.take k) = acc at *
      generalize at0 M x = ax at *
      clear hc hx hxm hxF hxV hlow hsz hlm HS
      go_wp2_with fail
      go_region
      all_goals
        go_wp2_with fail
        go_roundg (m - 1)
        case measure => omega
        case rel => exact ⟨k + 1, by omega, by first | rfl | simp, by rw [HX.out]; exact HQ.out⟩
    · have hltn : ¬ ((k : Int) < (bel.length : Int)) := by omega
      have HX := Lib.hid (show bel.take k = bel from List.take_of_length_le (by omega))
      go_wp2_with fail
      go_end0
      exact ⟨rfl, HX.out ▸ HS.out.1, HS.out.2.2⟩
end Go.Proofs.Ytchnpooijaalnaa
