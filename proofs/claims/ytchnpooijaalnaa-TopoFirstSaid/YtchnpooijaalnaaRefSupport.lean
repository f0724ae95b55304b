/- On which variables literals hang, by definition (conditions: the netlist and the literals lie where their values say; the netlist fits, is modest, its ports begin near 0; at most 900 nodes; at most 1000 literals of 0 to 2^41). -/
import Derived.Test.YtchnpooijaalnaaRefOrder
namespace Go.Proofs.Ytchnpooijaalnaa
open Go.ChangeShapes Go.WideShapes Go.RowKit
set_option linter.unusedVariables false

def seedOf (V : Int) (l : List Int) : List Int := (l.map (· / 2)).filter fun v => decide (1 ≤ v ∧ v ≤ V)
def fromOf (l : List Int) : List Int := (l.map (· / 2)).filter fun v => decide (0 < v)
def backStep (x : PNode) (seen : List Int) : List Int := if x.nv.any (fun y => decide (y ∈ seen)) = true then seen ++ fromOf x.nf else seen
def backAll (D : List PNode) (seen : List Int) : List Int := D.foldr backStep seen
def pickOf (k : Nat) (seen : List Int) : List Int := ((List.range k).map fun (i : Nat) => (i : Int) + 1).filter fun v => decide (v ∈ seen)
def supportOf (V : Nat) (D : List PNode) (l : List Int) : List Int := pickOf V (backAll D (seedOf V l))
def PNet.support (n : PNet) (l : List Int) : List Int := if n.check = 0 then (match n.order with | none => [] | some D => supportOf n.vars.toNat D l) else []
theorem pickOf_succ (k : Nat) (seen : List Int) : pickOf (k + 1) seen = pickOf k seen ++ (if (k : Int) + 1 ∈ seen then [(k : Int) + 1] else []) := by
  unfold pickOf
  rw [List.range_succ, List.map_append, List.filter_append]
  congr 1
  by_cases h : (k : Int) + 1 ∈ seen
  · simp [h]
  · simp [h]
theorem pickOf_len (k : Nat) (seen : List Int) : (pickOf k seen).length ≤ k := by
  unfold pickOf
  refine Nat.le_trans (List.length_filter_le _ _) ?_
  simp
theorem backAll_drop {D : List PNode} {i : Nat} {x : PNode} (hx : D[i]? = some x) (seen : List Int) : backAll (D.drop i) seen = backStep x (backAll (D.drop (i + 1)) seen) := by
  rw [drop_some hx]
  rfl

theorem seed_yes {V f : Int} (h : 1 ≤ f / 2 ∧ f / 2 ≤ V) : seedOf V [f] = [f / 2] := by
  show List.filter _ [f / 2] = _
  rw [List.filter_cons, if_pos (by simpa using h)]
  rfl
theorem seed_no {V f : Int} (h : ¬ (1 ≤ f / 2 ∧ f / 2 ≤ V)) : seedOf V [f] = [] := by
  show List.filter _ [f / 2] = _
  rw [List.filter_cons, if_neg (by simpa using h)]
  rfl
theorem from_yes {f : Int} (h : 0 < f / 2) : fromOf [f] = [f / 2] := by
  show List.filter _ [f / 2] = _
  rw [List.filter_cons, if_pos (by simpa using h)]
  rfl
theorem from_no {f : Int} (h : ¬ 0 < f / 2) : fromOf [f] = [] := by
  show List.filter _ [f / 2] = _
  rw [List.filter_cons, if_neg (by simpa using h)]
  rfl
theorem fromOf_snoc {l : List Int} {k : Nat} {f : Int} (h : l[k]? = some f) : fromOf (l.take (k + 1)) = fromOf (l.take k) ++ fromOf [f] := by unfold fromOf; rw [take_some h, List.map_append, List.filter_append]; try rfl

theorem Marked.put {w : World} {g N : Nat} {seen : List Int} {v : Int} (h : Marked w g N seen) (h0 : 0 ≤ v) (h1 : v < N) : Marked (w.setCell ⟨g, v.toNat, none⟩ (.bool true)) g N (seen ++ [v]) := by
  have := h.set (x := v.toNat) (by omega)
  rwa [show ((v.toNat : Nat) : Int) = v from by omega] at this
theorem Marked.look {w : World} {g N : Nat} {seen : List Int} {v : Int} (h : Marked w g N seen) (h0 : 0 ≤ v) (h1 : v < N) : w.cell? ⟨g, v.toNat, none⟩ = some (.bool (decide (v ∈ seen))) := by
  have := h.cell (i := v.toNat) (by omega)
  rwa [show ((v.toNat : Nat) : Int) = v from by omega] at this
theorem Marked.cast {w : World} {g N : Nat} {seen seen' : List Int} (h : Marked w g N seen) (e : seen = seen') : Marked w g N seen' := e ▸ h

/-- The marks and the nodes, beside each other. -/
structure SpAt (B g N : Nat) (P : Nat → Prop) (A : Option Addr) (D : List PNode) (w0 wx : World) (seen : List Int) : Prop where
  below : Below B w0 wx
  nodes : NodesAt wx P A D
  marks : Marked wx g N seen
  lt : ∀ b, P b → b < wx.heap.size
  ge : B ≤ g
  ne : ∀ b, P b → b ≠ g
theorem SpAt.call {B g N : Nat} {P : Nat → Prop} {A : Option Addr} {D : List PNode} {w0 wx w' : World} {L : List Int} (h : SpAt B g N P A D w0 wx L) (hb : Below wx.heap.size wx w') : SpAt B g N P A D w0 w' L :=
  ⟨h.below.trans (hb.mono (Nat.le_of_lt (Nat.lt_of_le_of_lt h.ge h.marks.lt))), h.nodes.keep fun b hp => hb.block b (h.lt b hp), h.marks.same (hb.block g h.marks.lt), fun b hp => Nat.lt_of_lt_of_le (h.lt b hp) hb.size, h.ge, h.ne⟩
theorem SpAt.put {B g N : Nat} {P : Nat → Prop} {A : Option Addr} {D : List PNode} {w0 wx : World} {L : List Int} {v : Int} (h : SpAt B g N P A D w0 wx L) (h0 : 0 ≤ v) (h1 : v < N) : SpAt B g N P A D w0 (wx.setCell ⟨g, v.toNat, none⟩ (.bool true)) (L ++ [v]) :=
  ⟨h.below.setCell (p := ⟨g, v.toNat, none⟩) h.ge _, h.nodes.keep fun b hp => heap_setCell_other wx ⟨g, v.toNat, none⟩ b _ (h.ne b hp), h.marks.put h0 h1, fun b hp => by have := h.lt b hp; simpa [World.setCell] using this, h.ge, h.ne⟩
theorem SpAt.node {B g N i : Nat} {P : Nat → Prop} {A : Option Addr} {D : List PNode} {w0 wx : World} {L : List Int} {x : PNode} (h : SpAt B g N P A D w0 wx L) (hx : D[i]? = some x) : ∃ b o, A = some ⟨b, o, none⟩ ∧ NodeAt wx P b (o + i * 5) x := by
  obtain ⟨b, o, e, _, h1⟩ := h.nodes.at hx
  exact ⟨b, o, e, h1⟩

set_option maxRecDepth 100000 in
set_option maxHeartbeats 4000000 in
theorem rsupport_any (n : PNet) (S : NetS) (Al : Option Addr) (cl : Nat) (l : List Int) (w : World) (h : NetAt w w.heap.size S n) (hsl : Src w w.heap.size Al l) (hf : n.fits) (hm : n.modest) (hr : n.near) (hd : n.nodes.length ≤ 900)
    (hll : l.length ≤ 1000) (hlr : ∀ x ∈ l, 0 ≤ x ∧ x ≤ 2199023255552) :
    Calls Try.prog 17 #[.agg #[.int .i64 n.vars, .slice S.i n.inputs.length S.ic, .slice S.l n.latches.length S.lc, .slice S.o n.outs.length S.oc, .slice S.b n.bads.length S.bc, .slice S.c n.cons.length S.cc, .slice S.m n.mems.length S.mc, .slice S.a n.ands.length S.ac], .slice Al l.length cl] w (Left w (n.support l)) := by
  have hbx := below_box w #[.int .i64 n.vars, .slice S.i n.inputs.length S.ic, .slice S.l n.latches.length S.lc, .slice S.o n.outs.length S.oc, .slice S.b n.bads.length S.bc, .slice S.c n.cons.length S.cc, .slice S.m n.mems.length S.mc, .slice S.a n.ands.length S.ac] 27
  have hM := netBox_new w n S 27
  have hN := NetAt.later h hbx (by simp)
  have HQ := Lib.hid (rcheck6_any n S _ hN hf hm hr)
  have HN := Lib.hid (And.intro hN (And.intro hM hbx))
  obtain ⟨e0, e1, e2, e3, e4, e5, e6, e7, e8⟩ := hM
  by_cases hs : n.check = 0
  · have hz : (n.check != 0) = false := by simp [hs]
    have hs0 : n.sound = 0 := by
      unfold PNet.check at hs
      split at hs
      · assumption
      · exact hs
    obtain ⟨L, hlv⟩ : ∃ L, n.levels = some L := by
      unfold PNet.check at hs
      rw [if_pos hs0] at hs
      cases hl : n.levels with
      | none => rw [hl] at hs; simp at hs
      | some L => exact ⟨L, rfl⟩
    have ho : n.order = some (orderTo n.nodes L n.nodes.length) := by unfold PNet.order; rw [hlv]; rfl
    have hsup : n.support l = supportOf n.vars.toNat (orderTo n.nodes L n.nodes.length) l := by unfold PNet.support; rw [if_pos hs, ho]
    rw [hsup]
    obtain ⟨hW, hF, hG, _, _⟩ := good6_of hs0
    have hv0 := hW.vars.1
    have hv1 := hW.vars.2
    have hgo : ∀ x ∈ orderTo n.nodes L n.nodes.length, x ∈ n.nodes := fun x hx => by
      unfold orderTo at hx
      rw [List.mem_flatMap] at hx
      obtain ⟨j, _, hx⟩ := hx
      exact (List.mem_filter.1 hx).1
    have hol := orderTo_len n.nodes L n.nodes.length
    have hol2 := Nat.mul_le_mul hd hd
    have HOR := Lib.hid fun (w3 : World) (hb3 : Below (w.alloc (.cells #[.int .i64 n.vars, .slice S.i n.inputs.length S.ic, .slice S.l n.latches.length S.lc, .slice S.o n.outs.length S.oc, .slice S.b n.bads.length S.bc, .slice S.c n.cons.length S.cc, .slice S.m n.mems.length S.mc, .slice S.a n.ands.length S.ac] 27)).heap.size (w.alloc (.cells #[.int .i64 n.vars, .slice S.i n.inputs.length S.ic, .slice S.l n.latches.length S.lc, .slice S.o n.outs.length S.oc, .slice S.b n.bads.length S.bc, .slice S.c n.cons.length S.cc, .slice S.m n.mems.length S.mc, .slice S.a n.ands.length S.ac] 27)) w3) =>
      rorder_any n S w.heap.size w3 (NetAt.below (below_on hbx hb3) (Nat.le_refl _) h) (Nat.le_trans hbx.size hb3.size) hf hm hr hd
    rw [ho] at HOR
    generalize orderTo n.nodes L n.nodes.length = D at *
    have HGO := Lib.hid hgo
    have hDl : D.length ≤ 1000000 := by omega
    have HG := Lib.hid hG
    have HSL := Lib.hid (hsl.below hbx (Nat.le_refl _))
    have HLR := Lib.hid hlr
    have hmk := run_marks n.vars hv0 (by omega)
    clear h hbx hN hs hs0 hW hF hG hf hm hr hsl hlr hlv ho hsup hgo hol hol2 hd e0 e1 e2 e3 e4 e5 e6 e7 e8
    obtain ⟨e0, e1, e2, e3, e4, e5, e6, e7, e8⟩ := HN.out.2.1
    go_enter Try.func17, Try.ntmps17
    go_wp2_with (first | (go_at_call 10; refine HQ.out.mono ?_; rintro e w3 ⟨rfl, hb3⟩; obtain ⟨g0, g1, g2, g3, g4, g5, g6, g7, g8⟩ := HN.out.2.1.below hb3 HN.out.2.1.lt))
    have hmn := (Marked.new w3 (n.vars.toNat + 1))
    have hbn := hb3.alloc hb3.size (.cells (madeCells #[.bool false] (n.vars.toNat + 1)) 4)
    have hge := hb3.size
    clear g0 g1 g2 g3 g4 g5 g6 g7 g8 hb3 hmk
    generalize w3.heap.size = g at hmn hge ⊢
    generalize w3.alloc (.cells (madeCells #[.bool false] (n.vars.toNat + 1)) 4) = w4 at hmn hbn ⊢
    generalize hVV : n.vars.toNat = V at *
    have hV2 : (V : Int) = n.vars := by omega
    go_loopg [6] l.length (fun m s6 wx => ∃ i : Nat, i + m = l.length ∧ s6 = .int .i64 i ∧ Below (w.alloc (.cells #[.int .i64 n.vars, .slice S.i n.inputs.length S.ic, .slice S.l n.latches.length S.lc, .slice S.o n.outs.length S.oc, .slice S.b n.bads.length S.bc, .slice S.c n.cons.length S.cc, .slice S.m n.mems.length S.mc, .slice S.a n.ands.length S.ac] 27)).heap.size (w.alloc (.cells #[.int .i64 n.vars, .slice S.i n.inputs.length S.ic, .slice S.l n.latches.length S.lc, .slice S.o n.outs.length S.oc, .slice S.b n.bads.length S.bc, .slice S.c n.cons.length S.cc, .slice S.m n.mems.length S.mc, .slice S.a n.ands.length S.ac] 27)) wx ∧ Marked wx g (V + 1) (seedOf V (l.take i)))
    case atStart => exact ⟨0, by omega, rfl, hbn, hmn⟩
    case round =>
      clear hbn hmn
      obtain ⟨i, hi, rfl, hB, hK⟩ := hrel
      generalize gk = m at *
      by_cases hlt : i < l.length
      · obtain ⟨f, hx⟩ := some_of_lt hlt
        have hltI : (i : Int) < (l.length : Int) := by omega
        obtain ⟨hf0, hf1⟩ := HLR.out f (mem_of_some hx)
        obtain ⟨b, o, hS, hbg, hcell⟩ := (HSL.out.below hB (by simp)).at hx
        subst hS
        have hc := hcell i f hx
        have hfd : 0 ≤ f / 2 := by omega
        obtain ⟨g0, g1, g2, g3, g4, g5, g6, g7, g8⟩ := HN.out.2.1.below hB HN.out.2.1.lt
        have hst : seedOf V (l.take (i + 1)) = seedOf V (l.take i) ++ seedOf V [f] := by unfold seedOf; rw [take_some hx, List.map_append, List.filter_append]; try rfl
        by_cases h1 : 1 ≤ f / 2
        · by_cases h2 : f / 2 ≤ n.vars
          · have HK := Lib.hid (show Marked (wr.setCell ⟨g, (f / 2).toNat, none⟩ (.bool true)) g (V + 1) (seedOf V (l.take (i + 1))) by
              rw [hst, seed_yes (by omega)]; exact hK.put hfd (by omega))
            have HB := Lib.hid (hB.setCell (p := ⟨g, (f / 2).toNat, none⟩) hge (.bool true))
            have hfree := hK.free (f / 2).toNat
            have hcur := hK.look (v := f / 2) hfd (by omega)
            have hlt2 : f / 2 < n.vars + 1 := by omega
            clear hcell hx hK hB hst
            go_wp2_with (go_at_call 20; refine (rvar6_any _ (by omega) (by omega) _).mono ?_; rintro e w' ⟨rfl, rfl⟩)
            go_roundg (m - 1)
            case measure => omega
            case rel => exact ⟨i + 1, by omega, by first | rfl | simp, HB.out, HK.out⟩
          · have HK := Lib.hid (show Marked wr g (V + 1) (seedOf V (l.take (i + 1))) by
              rw [hst, seed_no (by omega), List.append_nil]; exact hK)
            have HB := Lib.hid hB
            clear hcell hx hK hB hst
            go_wp2_with (go_at_call 20; refine (rvar6_any _ (by omega) (by omega) _).mono ?_; rintro e w' ⟨rfl, rfl⟩)
            go_roundg (m - 1)
            case measure => omega
            case rel => exact ⟨i + 1, by omega, by first | rfl | simp, HB.out, HK.out⟩
        · have HK := Lib.hid (show Marked wr g (V + 1) (seedOf V (l.take (i + 1))) by
            rw [hst, seed_no (by omega), List.append_nil]; exact hK)
          have HB := Lib.hid hB
          clear hcell hx hK hB hst
          go_wp2_with (go_at_call 20; refine (rvar6_any _ (by omega) (by omega) _).mono ?_; rintro e w' ⟨rfl, rfl⟩)
          go_roundg (m - 1)
          case measure => omega
          case rel => exact ⟨i + 1, by omega, by first | rfl | simp, HB.out, HK.out⟩
      · have hltn : ¬ ((i : Int) < (l.length : Int)) := by omega
        rw [show l.take i = l from List.take_of_length_le (by omega)] at hK
        obtain ⟨g0, g1, g2, g3, g4, g5, g6, g7, g8⟩ := HN.out.2.1.below hB HN.out.2.1.lt
        have HK := Lib.hid hK
        have HB := Lib.hid hB
        clear hK hB hi hlt
        go_wp2_with (go_at_call 14; refine (HOR.out _ HB.out).mono ?_; rintro e w6 ⟨A, cA, rfl, hNd, hb6⟩)
        have HSP : ∃ P, SpAt (w.alloc (.cells #[.int .i64 n.vars, .slice S.i n.inputs.length S.ic, .slice S.l n.latches.length S.lc, .slice S.o n.outs.length S.oc, .slice S.b n.bads.length S.bc, .slice S.c n.cons.length S.cc, .slice S.m n.mems.length S.mc, .slice S.a n.ands.length S.ac] 27)).heap.size g (V + 1) P A D (w.alloc (.cells #[.int .i64 n.vars, .slice S.i n.inputs.length S.ic, .slice S.l n.latches.length S.lc, .slice S.o n.outs.length S.oc, .slice S.b n.bads.length S.bc, .slice S.c n.cons.length S.cc, .slice S.m n.mems.length S.mc, .slice S.a n.ands.length S.ac] 27)) w6 (seedOf V l) :=
          ⟨_, below_on HB.out hb6, hNd, HK.out.same (hb6.block g HK.out.lt), fun b hb => hb.2, hge, fun b hb e => by have := HK.out.lt; have := HN.out.2.2.size; have := hge; simp at this; rcases hb.1 with h1 | h1 <;> omega⟩
        obtain ⟨P, hP⟩ := HSP
        clear g0 g1 g2 g3 g4 g5 g6 g7 g8 HK HB hNd hb6
        go_loopg [10] D.length (fun m s10 wx => ∃ i : Nat, i = m ∧ i ≤ D.length ∧ s10 = .int .i64 ((i : Int) - 1) ∧ SpAt (w.alloc (.cells #[.int .i64 n.vars, .slice S.i n.inputs.length S.ic, .slice S.l n.latches.length S.lc, .slice S.o n.outs.length S.oc, .slice S.b n.bads.length S.bc, .slice S.c n.cons.length S.cc, .slice S.m n.mems.length S.mc, .slice S.a n.ands.length S.ac] 27)).heap.size g (V + 1) P A D (w.alloc (.cells #[.int .i64 n.vars, .slice S.i n.inputs.length S.ic, .slice S.l n.latches.length S.lc, .slice S.o n.outs.length S.oc, .slice S.b n.bads.length S.bc, .slice S.c n.cons.length S.cc, .slice S.m n.mems.length S.mc, .slice S.a n.ands.length S.ac] 27)) wx (backAll (D.drop i) (seedOf V l)))
        case atStart => exact ⟨D.length, rfl, Nat.le_refl _, by first | rfl | simp, by rw [List.drop_eq_nil_of_le (Nat.le_refl _)]; exact hP⟩
        case round =>
          clear hP
          obtain ⟨i, him, hi, rfl, hP⟩ := hrel
          generalize gk = m at *
          by_cases hpos : 0 < i
          · obtain ⟨j, rfl⟩ : ∃ j, i = j + 1 := ⟨i - 1, by omega⟩
            have hj : j < D.length := by omega
            obtain ⟨x, hx⟩ := some_of_lt hj
            have hge1 : (0 : Int) ≤ ((j + 1 : Nat) : Int) - 1 := by omega
            have hje : ((j + 1 : Nat) : Int) - 1 = (j : Int) := by omega
            rw [hje]
            rw [hje] at hge1
            obtain ⟨b, o, hS, a, c1, a2, c2, q0, q1, q2, q3, q4, hsf, hsv⟩ := hP.node hx
            subst hS
            have hjI : (j : Int) < (D.length : Int) := by omega
            have hbs := backAll_drop hx (seedOf V l)
            generalize backAll (D.drop (j + 1)) (seedOf V l) = seen at hP hbs
            have HBS := Lib.hid hbs
            have hG6 := HGO.out x (mem_of_some hx)
            obtain ⟨hxf, hxl⟩ := HG.out.lens x hG6
            have HVX := Lib.hid (And.intro (HG.out.vars x hG6) (HG.out.lits x hG6))
            clear hbs hG6 hx
            go_wp2
            have hP8 := hP.call ((Below.refl _ wr).alloc (Nat.le_refl _) (.cells #[.bool x.nr, .int .i64 x.nm, .int .i64 x.na, .slice a x.nf.length c1, .slice a2 x.nv.length c2] 44))
            have hsf8 := hsf.keep (w' := wr.alloc (.cells #[.bool x.nr, .int .i64 x.nm, .int .i64 x.na, .slice a x.nf.length c1, .slice a2 x.nv.length c2] 44)) fun b hb => Below.heap_alloc wr _ b (hP.lt b hb)
            have hsv8 := hsv.keep (w' := wr.alloc (.cells #[.bool x.nr, .int .i64 x.nm, .int .i64 x.na, .slice a x.nf.length c1, .slice a2 x.nv.length c2] 44)) fun b hb => Below.heap_alloc wr _ b (hP.lt b hb)
            have hrow8 := heap_alloc_new wr (.cells #[.bool x.nr, .int .i64 x.nm, .int .i64 x.na, .slice a x.nf.length c1, .slice a2 x.nv.length c2] 44)
            have hxg : wr.heap.size ≠ g := by have := hP.marks.lt; omega
            clear hP hsf hsv q0 q1 q2 q3 q4
            generalize wr.alloc (.cells #[.bool x.nr, .int .i64 x.nm, .int .i64 x.na, .slice a x.nf.length c1, .slice a2 x.nv.length c2] 44) = w8 at hP8 hsf8 hsv8 hrow8 ⊢
            generalize wr.heap.size = xb at hrow8 hxg ⊢
            have q3 : w8.cell? ⟨xb, 3, none⟩ = some (.slice a x.nf.length c1) := by rw [cell_of_row w8 xb 3 _ _ (0, 0) hrow8]; rfl
            have q4 : w8.cell? ⟨xb, 4, none⟩ = some (.slice a2 x.nv.length c2) := by rw [cell_of_row w8 xb 4 _ _ (0, 0) hrow8]; rfl
            clear hrow8
            have HP := Lib.hid (And.intro hP8 (And.intro hsf8 hsv8))
            clear hP8 hsf8 hsv8
            go_loopg [12, 13] x.nv.length (fun m s12 s13 wx => ∃ (k : Nat) (bb : Bool), k + m = x.nv.length ∧ s12 = .bool bb ∧ s13 = .int .i64 k ∧ Aside (bb = (x.nv.take k).any (fun y => decide (y ∈ seen))) ∧ w8 = wx)
            case atStart => exact ⟨0, false, by omega, rfl, rfl, by simp [Aside], rfl⟩
            case round =>
              obtain ⟨k, bb, hk, rfl, rfl, HBB, rfl⟩ := hrel
              generalize gk = m2 at *
              by_cases hkl : k < x.nv.length
              · obtain ⟨y, hy⟩ := some_of_lt hkl
                have hklI : (k : Int) < (x.nv.length : Int) := by omega
                obtain ⟨b2, o2, hS2, hP2, hcell⟩ := HP.out.2.2 (by rintro e; rw [e] at hy; simp at hy)
                subst hS2
                have hc := hcell k y hy
                obtain ⟨hy1, hy2⟩ := HVX.out.1 y (mem_of_some hy)
                have hy3 : y < n.vars + 1 := by omega
                have hy4 : 0 ≤ y := by omega
                have hcur := HP.out.1.marks.look (v := y) hy4 (by omega)
                have hnx : (x.nv.take (k + 1)).any (fun y => decide (y ∈ seen)) = (bb || decide (y ∈ seen)) := by rw [take_some hy, List.any_append, ← HBB.out]; simp
                have HNX := Lib.hid hnx
                clear hcell hy hnx hP2
                generalize decide (y ∈ seen) = yb at hcur HNX
                cases bb
                all_goals
                  go_wp2
                  go_roundg (m2 - 1)
                  case measure => omega
                  case rel => exact ⟨k + 1, _, by omega, rfl, by first | rfl | simp, by show _ = _; rw [HNX.out]; simp, rfl⟩
              · have hkn : ¬ ((k : Int) < (x.nv.length : Int)) := by omega
                have hany : bb = x.nv.any (fun y => decide (y ∈ seen)) := by rw [HBB.out, show x.nv.take k = x.nv from List.take_of_length_le (by omega)]
                clear HBB
                cases bb with
                | false =>
                  have HS := Lib.hid (show backAll (D.drop j) (seedOf V l) = seen by rw [HBS.out]; unfold backStep; rw [if_neg (by rw [← hany]; simp)])
                  clear hany
                  go_wp2
                  go_loopg [14] 0 (fun m s14 wx => s14 = .int .i64 0 ∧ w8 = wx)
                  case atStart => exact ⟨rfl, rfl⟩
                  case round =>
                    obtain ⟨rfl, rfl⟩ := hrel
                    go_wp2
                    go_roundg (m - 1)
                    case measure => omega
                    case rel => exact ⟨j, by omega, by omega, by first | rfl | simp, by rw [HS.out]; exact HP.out.1⟩
                | true =>
                  have HS := Lib.hid (show backAll (D.drop j) (seedOf V l) = seen ++ fromOf x.nf by rw [HBS.out]; unfold backStep; rw [if_pos hany.symm])
                  clear hany
                  go_wp2
                  go_loopg [14] x.nf.length (fun m s14 wx => ∃ k : Nat, k + m = x.nf.length ∧ s14 = .int .i64 k ∧ SpAt (w.alloc (.cells #[.int .i64 n.vars, .slice S.i n.inputs.length S.ic, .slice S.l n.latches.length S.lc, .slice S.o n.outs.length S.oc, .slice S.b n.bads.length S.bc, .slice S.c n.cons.length S.cc, .slice S.m n.mems.length S.mc, .slice S.a n.ands.length S.ac] 27)).heap.size g (V + 1) P (some ⟨b, o, none⟩) D (w.alloc (.cells #[.int .i64 n.vars, .slice S.i n.inputs.length S.ic, .slice S.l n.latches.length S.lc, .slice S.o n.outs.length S.oc, .slice S.b n.bads.length S.bc, .slice S.c n.cons.length S.cc, .slice S.m n.mems.length S.mc, .slice S.a n.ands.length S.ac] 27)) wx (seen ++ fromOf (x.nf.take k)) ∧ wx.cell? ⟨xb, 3, none⟩ = some (.slice a x.nf.length c1) ∧ SrcP wx P a x.nf)
                  case atStart => exact ⟨0, by omega, rfl, by rw [show seen ++ fromOf (x.nf.take 0) = seen by simp [fromOf]]; exact HP.out.1, q3, HP.out.2.1⟩
                  case round =>
                    clear q3 q4
                    obtain ⟨k, hk, rfl, hP, q3, hsf⟩ := hrel
                    generalize gk = m3 at *
                    by_cases hkl : k < x.nf.length
                    · obtain ⟨f, hfx⟩ := some_of_lt hkl
                      have hklI : (k : Int) < (x.nf.length : Int) := by omega
                      obtain ⟨b2, o2, hS2, hP2, hcell⟩ := hsf (by rintro e; rw [e] at hfx; simp at hfx)
                      have hc := hcell k f hfx
                      obtain ⟨hf0, hf1⟩ := HVX.out.2 f (mem_of_some hfx)
                      have hfd : 0 ≤ f / 2 := by omega
                      have hfe : f / 2 < n.vars + 1 := by omega
                      have hst := fromOf_snoc hfx
                      have hsf2 := hsf
                      rw [hS2] at q3
                      by_cases hv : 0 < f / 2
                      · rw [from_yes hv] at hst
                        have HK := Lib.hid (show SpAt (w.alloc (.cells #[.int .i64 n.vars, .slice S.i n.inputs.length S.ic, .slice S.l n.latches.length S.lc, .slice S.o n.outs.length S.oc, .slice S.b n.bads.length S.bc, .slice S.c n.cons.length S.cc, .slice S.m n.mems.length S.mc, .slice S.a n.ands.length S.ac] 27)).heap.size g (V + 1) P (some ⟨b, o, none⟩) D (w.alloc (.cells #[.int .i64 n.vars, .slice S.i n.inputs.length S.ic, .slice S.l n.latches.length S.lc, .slice S.o n.outs.length S.oc, .slice S.b n.bads.length S.bc, .slice S.c n.cons.length S.cc, .slice S.m n.mems.length S.mc, .slice S.a n.ands.length S.ac] 27)) (wr.setCell ⟨g, (f / 2).toNat, none⟩ (.bool true)) (seen ++ fromOf (x.nf.take (k + 1))) by
                          rw [hst, ← List.append_assoc]; exact hP.put hfd (by omega))
                        have HQ3 := Lib.hid (show (wr.setCell ⟨g, (f / 2).toNat, none⟩ (.bool true)).cell? ⟨xb, 3, none⟩ = some (.slice a x.nf.length c1) from
                          (World.cell?_of_block (a := ⟨xb, 3, none⟩) (heap_setCell_other wr ⟨g, (f / 2).toNat, none⟩ xb _ hxg)).trans (by rw [hS2]; exact q3))
                        have HSF := Lib.hid (hsf2.keep (w' := wr.setCell ⟨g, (f / 2).toNat, none⟩ (.bool true)) fun b hb => heap_setCell_other wr ⟨g, (f / 2).toNat, none⟩ b _ (hP.ne b hb))
                        have hfree := hP.marks.free (f / 2).toNat
                        have hcur := hP.marks.look (v := f / 2) hfd (by omega)
                        clear hcell hfx hP hst hsf hsf2 hS2
                        go_wp2_with (go_at_call 20; refine (rvar6_any _ (by omega) (by omega) _).mono ?_; rintro e w' ⟨rfl, rfl⟩)
                        go_roundg (m3 - 1)
                        case measure => omega
                        case rel => exact ⟨k + 1, by omega, by first | rfl | simp, HK.out, HQ3.out, HSF.out⟩
                      · rw [from_no hv, List.append_nil] at hst
                        have HK := Lib.hid (show SpAt (w.alloc (.cells #[.int .i64 n.vars, .slice S.i n.inputs.length S.ic, .slice S.l n.latches.length S.lc, .slice S.o n.outs.length S.oc, .slice S.b n.bads.length S.bc, .slice S.c n.cons.length S.cc, .slice S.m n.mems.length S.mc, .slice S.a n.ands.length S.ac] 27)).heap.size g (V + 1) P (some ⟨b, o, none⟩) D (w.alloc (.cells #[.int .i64 n.vars, .slice S.i n.inputs.length S.ic, .slice S.l n.latches.length S.lc, .slice S.o n.outs.length S.oc, .slice S.b n.bads.length S.bc, .slice S.c n.cons.length S.cc, .slice S.m n.mems.length S.mc, .slice S.a n.ands.length S.ac] 27)) wr (seen ++ fromOf (x.nf.take (k + 1))) by rw [hst]; exact hP)
                        have HQ3 := Lib.hid (show wr.cell? ⟨xb, 3, none⟩ = some (.slice a x.nf.length c1) by rw [hS2]; exact q3)
                        have HSF := Lib.hid hsf2
                        clear hcell hfx hP hst hsf hsf2 hS2
                        go_wp2_with (go_at_call 20; refine (rvar6_any _ (by omega) (by omega) _).mono ?_; rintro e w' ⟨rfl, rfl⟩)
                        go_roundg (m3 - 1)
                        case measure => omega
                        case rel => exact ⟨k + 1, by omega, by first | rfl | simp, HK.out, HQ3.out, HSF.out⟩
                    · have hkn : ¬ ((k : Int) < (x.nf.length : Int)) := by omega
                      rw [show x.nf.take k = x.nf from List.take_of_length_le (by omega), ← HS.out] at hP
                      have HPP := Lib.hid hP
                      clear hP hsf
                      go_wp2
                      go_roundg (m - 1)
                      case measure => omega
                      case rel => exact ⟨j, by omega, by omega, by first | rfl | simp, HPP.out⟩
          · have hi0 : i = 0 := by omega
            clear him
            subst hi0
            rw [List.drop_zero] at hP
            have hsz := hP.below.size
            have HP := Lib.hid hP
            clear hP hpos hi
            generalize hsn : backAll D (seedOf V l) = seen at HP
            have HSN := Lib.hid (show pickOf V seen = supportOf V D l by rw [← hsn]; rfl)
            clear hsn
            have hdl : ((0 : Nat) : Int) - 1 = -1 := by omega
            go_wp2
            generalize wr = w9 at HP hsz ⊢
            go_loopg [16, 17] V (fun m s16 s17 wx => ∃ k : Nat, k + m = V ∧ s17 = .int .i64 ((k : Int) + 1) ∧ Own w9.heap.size w9 wx s16 (pickOf k seen))
            case atStart => exact ⟨0, by omega, by first | rfl | simp, Own.nil _ _ (Nat.le_refl _)⟩
            case round =>
              obtain ⟨k, hk, rfl, hO⟩ := hrel
              generalize gk = m2 at *
              have hK := HP.out.marks.same (hO.2.1.block g HP.out.marks.lt)
              obtain ⟨g0, g1, g2, g3, g4, g5, g6, g7, g8⟩ := HN.out.2.1.below (below_on HP.out.below hO.2.1) HN.out.2.1.lt
              have hL : (pickOf k seen).length ≤ 1000000 := by have := pickOf_len k seen; omega
              by_cases hkl : k < V
              · have hklI : (k : Int) + 1 ≤ n.vars := by omega
                have hkl2 : (k : Int) + 1 < n.vars + 1 := by omega
                have hcur := hK.look (v := (k : Int) + 1) (by omega) (by omega)
                rw [show ((k : Int) + 1).toNat = k + 1 from by omega] at hcur
                have hps := pickOf_succ k seen
                by_cases hin : (k : Int) + 1 ∈ seen
                · rw [if_pos hin] at hps
                  rw [show decide ((k : Int) + 1 ∈ seen) = true by simp [hin]] at hcur
                  have HPS := Lib.hid hps
                  clear hps hin hK
                  go_wp2_with (at_builtin; refine wpl_one rfl _ _ rfl rfl hO rfl hL ?_; intro v2 w3 hO2 hW2)
                  go_roundg (m2 - 1)
                  case measure => omega
                  case rel => exact ⟨k + 1, by omega, by first | rfl | simp, own_cast hO2 HPS.out.symm⟩
                · rw [if_neg hin, List.append_nil] at hps
                  rw [show decide ((k : Int) + 1 ∈ seen) = false by simp [hin]] at hcur
                  have HO := Lib.hid (own_cast hO hps.symm)
                  clear hps hin hK hO
                  go_wp2
                  go_roundg (m2 - 1)
                  case measure => omega
                  case rel => exact ⟨k + 1, by omega, by first | rfl | simp, HO.out⟩
              · have hke : k = V := by omega
                subst hke
                have hklI : ¬ ((k : Int) + 1 ≤ n.vars) := by omega
                have HO := Lib.hid hO
                clear hO hK hL
                go_wp2
                go_ret
                exact ⟨_, rfl, own_cast (HO.out.down (below_on HN.out.2.2 HP.out.below) (Nat.le_trans HN.out.2.2.size HP.out.below.size)) HSN.out⟩
  · have hz : (n.check != 0) = true := by simp [hs]
    have hsup : n.support l = [] := by unfold PNet.support; rw [if_neg hs]
    rw [hsup]
    clear h hN hf hm hr hs hsup
    go_enter Try.func17, Try.ntmps17
    go_wp2_with (first | (go_at_call 10; refine HQ.out.mono ?_; rintro e w3 ⟨rfl, hb3⟩))
    go_ret
    have hb := below_on HN.out.2.2 hb3
    exact ⟨_, rfl, World.ownsRow_nil _ _ _ _, hb, hb.size⟩
end Go.Proofs.Ytchnpooijaalnaa
