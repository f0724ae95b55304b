/- What is wrong with a netlist, and the order of its nodes, by definition (conditions: the netlist lies where its value says; it fits, is modest, and its ports begin near 0; at most 900 nodes in order). -/
import Derived.Test.YtchnpooijaalnaaRefLevels
namespace Go.Proofs.Ytchnpooijaalnaa
open Go.ChangeShapes Go.WideShapes Go.RowKit
set_option linter.unusedVariables false

def PNet.check (n : PNet) : Int := if n.sound = 0 then (match n.levels with | none => 8 | some _ => 0) else n.sound

set_option maxRecDepth 100000 in
theorem rcheck6_any (n : PNet) (S : NetS) (w : World) (h : NetAt w w.heap.size S n) (hf : n.fits) (hm : n.modest) (hr : n.near) :
    Calls Try.prog 10 #[.agg #[.int .i64 n.vars, .slice S.i n.inputs.length S.ic, .slice S.l n.latches.length S.lc, .slice S.o n.outs.length S.oc, .slice S.b n.bads.length S.bc, .slice S.c n.cons.length S.cc, .slice S.m n.mems.length S.mc, .slice S.a n.ands.length S.ac]] w fun e w' => e = .returned (.int .i64 n.check) ∧ Below w.heap.size w w' := by
  have hbx := below_box w #[.int .i64 n.vars, .slice S.i n.inputs.length S.ic, .slice S.l n.latches.length S.lc, .slice S.o n.outs.length S.oc, .slice S.b n.bads.length S.bc, .slice S.c n.cons.length S.cc, .slice S.m n.mems.length S.mc, .slice S.a n.ands.length S.ac] 27
  have hM := netBox_new w n S 27
  have hN := NetAt.later h hbx (by simp)
  have HQ := Lib.hid (rsound_any n S _ hN hf hm hr)
  have HN := Lib.hid (And.intro hN (And.intro hM hbx))
  have HL := Lib.hid fun (w3 : World) (hb3 : Below (w.alloc (.cells #[.int .i64 n.vars, .slice S.i n.inputs.length S.ic, .slice S.l n.latches.length S.lc, .slice S.o n.outs.length S.oc, .slice S.b n.bads.length S.bc, .slice S.c n.cons.length S.cc, .slice S.m n.mems.length S.mc, .slice S.a n.ands.length S.ac] 27)).heap.size (w.alloc (.cells #[.int .i64 n.vars, .slice S.i n.inputs.length S.ic, .slice S.l n.latches.length S.lc, .slice S.o n.outs.length S.oc, .slice S.b n.bads.length S.bc, .slice S.c n.cons.length S.cc, .slice S.m n.mems.length S.mc, .slice S.a n.ands.length S.ac] 27)) w3) => rlevels_any n S w3 (NetAt.later hN hb3 hb3.size) hf hm hr
  obtain ⟨e0, e1, e2, e3, e4, e5, e6, e7, e8⟩ := hM
  clear h hbx hN hf hm hr
  by_cases hs : n.sound = 0
  · have hz : (n.sound != 0) = false := by simp [hs]
    cases hl : n.levels with
    | none =>
      have HC := Lib.hid (show n.check = 8 by unfold PNet.check; rw [if_pos hs, hl])
      rw [hl] at HL
      clear hs hl
      go_enter Try.func10, Try.ntmps10
      go_wp2_with (first | (go_at_call 25; refine HQ.out.mono ?_; rintro e w3 ⟨rfl, hb3⟩; obtain ⟨g0, g1, g2, g3, g4, g5, g6, g7, g8⟩ := HN.out.2.1.below hb3 HN.out.2.1.lt) | (go_at_call 12; refine (HL.out _ (by assumption)).mono ?_; rintro e w4 ⟨rfl, hb4⟩))
      go_ret
      exact ⟨ret_int HC.out.symm, below_on HN.out.2.2 (below_on hb3 hb4)⟩
    | some L =>
      have HC := Lib.hid (show n.check = 0 by unfold PNet.check; rw [if_pos hs, hl])
      rw [hl] at HL
      clear hs hl
      go_enter Try.func10, Try.ntmps10
      go_wp2_with (first | (go_at_call 25; refine HQ.out.mono ?_; rintro e w3 ⟨rfl, hb3⟩; obtain ⟨g0, g1, g2, g3, g4, g5, g6, g7, g8⟩ := HN.out.2.1.below hb3 HN.out.2.1.lt) | (go_at_call 12; refine (HL.out _ (by assumption)).mono ?_; rintro e w4 ⟨gL, rfl, hI, hgL, hb4⟩))
      go_ret
      exact ⟨ret_int HC.out.symm, below_on HN.out.2.2 (below_on hb3 hb4)⟩
  · have hz : (n.sound != 0) = true := by simp [hs]
    have HC := Lib.hid (show n.check = n.sound by unfold PNet.check; rw [if_neg hs])
    clear hs
    go_enter Try.func10, Try.ntmps10
    go_wp2_with (first | (go_at_call 25; refine HQ.out.mono ?_; rintro e w3 ⟨rfl, hb3⟩))
    go_ret
    exact ⟨ret_int HC.out.symm, below_on HN.out.2.2 hb3⟩

/-- A node whose first variable has the level a. -/
def atLevel (L : List Int) (a : Int) (x : PNode) : Bool := decide (L.getD (x.nv.headD 0).toNat 0 = a)
def orderTo (D : List PNode) (L : List Int) (k : Nat) : List PNode := (List.range k).flatMap fun (j : Nat) => D.filter (atLevel L ((j : Int) + 1))
theorem orderTo_succ (D : List PNode) (L : List Int) (k : Nat) : orderTo D L (k + 1) = orderTo D L k ++ D.filter (atLevel L ((k : Int) + 1)) := by
  unfold orderTo
  rw [List.range_succ, List.flatMap_append]
  simp
theorem orderTo_len (D : List PNode) (L : List Int) : ∀ k, (orderTo D L k).length ≤ k * D.length
  | 0 => by simp [orderTo]
  | k + 1 => by
    rw [orderTo_succ, List.length_append, Nat.succ_mul]
    have := orderTo_len D L k
    have := List.length_filter_le (atLevel L ((k : Int) + 1)) D
    omega
def PNet.order (n : PNet) : Option (List PNode) := n.levels.map fun L => orderTo n.nodes L n.nodes.length
def OrderLeft (B : Nat) (w : World) : Option (List PNode) → Ending → World → Prop
  | none, e, w' => e = .returned (.tuple #[.slice none 0 0, .bool false]) ∧ Below w.heap.size w w'
  | some l, e, w' => ∃ A c, e = .returned (.tuple #[.slice A l.length c, .bool true]) ∧ NodesAt w' (Sided B w.heap.size w') A l ∧ Below w.heap.size w w'

theorem levels_len {n : PNet} {L : List Int} (h : n.levels = some L) : n.sound = 0 ∧ L.length = n.vars.toNat + 1 := by
  unfold PNet.levels at h
  split at h
  · rename_i hs
    unfold levelsOf at h
    split at h
    · injection h with h
      subst h
      exact ⟨hs, by rw [lrounds_len, lstart_len]⟩
    · cases h
  · cases h
theorem NodesAt.mono {w : World} {P Q : Nat → Prop} {A : Option Addr} {D : List PNode} (h : NodesAt w P A D) (hQ : ∀ b, P b → Q b) : NodesAt w Q A D := fun hn => by
  obtain ⟨b, o, e, hb, h1⟩ := h hn
  refine ⟨b, o, e, hQ b hb, fun j x hj => ?_⟩
  obtain ⟨a, c, a2, c2, h0, h1, h2, h3, h4, h5, h6⟩ := h1 j x hj
  refine ⟨a, c, a2, c2, h0, h1, h2, h3, h4, fun hn => ?_, fun hn => ?_⟩
  · obtain ⟨b, o, e, hb, h⟩ := h5 hn
    exact ⟨b, o, e, hQ b hb, h⟩
  · obtain ⟨b, o, e, hb, h⟩ := h6 hn
    exact ⟨b, o, e, hQ b hb, h⟩
theorem SrcP.elem {B : Nat} {w w' : World} {P : Nat → Prop} {v : Value} {A : Option Addr} {xs : List Int} (h : SrcP w (fun b => P b ∧ b < B) A xs) (hb : Below B w w') (hB : B ≤ w'.heap.size) (hv : ∀ k, v.ownBlock = some k → B ≤ k) : Elem P w' v A xs := fun hn => by
  obtain ⟨b, o, e, ⟨h1, h2⟩, h3⟩ := h hn
  exact ⟨b, o, e, by omega, fun e2 => by have := hv b e2; omega, fun j x hj => (hb.cell (p := ⟨b, o + j, none⟩) h2).trans (h3 j x hj), h1⟩

set_option maxRecDepth 100000 in
set_option maxHeartbeats 2000000 in
theorem rorder_any (n : PNet) (S : NetS) (B : Nat) (w : World) (h : NetAt w B S n) (hB : B ≤ w.heap.size) (hf : n.fits) (hm : n.modest) (hr : n.near) (hd : n.nodes.length ≤ 900) :
    Calls Try.prog 14 #[.agg #[.int .i64 n.vars, .slice S.i n.inputs.length S.ic, .slice S.l n.latches.length S.lc, .slice S.o n.outs.length S.oc, .slice S.b n.bads.length S.bc, .slice S.c n.cons.length S.cc, .slice S.m n.mems.length S.mc, .slice S.a n.ands.length S.ac]] w (OrderLeft B w n.order) := by
  have hbx := below_box w #[.int .i64 n.vars, .slice S.i n.inputs.length S.ic, .slice S.l n.latches.length S.lc, .slice S.o n.outs.length S.oc, .slice S.b n.bads.length S.bc, .slice S.c n.cons.length S.cc, .slice S.m n.mems.length S.mc, .slice S.a n.ands.length S.ac] 27
  have hM := netBox_new w n S 27
  have hN := NetAt.below hbx hB h
  have HQ := Lib.hid (rlevels_any n S _ (NetAt.wider (Nat.le_trans hB (show w.heap.size ≤ (w.alloc (.cells #[.int .i64 n.vars, .slice S.i n.inputs.length S.ic, .slice S.l n.latches.length S.lc, .slice S.o n.outs.length S.oc, .slice S.b n.bads.length S.bc, .slice S.c n.cons.length S.cc, .slice S.m n.mems.length S.mc, .slice S.a n.ands.length S.ac] 27)).heap.size by simp)) hN) hf hm hr)
  have HN := Lib.hid (And.intro hN (And.intro hM hbx))
  obtain ⟨e0, e1, e2, e3, e4, e5, e6, e7, e8⟩ := hM
  cases hl : n.levels with
  | none =>
    have ho : n.order = none := by unfold PNet.order; rw [hl]; rfl
    rw [ho]
    rw [hl] at HQ
    clear h hN hf hm hr hl ho
    go_enter Try.func14, Try.ntmps14
    go_wp2_with (first | (go_at_call 12; refine HQ.out.mono ?_; rintro e w3 ⟨rfl, hb3⟩))
    go_ret2
    exact ⟨rfl, below_on HN.out.2.2 hb3⟩
  | some L =>
    have ho : n.order = some (orderTo n.nodes L n.nodes.length) := by unfold PNet.order; rw [hl]; rfl
    rw [ho]
    rw [hl] at HQ
    obtain ⟨hs, hlen⟩ := levels_len hl
    obtain ⟨hW, hF, hG, _, _⟩ := good6_of hs
    have hv0 := hW.vars.1
    have hv1 := hW.vars.2
    have HG := Lib.hid hG
    have HLEN := Lib.hid hlen
    have HND := Lib.hid fun (w3 : World) (hb3 : Below (w.alloc (.cells #[.int .i64 n.vars, .slice S.i n.inputs.length S.ic, .slice S.l n.latches.length S.lc, .slice S.o n.outs.length S.oc, .slice S.b n.bads.length S.bc, .slice S.c n.cons.length S.cc, .slice S.m n.mems.length S.mc, .slice S.a n.ands.length S.ac] 27)).heap.size (w.alloc (.cells #[.int .i64 n.vars, .slice S.i n.inputs.length S.ic, .slice S.l n.latches.length S.lc, .slice S.o n.outs.length S.oc, .slice S.b n.bads.length S.bc, .slice S.c n.cons.length S.cc, .slice S.m n.mems.length S.mc, .slice S.a n.ands.length S.ac] 27)) w3) =>
      rnodes_any n S B w3 (NetAt.below (below_on hbx hb3) hB h) (Nat.le_trans hB (Nat.le_trans hbx.size hb3.size)) hm (told_of hr hF) (by omega)
    clear h hN hf hm hr hl ho hs hW hF hG hlen hbx
    go_enter Try.func14, Try.ntmps14
    go_wp2_with (first | (go_at_call 12; refine HQ.out.mono ?_; rintro e w3 ⟨gL, rfl, hI, hgL, hb3⟩; obtain ⟨g0, g1, g2, g3, g4, g5, g6, g7, g8⟩ := HN.out.2.1.below hb3 HN.out.2.1.lt) | (go_at_call 18; refine (HND.out _ (by assumption)).mono ?_; rintro e w5 ⟨A, cA, rfl, hNd, hb5⟩; have hI5 := hI.same (hb5.block gL hI.lt); have hB5 := below_on HN.out.2.2 (below_on hb3 hb5); clear g0 g1 g2 g3 g4 g5 g6 g7 g8))
    have hNd2 := hNd.mono (Q := fun b => (b < B ∨ w.heap.size ≤ b) ∧ b < w5.heap.size) (fun b hb => ⟨by have := HN.out.2.2.size; have := hb3.size; rcases hb.1 with h1 | h1 <;> omega, hb.2⟩)
    obtain ⟨P, hPe⟩ : ∃ P : Nat → Prop, P = fun b => b < B ∨ w.heap.size ≤ b := ⟨_, rfl⟩
    have HNd := Lib.hid (show NodesAt w5 (fun b => P b ∧ b < w5.heap.size) A n.nodes by rw [hPe]; exact hNd2)
    have HPH := Lib.hid (show ∀ b, w5.heap.size ≤ b → P b by intro b hb; rw [hPe]; exact .inr (Nat.le_trans hB5.size hb))
    have HI := Lib.hid hI5
    have HB5 := Lib.hid hB5
    have HPE := Lib.hid hPe
    have hgL5 := hI5.lt
    have HL900 := Lib.hid (Nat.mul_le_mul hd hd)
    clear hNd2 hI5 hB5 hI hNd hb5 hb3 hPe
    have hLL : (L.length : Int) = n.vars + 1 := by rw [HLEN.out]; omega
    go_loopg [7, 8] n.nodes.length (fun m s7 s8 wx => ∃ (k : Nat) (ps : List (PNode × NodeS)), k + m = n.nodes.length ∧ s8 = .int .i64 ((k : Int) + 1) ∧ OwnN P w5.heap.size w5 wx s7 ps ∧ Aside (ps.map Prod.fst = orderTo n.nodes L k))
    case atStart => exact ⟨0, [], by omega, by first | rfl | simp, OwnN.nil _, rfl⟩
    case round =>
      obtain ⟨k, ps, hk, rfl, hO, HL⟩ := hrel
      generalize gk = m at *
      by_cases hle : k < n.nodes.length
      · have hleI : (k : Int) + 1 ≤ (n.nodes.length : Int) := by omega
        have hkl := Nat.mul_le_mul (Nat.le_of_lt hle) (Nat.le_refl n.nodes.length)
        have HKL := Lib.hid hkl
        clear hkl
        go_wp2
        go_loopg [7, 9] n.nodes.length (fun m s7 s9 wx => ∃ (i : Nat) (ps : List (PNode × NodeS)), i + m = n.nodes.length ∧ s9 = .int .i64 i ∧ OwnN P w5.heap.size w5 wx s7 ps ∧ Aside (ps.map Prod.fst = orderTo n.nodes L k ++ (n.nodes.take i).filter (atLevel L ((k : Int) + 1))))
        case atStart => exact ⟨0, ps, by omega, rfl, hO, by show _ = _; rw [HL.out]; simp⟩
        case round =>
          clear hO HL
          obtain ⟨i, ps, hi, rfl, hO, HL⟩ := hrel
          generalize gk = m2 at *
          have hI2 := HI.out.same (hO.below.block gL hgL5)
          have hNw := HNd.out.keep (w' := wr) (fun b hb => hO.below.block b hb.2)
          by_cases hlt : i < n.nodes.length
          · obtain ⟨x, hx⟩ := some_of_lt hlt
            have hltI : (i : Int) < (n.nodes.length : Int) := by omega
            have hi0 : (0 : Int) ≤ (i : Int) := by omega
            obtain ⟨b, o, hS, hPb, a, c1, a2, c2, q0, q1, q2, q3, q4, hsf, hsv⟩ := hNw.at hx
            subst hS
            have hne := HG.out.some x (mem_of_some hx)
            obtain ⟨u, hu⟩ : ∃ u, x.nv[0]? = some u := some_of_lt (List.length_pos_iff.2 hne)
            have hhd : x.nv.headD 0 = u := by cases hv : x.nv with
              | nil => exact absurd hv hne
              | cons y l => rw [hv] at hu; simp at hu; simpa using hu
            obtain ⟨b2, o2, hS2, hP2, hcell⟩ := hsv hne
            subst hS2
            have hc : wr.cell? ⟨b2, o2, none⟩ = some (.int .i64 u) := hcell 0 u hu
            obtain ⟨hu1, hu2⟩ := HG.out.vars x (mem_of_some hx) u (mem_of_some hu)
            have hu3 : u < (L.length : Int) := by omega
            have hu4 : 0 ≤ u := by omega
            obtain ⟨l, hl⟩ := some_of_lt (show u.toNat < L.length by omega)
            have hcur := hI2.cell hl
            have hg : L.getD (x.nv.headD 0).toNat 0 = l := by rw [hhd, List.getD_eq_getElem?_getD, hl]; rfl
            have hlv0 : (0 : Int) < (x.nv.length : Int) := by have := lt_of_some hu; omega
            have HE := Lib.hid (And.intro (hsf.elem (Below.refl _ _) hO.size hO.ge) (hsv.elem (Below.refl _ _) hO.size hO.ge))
            have hL : ps.length ≤ 1000000 := by
              have h1 := congrArg List.length HL.out
              rw [List.length_map, List.length_append] at h1
              have h2 := orderTo_len n.nodes L k
              have h3 := List.length_filter_le (atLevel L ((k : Int) + 1)) (n.nodes.take i)
              rw [List.length_take] at h3
              have := HKL.out
              have := HL900.out
              omega
            by_cases ha : l = (k : Int) + 1
            · have hyes : atLevel L ((k : Int) + 1) x = true := by unfold atLevel; rw [hg, ha]; simp
              have HX := Lib.hid (show ps.map Prod.fst ++ [x] = orderTo n.nodes L k ++ (n.nodes.take (i + 1)).filter (atLevel L ((k : Int) + 1)) by
                rw [HL.out, take_some hx, List.filter_append]; simp [hyes])
              subst ha
              clear hcell hsf hsv hNw hx HL hl hg hhd hne hyes hu hPb hP2 hI2
              go_wp2_with (at_builtin; refine wpl_node (P := P) (v := u7) rfl _ _ rfl rfl hO (x, ⟨a, c1, some ⟨b2, o2, none⟩, c2⟩) HE.out.1 HE.out.2 rfl rfl hL ?_; intro v8 w8 hO8)
              go_roundg (m2 - 1)
              case measure => omega
              case rel => exact ⟨i + 1, _, by omega, by first | rfl | simp, hO8, by show _ = _; rw [← HX.out]; simp⟩
            · have hno : atLevel L ((k : Int) + 1) x = false := by unfold atLevel; rw [hg]; simp [ha]
              have HX := Lib.hid (show ps.map Prod.fst = orderTo n.nodes L k ++ (n.nodes.take (i + 1)).filter (atLevel L ((k : Int) + 1)) by
                rw [HL.out, take_some hx, List.filter_append]; simp [hno])
              have hbe : (l == (k : Int) + 1) = false := by simp [ha]
              clear hcell hsf hsv hNw hx HL hl hg hhd hne hno hu hPb hP2 hI2
              go_wp2
              go_roundg (m2 - 1)
              case measure => omega
              case rel => exact ⟨i + 1, _, by omega, by first | rfl | simp, hO, HX.out⟩
          · have hltn : ¬ ((i : Int) < (n.nodes.length : Int)) := by omega
            have HX := Lib.hid (show ps.map Prod.fst = orderTo n.nodes L (k + 1) by
              rw [orderTo_succ, HL.out, show n.nodes.take i = n.nodes from List.take_of_length_le (by omega)])
            clear HL hNw hI2
            go_wp2
            go_roundg (m - 1)
            case measure => omega
            case rel => exact ⟨k + 1, _, by omega, by first | rfl | simp, hO, HX.out⟩
      · have hkn : k = n.nodes.length := by omega
        subst hkn
        have hleI : ¬ ((n.nodes.length : Int) + 1 ≤ (n.nodes.length : Int)) := by omega
        obtain ⟨A2, c2, rfl, hR⟩ := hO.form HPH.out
        rw [HPE.out] at hR
        have HR := Lib.hid (And.intro hO hR)
        have hpl : ps.length = (orderTo n.nodes L n.nodes.length).length := by rw [← HL.out, List.length_map]
        have HPL := Lib.hid hpl
        clear hO hR hpl
        go_wp2
        go_ret2
        exact ⟨A2, c2, by rw [← HPL.out]; rfl, by rw [← HL.out]; exact HR.out.2, below_on HB5.out HR.out.1.below⟩
end Go.Proofs.Ytchnpooijaalnaa
