/- The contract of the levels by definition (conditions: the netlist lies where its value says; it fits, is modest, and its ports begin near 0). -/
import Derived.Test.YtchnpooijaalnaaLevels0
namespace Go.Proofs.Ytchnpooijaalnaa
open Go.ChangeShapes Go.WideShapes Go.RowKit
set_option linter.unusedVariables false

/-- A block that holds the numbers L, and no more. -/
def Ints (w : World) (g : Nat) (L : List Int) : Prop := w.heap[g]? = some (.cells (L.map (Value.int .i64)).toArray 3 (0, 0))
theorem Ints.cell {w : World} {g : Nat} {L : List Int} (h : Ints w g L) {j : Nat} {l : Int} (hj : L[j]? = some l) : w.cell? ⟨g, j, none⟩ = some (.int .i64 l) := by
  rw [cell_of_row w g j _ 3 (0, 0) h, List.getElem?_toArray, List.getElem?_map, hj]
  rfl
theorem Ints.free {w : World} {g : Nat} {L : List Int} (h : Ints w g L) (j : Nat) : w.frozen? ⟨g, j, none⟩ = false := frozen_of_row w g j _ 3 h
theorem Ints.lt {w : World} {g : Nat} {L : List Int} (h : Ints w g L) : g < w.heap.size := lt_of_row h
theorem Ints.same {w w' : World} {g : Nat} {L : List Int} (h : Ints w g L) (hg : w'.heap[g]? = w.heap[g]?) : Ints w' g L := hg.trans h
theorem Ints.src {w : World} {g : Nat} {L : List Int} (h : Ints w g L) : Src w w.heap.size (some ⟨g, 0, none⟩) L := fun _ => ⟨g, 0, rfl, h.lt, fun j x hj => by rw [Nat.zero_add]; exact h.cell hj⟩
theorem Ints.set {w : World} {g : Nat} {L : List Int} (h : Ints w g L) (j : Nat) (v : Int) : Ints (w.setCell ⟨g, j, none⟩ (.int .i64 v)) g (L.set j v) := by
  have := heap_setCell_same w g j _ 3 (.int .i64 v) h
  unfold Ints
  rw [this]
  congr 2
  simp [List.map_set]
theorem Ints.new (w : World) (N : Nat) : Ints (w.alloc (.cells (madeCells #[.int .i64 0] N) 3)) w.heap.size (List.replicate N 0) := by
  unfold Ints
  rw [heap_alloc_new]
  congr 2
  apply Array.ext
  · rw [size_madeCells]; simp
  · intro i h1 h2
    simp [madeCells, Nat.mod_one]
theorem run_ints (v : Int) (h0 : 0 ≤ v) (h1 : v ≤ 1000000) (w : World) :
    (Instr.makeSlice 22 (.int .i64 (v + 1)) (.int .i64 (v + 1))).run Try.prog w = .ok (.slice (some ⟨w.heap.size, 0, none⟩) (v.toNat + 1) (v.toNat + 1)) (w.alloc (.cells (madeCells #[.int .i64 0] (v.toNat + 1)) 3)) := by
  obtain ⟨i, hi, hz, hs, hb⟩ := info_parts int_info
  have := run_make (P := Try.prog) w 22 3 i (.int .i64 0) Try.underlying22 hi hz .i64 .i64 (v + 1) (v + 1) (by omega) (Int.le_refl _) (by rw [hb]; omega) (by omega)
  rw [this, hs, show (v + 1).toNat = v.toNat + 1 from by omega, Nat.mul_one]
  rfl

/-- The row of levels and the nodes, beside each other. -/
structure LvAt (B g : Nat) (P : Nat → Prop) (A : Option Addr) (D : List PNode) (w0 wx : World) (L : List Int) : Prop where
  below : Below B w0 wx
  nodes : NodesAt wx P A D
  ints : Ints wx g L
  lt : ∀ b, P b → b < wx.heap.size
  ge : B ≤ g
  ne : ∀ b, P b → b ≠ g
theorem LvAt.call {B g : Nat} {P : Nat → Prop} {A : Option Addr} {D : List PNode} {w0 wx w' : World} {L : List Int} (h : LvAt B g P A D w0 wx L) (hb : Below wx.heap.size wx w') : LvAt B g P A D w0 w' L :=
  ⟨h.below.trans (hb.mono (Nat.le_of_lt (Nat.lt_of_le_of_lt h.ge h.ints.lt))), h.nodes.keep fun b hp => hb.block b (h.lt b hp), h.ints.same (hb.block g h.ints.lt), fun b hp => Nat.lt_of_lt_of_le (h.lt b hp) hb.size, h.ge, h.ne⟩
theorem LvAt.set {B g : Nat} {P : Nat → Prop} {A : Option Addr} {D : List PNode} {w0 wx : World} {L : List Int} (h : LvAt B g P A D w0 wx L) (j : Nat) (v : Int) : LvAt B g P A D w0 (wx.setCell ⟨g, j, none⟩ (.int .i64 v)) (L.set j v) :=
  ⟨h.below.setCell (p := ⟨g, j, none⟩) h.ge _, h.nodes.keep fun b hp => heap_setCell_other wx ⟨g, j, none⟩ b _ (h.ne b hp), h.ints.set j v, fun b hp => by have := h.lt b hp; simpa [World.setCell] using this, h.ge, h.ne⟩

/-- What Levels leaves. -/
def LevelsLeft (w : World) : Option (List Int) → Ending → World → Prop
  | none, e, w' => e = .returned (.tuple #[.slice none 0 0, .bool false]) ∧ Below w.heap.size w w'
  | some L, e, w' => ∃ g, e = .returned (.tuple #[.slice (some ⟨g, 0, none⟩) L.length L.length, .bool true]) ∧ Ints w' g L ∧ w.heap.size ≤ g ∧ Below w.heap.size w w'
theorem LvAt.start {B : Nat} {A : Option Addr} {D : List PNode} {w0 w3 w5 : World} {N : Nat} (h3 : Below B w0 w3) (hB : B ≤ w3.heap.size)
    (hb5 : Below (w3.alloc (.cells (madeCells #[.int .i64 0] N) 3)).heap.size (w3.alloc (.cells (madeCells #[.int .i64 0] N) 3)) w5) (hN : NodesAt w5 (Sided B (w3.alloc (.cells (madeCells #[.int .i64 0] N) 3)).heap.size w5) A D) :
    ∃ P, LvAt B w3.heap.size P A D w0 w5 (List.replicate N 0) := by
  have hlt : w3.heap.size < (w3.alloc (.cells (madeCells #[.int .i64 0] N) 3)).heap.size := by simp
  refine ⟨_, (h3.alloc hB _).trans (hb5.mono (by omega)), hN, (Ints.new w3 N).same (hb5.block _ hlt), fun b hb => hb.2, hB, fun b hb e => ?_⟩
  rcases hb.1 with h1 | h1 <;> omega
theorem LvAt.node {B g i : Nat} {P : Nat → Prop} {A : Option Addr} {D : List PNode} {w0 wx : World} {L : List Int} {x : PNode} (h : LvAt B g P A D w0 wx L) (hx : D[i]? = some x) : ∃ b o, A = some ⟨b, o, none⟩ ∧ NodeAt wx P b (o + i * 5) x := by
  obtain ⟨b, o, e, _, h1⟩ := h.nodes.at hx
  exact ⟨b, o, e, h1⟩
theorem lstart_snoc (V : Nat) (D : List PNode) (x : PNode) : lstart V (D ++ [x]) = putAll (lstart V D) x.nv (-1) := by simp [lstart]

set_option maxRecDepth 100000 in
set_option maxHeartbeats 4000000 in
theorem rlevels_any (n : PNet) (S : NetS) (w : World) (h : NetAt w w.heap.size S n) (hf : n.fits) (hm : n.modest) (hr : n.near) :
    Calls Try.prog 12 #[.agg #[.int .i64 n.vars, .slice S.i n.inputs.length S.ic, .slice S.l n.latches.length S.lc, .slice S.o n.outs.length S.oc, .slice S.b n.bads.length S.bc, .slice S.c n.cons.length S.cc, .slice S.m n.mems.length S.mc, .slice S.a n.ands.length S.ac]] w (LevelsLeft w n.levels) := by
  have hbx := below_box w #[.int .i64 n.vars, .slice S.i n.inputs.length S.ic, .slice S.l n.latches.length S.lc, .slice S.o n.outs.length S.oc, .slice S.b n.bads.length S.bc, .slice S.c n.cons.length S.cc, .slice S.m n.mems.length S.mc, .slice S.a n.ands.length S.ac] 27
  have hM := netBox_new w n S 27
  have hN := NetAt.later h hbx (by simp)
  have HQ := Lib.hid (rsound_any n S _ hN hf hm hr)
  have HN := Lib.hid (And.intro hN (And.intro hM hbx))
  obtain ⟨e0, e1, e2, e3, e4, e5, e6, e7, e8⟩ := hM
  by_cases hs : n.sound = 0
  · have hz : (n.sound != 0) = false := by simp [hs]
    obtain ⟨hW, hF, hG, _, _⟩ := good6_of hs
    have hv0 := hW.vars.1
    have hv1 := hW.vars.2
    have HG := Lib.hid hG
    have hD := nodes_len hW
    have HLV := Lib.hid (show n.levels = levelsOf n.vars.toNat n.nodes by unfold PNet.levels; rw [if_pos hs])
    have HT := Lib.hid (told_of hr hF)
    have HM := Lib.hid hm
    have hmk := run_ints n.vars hv0 (by omega)
    have hD2 : n.nodes.length ≤ 1000000 := by omega
    have HND := Lib.hid fun (w3 : World) (hb3 : Below (w.alloc (.cells #[.int .i64 n.vars, .slice S.i n.inputs.length S.ic, .slice S.l n.latches.length S.lc, .slice S.o n.outs.length S.oc, .slice S.b n.bads.length S.bc, .slice S.c n.cons.length S.cc, .slice S.m n.mems.length S.mc, .slice S.a n.ands.length S.ac] 27)).heap.size (w.alloc (.cells #[.int .i64 n.vars, .slice S.i n.inputs.length S.ic, .slice S.l n.latches.length S.lc, .slice S.o n.outs.length S.oc, .slice S.b n.bads.length S.bc, .slice S.c n.cons.length S.cc, .slice S.m n.mems.length S.mc, .slice S.a n.ands.length S.ac] 27)) w3) =>
      rnodes_any n S w.heap.size (w3.alloc (.cells (madeCells #[.int .i64 0] (n.vars.toNat + 1)) 3)) (NetAt.below ((below_on hbx hb3).alloc (Nat.le_trans hbx.size hb3.size) _) (Nat.le_refl _) h) (Nat.le_trans (Nat.le_trans hbx.size hb3.size) (by simp)) hm (told_of hr hF) hD2
    clear h hbx hN hs hW hF hG hf hm hr e0 e1 e2 e3 e4 e5 e6 e7 e8
    obtain ⟨e0, e1, e2, e3, e4, e5, e6, e7, e8⟩ := HN.out.2.1
    go_enter Try.func12, Try.ntmps12
    go_wp2_with (first | (go_at_call 25; refine HQ.out.mono ?_; rintro e w3 ⟨rfl, hb3⟩; obtain ⟨g0, g1, g2, g3, g4, g5, g6, g7, g8⟩ := HN.out.2.1.below hb3 HN.out.2.1.lt) | (go_at_call 18; refine (HND.out _ (by assumption)).mono ?_; rintro e w5 ⟨A, cA, rfl, hNd, hb5⟩; have HL0 := Lib.hid (LvAt.start (below_on HN.out.2.2 hb3) (Nat.le_trans HN.out.2.2.size hb3.size) hb5 hNd); have HL3 := Lib.hid (Nat.le_trans HN.out.2.2.size hb3.size); clear g0 g1 g2 g3 g4 g5 g6 g7 g8 hb3 hNd hb5))
    clear hD2
    obtain ⟨P, hL⟩ := HL0.out
    clear HL0
    have hgB := HL3.out
    generalize w3.heap.size = g at hL hgB ⊢
    generalize hVV : n.vars.toNat = V at *
    have hV2 : (V : Int) = n.vars := by omega
    go_loopg [6] n.nodes.length (fun m s6 wx => ∃ i : Nat, i + m = n.nodes.length ∧ s6 = .int .i64 i ∧ LvAt w.heap.size g P A n.nodes w wx (lstart V (n.nodes.take i)))
    case atStart => exact ⟨0, by omega, rfl, hL⟩
    case round =>
      clear hL
      obtain ⟨i, hi, rfl, hL⟩ := hrel
      generalize gk = m at *
      by_cases hlt : i < n.nodes.length
      · obtain ⟨x, hx⟩ := some_of_lt hlt
        have hltI : (i : Int) < (n.nodes.length : Int) := by omega
        have hi0 : (0 : Int) ≤ (i : Int) := by omega
        have HX := Lib.hid hx
        have hxl := (HG.out.lens x (mem_of_some hx)).2
        have hvx := HG.out.vars x (mem_of_some hx)
        have HVX := Lib.hid hvx
        clear hx hvx
        go_wp2
        go_loopg [7] x.nv.length (fun m s7 wx => ∃ k : Nat, k + m = x.nv.length ∧ s7 = .int .i64 k ∧ LvAt w.heap.size g P A n.nodes w wx (putAll (lstart V (n.nodes.take i)) (x.nv.take k) (-1)))
        case atStart => exact ⟨0, by omega, rfl, hL⟩
        case round =>
          clear hL
          obtain ⟨k, hk, rfl, hL⟩ := hrel
          generalize gk = m2 at *
          obtain ⟨b, o, hS, a, c1, a2, c2, q0, q1, q2, q3, q4, hsf, hsv⟩ := hL.node HX.out
          subst hS
          by_cases hkl : k < x.nv.length
          · obtain ⟨u, hu⟩ := some_of_lt hkl
            have hklI : (k : Int) < (x.nv.length : Int) := by omega
            have hk0 : (0 : Int) ≤ (k : Int) := by omega
            obtain ⟨b2, o2, hS2, hP2, hcell⟩ := hsv (by rintro e; rw [e] at hu; simp at hu)
            subst hS2
            have hc := hcell k u hu
            obtain ⟨hu1, hu2⟩ := HVX.out u (mem_of_some hu)
            have hu3 : u < n.vars + 1 := by omega
            have hu4 : 0 ≤ u := by omega
            have hfree := hL.ints.free u.toNat
            have hlen : (putAll (lstart V (n.nodes.take i)) (x.nv.take k) (-1)).length = V + 1 := by rw [putAll_len, lstart_len]
            obtain ⟨l, hl⟩ := some_of_lt (show u.toNat < (putAll (lstart V (n.nodes.take i)) (x.nv.take k) (-1)).length by rw [hlen]; omega)
            have hcur := hL.ints.cell hl
            have HS := Lib.hid (show LvAt w.heap.size g P (some ⟨b, o, none⟩) n.nodes w _ (putAll (lstart V (n.nodes.take i)) (x.nv.take (k + 1)) (-1)) by
              rw [take_some hu, putAll_snoc]; exact hL.set u.toNat (-1))
            clear hcell hl hlen hL hsf hsv hu hP2
            go_wp2
            go_roundg (m2 - 1)
            case measure => omega
            case rel => exact ⟨k + 1, by omega, by first | rfl | simp, HS.out⟩
          · have hkn : ¬ ((k : Int) < (x.nv.length : Int)) := by omega
            have HS := Lib.hid (show LvAt w.heap.size g P (some ⟨b, o, none⟩) n.nodes w _ (lstart V (n.nodes.take (i + 1))) by
              rw [take_some HX.out, lstart_snoc]; rw [show x.nv.take k = x.nv from List.take_of_length_le (by omega)] at hL; exact hL)
            clear hL hsf hsv
            go_wp2
            go_roundg (m - 1)
            case measure => omega
            case rel => exact ⟨i + 1, by omega, by first | rfl | simp, HS.out⟩
      · have hltn : ¬ ((i : Int) < (n.nodes.length : Int)) := by omega
        rw [show n.nodes.take i = n.nodes from List.take_of_length_le (by omega)] at hL
        clear hlt hi
        go_wp2
        go_loopg [8, 9] (n.nodes.length + 1) (fun m s8 s9 wx => ∃ r : Nat, r + m = n.nodes.length + 1 ∧ s8 = .int .i64 (pleft n.nodes (lstart V n.nodes) r : Nat) ∧ s9 = .int .i64 r ∧ LvAt w.heap.size g P A n.nodes w wx (lrounds n.nodes r (lstart V n.nodes)))
        case atStart => exact ⟨0, by omega, by first | rfl | simp [pleft], rfl, hL⟩
        case round =>
          clear hL
          obtain ⟨r, hrm, rfl, rfl, hL⟩ := hrel
          generalize gk = m at *
          by_cases hle : r ≤ n.nodes.length
          · have hleI : (r : Int) ≤ (n.nodes.length : Int) := by omega
            go_wp2
            go_loopg [8, 10] n.nodes.length (fun m s8 s10 wx => ∃ i : Nat, i + m = n.nodes.length ∧ s8 = .int .i64 (leftN (n.nodes.take i) (lrounds n.nodes r (lstart V n.nodes)) : Nat) ∧ s10 = .int .i64 i ∧ LvAt w.heap.size g P A n.nodes w wx (lround (n.nodes.take i) (lrounds n.nodes r (lstart V n.nodes))))
            case atStart => exact ⟨0, by omega, by first | rfl | simp [leftN], rfl, hL⟩
            case round =>
              clear hL
              obtain ⟨i, hi, rfl, rfl, hL⟩ := hrel
              generalize gk = m2 at *
              by_cases hlt : i < n.nodes.length
              · obtain ⟨x, hx⟩ := some_of_lt hlt
                have hltI : (i : Int) < (n.nodes.length : Int) := by omega
                have hi0 : (0 : Int) ≤ (i : Int) := by omega
                have HX := Lib.hid hx
                obtain ⟨hxf, hxl⟩ := HG.out.lens x (mem_of_some hx)
                have HVX := Lib.hid (HG.out.vars x (mem_of_some hx))
                have hLB := level_fits (V := V) hD hle (Nat.le_of_lt hlt)
                have hlen : (lround (n.nodes.take i) (lrounds n.nodes r (lstart V n.nodes))).length = V + 1 := by rw [lround_len, lrounds_len, lstart_len]
                have hln := leftN_le (n.nodes.take i) (lrounds n.nodes r (lstart V n.nodes))
                rw [List.length_take] at hln
                have hst := leftN_snoc (n.nodes.take i) x (lrounds n.nodes r (lstart V n.nodes))
                have hsr := lround_snoc (n.nodes.take i) x (lrounds n.nodes r (lstart V n.nodes))
                rw [← take_some hx] at hst hsr
                have hsr2 : lround (n.nodes.take (i + 1)) (lrounds n.nodes r (lstart V n.nodes)) = putAll (lround (n.nodes.take i) (lrounds n.nodes r (lstart V n.nodes))) x.nv (plevel (lround (n.nodes.take i) (lrounds n.nodes r (lstart V n.nodes))) x) := hsr
                obtain ⟨b, o, hS, a, c1, a2, c2, q0, q1, q2, q3, q4, hsf, hsv⟩ := hL.node hx
                have hlev := rlevel_any x ⟨a, c1, a2, c2⟩ (some ⟨g, 0, none⟩) (V + 1) _ wr (hsf.src hL.lt) hL.ints.src (by rw [hlen]; omega) (by omega) (fun f hf => by have := HG.out.lits x (mem_of_some hx) f hf; rw [hlen]; omega) (fun l hl => by have := hLB l hl; omega)
                rw [hlen] at hlev
                have hpb := plevel_bound hLB (by omega) x
                generalize hLi : lround (n.nodes.take i) (lrounds n.nodes r (lstart V n.nodes)) = Li at hL hlen hst hsr2 hlev hpb
                generalize hpl : plevel Li x = pl at hst hsr2 hlev hpb
                generalize leftN (n.nodes.take i) (lrounds n.nodes r (lstart V n.nodes)) = ln at hst hln ⊢
                have HLEV := Lib.hid hlev
                have HST := Lib.hid hst
                have HSR := Lib.hid hsr2
                have HLEN := Lib.hid hlen
                have HL := Lib.hid hL
                subst hS
                clear hx hLB hlen hst hsr hsr2 hlev hsf hsv hL hLi hpl
                obtain ⟨hp0, hp1⟩ := hpb
                by_cases hneg : pl < 0
                all_goals
                  go_wp2_with (first | (go_at_call 26; refine HLEV.out.mono ?_; rintro e w6 ⟨rfl, hb6⟩; have hL := HL.out.call hb6; clear hb6))
                  go_loopg [12] x.nv.length (fun m s12 wx => ∃ k : Nat, k + m = x.nv.length ∧ s12 = .int .i64 k ∧ LvAt w.heap.size g P (some ⟨b, o, none⟩) n.nodes w wx (putAll Li (x.nv.take k) pl))
                  case atStart => exact ⟨0, by omega, rfl, hL⟩
                  case round =>
                    clear hL q0 q1 q2 q3 q4
                    obtain ⟨k, hk, rfl, hL⟩ := hrel
                    generalize gk = m3 at *
                    obtain ⟨b', o', hS, a, c1, a2, c2, q0, q1, q2, q3, q4, hsf, hsv⟩ := hL.node HX.out
                    injection hS with hS
                    injection hS with hS1 hS2
                    subst hS1
                    subst hS2
                    by_cases hkl : k < x.nv.length
                    · obtain ⟨u, hu⟩ := some_of_lt hkl
                      have hklI : (k : Int) < (x.nv.length : Int) := by omega
                      have hk0 : (0 : Int) ≤ (k : Int) := by omega
                      obtain ⟨b2, o2, hS2, hP2, hcell⟩ := hsv (by rintro e; rw [e] at hu; simp at hu)
                      subst hS2
                      have hc := hcell k u hu
                      obtain ⟨hu1, hu2⟩ := HVX.out u (mem_of_some hu)
                      have hu3 : u < n.vars + 1 := by omega
                      have hu4 : 0 ≤ u := by omega
                      have hfree := hL.ints.free u.toNat
                      obtain ⟨l, hl⟩ := some_of_lt (show u.toNat < (putAll Li (x.nv.take k) pl).length by rw [putAll_len, HLEN.out]; omega)
                      have hcur := hL.ints.cell hl
                      have HS := Lib.hid (show LvAt w.heap.size g P (some ⟨b, o, none⟩) n.nodes w _ (putAll Li (x.nv.take (k + 1)) pl) by
                        rw [take_some hu, putAll_snoc]; exact hL.set u.toNat pl)
                      clear hcell hl hL hsf hsv hu hP2
                      go_wp2
                      go_roundg (m3 - 1)
                      case measure => omega
                      case rel => exact ⟨k + 1, by omega, by first | rfl | simp, HS.out⟩
                    · have hkn : ¬ ((k : Int) < (x.nv.length : Int)) := by omega
                      have HS := Lib.hid (show LvAt w.heap.size g P (some ⟨b, o, none⟩) n.nodes w _ (lround (n.nodes.take (i + 1)) (lrounds n.nodes r (lstart V n.nodes))) by
                        rw [HSR.out]; rw [show x.nv.take k = x.nv from List.take_of_length_le (by omega)] at hL; exact hL)
                      clear hL hsf hsv
                      go_wp2
                      go_roundg (m2 - 1)
                      case measure => omega
                      case rel => exact ⟨i + 1, by omega, by rw [HST.out]; first | (rw [if_pos hneg]; simp; done) | (rw [if_neg (by omega)]; simp; done), by first | rfl | simp, HS.out⟩
              · have hltn : ¬ ((i : Int) < (n.nodes.length : Int)) := by omega
                rw [show n.nodes.take i = n.nodes from List.take_of_length_le (by omega)] at hL ⊢
                have HS := Lib.hid (show LvAt w.heap.size g P A n.nodes w _ (lrounds n.nodes (r + 1) (lstart V n.nodes)) from hL)
                clear hL
                go_wp2
                go_roundg (m - 1)
                case measure => omega
                case rel => exact ⟨r + 1, by omega, by first | rfl | simp [pleft], by first | rfl | simp, HS.out⟩
          · have hrn : r = n.nodes.length + 1 := by omega
            subst hrn
            have hlen : (lrounds n.nodes (n.nodes.length + 1) (lstart V n.nodes)).length = V + 1 := by rw [lrounds_len, lstart_len]
            have hleI : ¬ (((n.nodes.length + 1 : Nat) : Int) ≤ (n.nodes.length : Int)) := by omega
            have HL := Lib.hid hL
            have HLEN := Lib.hid hlen
            clear hL hlen
            by_cases hz2 : leftN n.nodes (lrounds n.nodes n.nodes.length (lstart V n.nodes)) = 0
            · have hlv : n.levels = some (lrounds n.nodes (n.nodes.length + 1) (lstart V n.nodes)) := by rw [HLV.out]; unfold levelsOf; rw [if_pos hz2]
              have hz3 : pleft n.nodes (lstart V n.nodes) (n.nodes.length + 1) = 0 := hz2
              rw [hz3]
              have HLV2 := Lib.hid hlv
              clear hz2 hz3 hlv
              go_wp2
              go_ret2
              rw [HLV2.out]
              exact ⟨g, by rw [HLEN.out]; rfl, HL.out.ints, HL.out.ge, HL.out.below⟩
            · have hlv : n.levels = none := by rw [HLV.out]; unfold levelsOf; rw [if_neg hz2]
              have hz3 : (0 : Int) < (pleft n.nodes (lstart V n.nodes) (n.nodes.length + 1) : Nat) := by
                have : pleft n.nodes (lstart V n.nodes) (n.nodes.length + 1) = leftN n.nodes (lrounds n.nodes n.nodes.length (lstart V n.nodes)) := rfl
                omega
              generalize pleft n.nodes (lstart V n.nodes) (n.nodes.length + 1) = pf at hz3 ⊢
              have HLV2 := Lib.hid hlv
              clear hz2 hlv
              go_wp2
              go_ret2
              rw [HLV2.out]
              exact ⟨rfl, HL.out.below⟩
  · have hl : n.levels = none := by unfold PNet.levels; rw [if_neg hs]
    have hz : (n.sound != 0) = true := by simp [hs]
    rw [hl]
    clear h hN hf hm hr
    go_enter Try.func12, Try.ntmps12
    go_wp2_with (first | (go_at_call 25; refine HQ.out.mono ?_; rintro e w3 ⟨rfl, hb3⟩))
    go_ret2
    exact ⟨rfl, below_on HN.out.2.2 hb3⟩
end Go.Proofs.Ytchnpooijaalnaa
