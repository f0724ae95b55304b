/- The contract of topo.Support (conditions: the netlist and the literals lie where their values say; the netlist fits, is modest, its ports begin near 0; at most 900 nodes; at most 1000 literals of 0 to 2^41). -/
import Derived.Test.YtdpjmpemjcbmaaaTSort
import Derived.Deep.RegionHeld3
namespace Go.Proofs.Ytdpjmpemjcbmaaa
open Go.ChangeShapes Go.WideShapes Go.RowKit
set_option linter.unusedVariables false

theorem GraphLeft.by' {n : PNet} {S : NetS} {L : List Int} {w w' : World} {e : Ending} {p : Nat} {B : Nat} (h : GraphLeft n S L w e w') (hN : NetAt w B S n) (hB : B ≤ p) (hp : p < w.heap.size) :
    ∃ a d c cd, e = .returned (.agg #[.int .i64 n.vars, .slice S.i n.inputs.length S.ic, .slice S.l n.latches.length S.lc, .slice S.o n.outs.length S.oc, .slice S.b n.bads.length S.bc, .slice S.c n.cons.length S.cc, .slice S.m n.mems.length S.mc, .slice S.a n.ands.length S.ac, .slice a n.nodes.length c, .slice d L.length cd]) ∧ GraphBy w' p w'.heap.size B S n a d L ∧ Below w.heap.size w w' := by
  obtain ⟨q, db, rfl, hO, hI, _, hge⟩ := h
  obtain ⟨A, c, rfl, hR, _⟩ := hO.form
  refine ⟨A, some ⟨db, 0, none⟩, c, L.length, rfl, ⟨NetAt.below hO.below (by omega) hN, hB, Nat.lt_of_lt_of_le hp hO.below.size, fun hn => ?_, fun hn => ?_⟩, hO.below⟩
  · obtain ⟨b, o, e, h1, h2⟩ := hR hn
    subst e
    have h3 : o = 0 ∧ w.heap.size ≤ b := by
      rcases hO.row.2 with ⟨h4, h5⟩ | ⟨g, cap, cur, hv, h4, h5, _⟩
      · cases h4
      · injection hv with e1 _ _
        injection e1 with e1
        injection e1 with e1 e2
        exact ⟨e2, by omega⟩
    exact ⟨b, o, rfl, by omega, h1, h2⟩
  · exact ⟨db, 0, rfl, by omega, hI.lt, fun j x hj => by rw [Nat.zero_add]; exact hI.cell hj⟩

theorem seed_snoc_yes {V : Int} {l : List Int} {k : Nat} {f : Int} (hf : l[k]? = some f) (h : 1 ≤ f / 2 ∧ f / 2 ≤ V) : seedOf V (l.take (k + 1)) = seedOf V (l.take k) ++ [f / 2] := by
  unfold seedOf
  rw [take_some hf, List.map_append, List.filter_append]
  congr 1
  exact seed_yes h
theorem seed_snoc_no {V : Int} {l : List Int} {k : Nat} {f : Int} (hf : l[k]? = some f) (h : ¬ (1 ≤ f / 2 ∧ f / 2 ≤ V)) : seedOf V (l.take (k + 1)) = seedOf V (l.take k) := by
  unfold seedOf
  rw [take_some hf, List.map_append, List.filter_append]
  have := seed_no (V := V) (f := f) h
  unfold seedOf at this
  rw [this, List.append_nil]
theorem seedOf_len (V : Int) (l : List Int) : (seedOf V l).length ≤ l.length := by
  unfold seedOf
  refine Nat.le_trans (List.length_filter_le _ _) ?_
  simp

theorem rise_of_sorted {F : List Nat} (h : F.Nodup) : ((posOf F).mergeSort fun x y => decide (x ≤ y)).Pairwise (· < ·) := by
  have h1 : ((posOf F).mergeSort fun x y => decide (x ≤ y)).Pairwise (· ≤ ·) := by
    have h := List.pairwise_mergeSort (le := fun x y : Int => decide (x ≤ y)) (fun a b c h1 h2 => by simp at *; omega) (fun a b => by simp; omega) (posOf F)
    exact h.imp (fun h => by simpa using h)
  have h2 : ((posOf F).mergeSort fun x y => decide (x ≤ y)).Nodup := by
    rw [(List.mergeSort_perm _ _).nodup_iff]
    unfold posOf nats
    rw [List.Nodup, List.pairwise_map]
    exact (List.Pairwise.filter _ h).imp (fun h e => h (by omega))
  exact (h1.and h2).imp (fun ⟨h1, h2⟩ => by omega)
theorem walk_support {n : PNet} {S : NetS} {a d : Option Addr} {c cd V p B : Nat} {L xs : List Int} {w3 : World} {A : Option Addr} (cA : Nat) (first : List Nat) (hb : GraphBy w3 p w3.heap.size B S n a d L) (ht : Tells n.nodes V L) (hG : Good6 V n.nodes) (hV2 : (V : Int) = n.vars) (hV : V ≤ 2000) (hI : ∃ Lv, IsLevels V n.nodes Lv)
    (hp : w3.heap[p]? = some (.cells #[.slice none 0 0] 22 (0, 0))) (hxs : nats first = xs) (hf : ∀ x ∈ first, x ≤ V) (hfl : first.length ≤ 1000000) (hfar : Far w3.heap.size (fun b => b = p) w3 A xs) :
    Calls Try.prog 33 #[.int .i64 n.vars, .slice A xs.length cA, .func (.func 34) #[.agg #[.int .i64 n.vars, .slice S.i n.inputs.length S.ic, .slice S.l n.latches.length S.lc, .slice S.o n.outs.length S.oc, .slice S.b n.bads.length S.bc, .slice S.c n.cons.length S.cc, .slice S.m n.mems.length S.mc, .slice S.a n.ands.length S.ac, .slice a n.nodes.length c, .slice d L.length cd]] #[], .func (.func 35) #[] #[.pointer (some ⟨p, 0, none⟩)]] w3 fun e w' => e = .returned (.bool true) ∧ Below p w3 w' ∧
      Hid (∃ F vs, Whole (belowOf n.nodes) V first F ∧ w'.heap[p]? = some (.cells #[vs] 22 (0, 0)) ∧ w'.ownsRow w3.heap.size 3 1 vs (posOf F).length ((posOf F).map (Value.int .i64)) ∧ F.length ≤ V + 1 ∧ w3.heap.size ≤ w'.heap.size ∧ F.Nodup) := by
  have hown : (fun b => b = p ∨ (Value.slice none 0 0).ownBlock = some b) = (fun b => b = p) := by
    funext b
    simp [Value.ownBlock]
  have hfar2 : Far w3.heap.size (fun b => b = p ∨ (Value.slice none 0 0).ownBlock = some b) w3 A (nats first) := by rw [hown, hxs]; exact hfar
  have hW := walk_any _ first A cA w3 (support_leaves (c := c) (cd := cd) hb ht hG hV) (by omega) ⟨by simp, by simp, .slice none 0 0, rfl, ⟨rfl, rfl, rfl, fun _ _ _ => rfl, Nat.le_refl _, hp, World.ownsRow_nil _ _ _ _⟩⟩ hf hfl hfar2
  rw [hV2, ← nats_len first, hxs] at hW
  refine Calls.mono hW ?_
  rintro e w' ⟨bb, o', rfl, hMv, hD⟩
  have hbt : bb = true := by
    cases bb
    · obtain ⟨Lv, hLv⟩ := hI
      exact absurd hLv (none_of_loops hG (hD.out.2 rfl) Lv)
    · rfl
  subst hbt
  obtain ⟨F, hF, h1, h2, vs, _, h3⟩ := hD.out.1 rfl
  refine ⟨rfl, hMv.below (by have := hb.hp; omega) (by have := hb.hp; omega) (fun b hb2 => hb2.elim (fun e => by omega) (fun e => by cases e)), Lib.hid ⟨F, vs, hF, h3.ptr, h3.row.mono (by omega), nodup_le h1 h2, hMv.size, h1⟩⟩

set_option maxRecDepth 100000 in
set_option maxHeartbeats 8000000 in
theorem support_any (n : PNet) (S : NetS) (Al : Option Addr) (cl : Nat) (l : List Int) (w : World) (h : NetAt w w.heap.size S n) (hsl : Src w w.heap.size Al l) (hf : n.fits) (hm : n.modest) (hr : n.near) (hd : n.nodes.length ≤ 900) (hll : l.length ≤ 1000) (hlx : ∀ x ∈ l, 0 ≤ x ∧ x ≤ 2199023255552) :
    Calls Try.prog 16 #[.agg #[.int .i64 n.vars, .slice S.i n.inputs.length S.ic, .slice S.l n.latches.length S.lc, .slice S.o n.outs.length S.oc, .slice S.b n.bads.length S.bc, .slice S.c n.cons.length S.cc, .slice S.m n.mems.length S.mc, .slice S.a n.ands.length S.ac], .slice Al l.length cl] w (Lists w (n.support l)) := by
  have hbx := below_box w #[.int .i64 n.vars, .slice S.i n.inputs.length S.ic, .slice S.l n.latches.length S.lc, .slice S.o n.outs.length S.oc, .slice S.b n.bads.length S.bc, .slice S.c n.cons.length S.cc, .slice S.m n.mems.length S.mc, .slice S.a n.ands.length S.ac] 27
  have hM := netBox_new w n S 27
  have hN := NetAt.later h hbx (by simp)
  have s1 : (w.alloc (.cells #[.int .i64 n.vars, .slice S.i n.inputs.length S.ic, .slice S.l n.latches.length S.lc, .slice S.o n.outs.length S.oc, .slice S.b n.bads.length S.bc, .slice S.c n.cons.length S.cc, .slice S.m n.mems.length S.mc, .slice S.a n.ands.length S.ac] 27)).heap.size = w.heap.size + 1 := by simp
  generalize hw1 : w.alloc (.cells #[.int .i64 n.vars, .slice S.i n.inputs.length S.ic, .slice S.l n.latches.length S.lc, .slice S.o n.outs.length S.oc, .slice S.b n.bads.length S.bc, .slice S.c n.cons.length S.cc, .slice S.m n.mems.length S.mc, .slice S.a n.ands.length S.ac] 27) = w1 at *
  have HCk := Lib.hid (check_any n S w1 hN hf hm hr hd)
  obtain ⟨e0, e1, e2, e3, e4, e5, e6, e7, hlt⟩ := hM
  have HM := Lib.hid (show NetBox w1 w.heap.size n S from ⟨e0, e1, e2, e3, e4, e5, e6, e7, hlt⟩)
  by_cases hck : n.check = 0
  · have hss : (n.check != 0) = false := by simp [hck]
    have hs : n.sound = 0 := by
      unfold PNet.check at hck
      split at hck
      · assumption
      · exact hck
    have H := Lib.hid (And.intro h (And.intro hbx (And.intro hN (And.intro hck (And.intro hs (And.intro hm (And.intro hr hd)))))))
    have HSL := Lib.hid (And.intro hsl (And.intro hll hlx))
    clear h hbx hN hf hm hr hd hck hs hsl hlt
    go_enter Try.func16, Try.ntmps16
    go_wp2_with (first
      | (go_at_call 9; refine HCk.out.mono ?_; rintro e w2 ⟨rfl, hb2⟩; obtain ⟨n0, n1, n2, n3, n4, n5, n6, n7, nlt⟩ := HM.out.below hb2 HM.out.lt))
    have hrp := heap_alloc_new w2 (.cells #[.slice none 0 0] 22)
    have hb2' := below_box w2 #[.slice none 0 0] 22
    have sp : (w2.alloc (.cells #[.slice none 0 0] 22)).heap.size = w2.heap.size + 1 := by simp
    generalize w2.alloc (.cells #[.slice none 0 0] 22) = wp at *
    have HP := Lib.hid (And.intro hrp (And.intro hb2' (And.intro hb2 (show NetBox w2 w.heap.size n S from ⟨n0, n1, n2, n3, n4, n5, n6, n7, nlt⟩))))
    clear hrp hb2' hb2 n0 n1 n2 n3 n4 n5 n6 n7 nlt e0 e1 e2 e3 e4 e5 e6 e7 hw1
    have hll := HSL.out.2.1
    go_loopg [5, 15] l.length (fun m s5 s15 wx => ∃ k : Nat, k + m = l.length ∧ s15 = .int .i64 k ∧ Own wp.heap.size wp wx s5 (seedOf n.vars (l.take k)))
    case atStart => exact ⟨0, by omega, rfl, by simpa [seedOf] using Own.nil wp _ (Nat.le_refl _)⟩
    case round =>
      obtain ⟨k, hk, rfl, hO⟩ := hrel
      generalize gk = m at *
      by_cases hlt : k < l.length
      · obtain ⟨f, hf⟩ := some_of_lt hlt
        have hltI : (k : Int) < (l.length : Int) := by omega
        have hk0 : (0 : Int) ≤ (k : Int) := by omega
        have hkb : (k : Int) ≤ 1000 := by omega
        have hbw : Below w.heap.size w wr := (below_on H.out.2.1 (below_on HP.out.2.2.1 HP.out.2.1)).trans (hO.2.1.mono (below_on H.out.2.1 (below_on HP.out.2.2.1 HP.out.2.1)).size)
        obtain ⟨b, o, hS, hbl, hc⟩ := HSL.out.1.at hf
        have m6 := (hbw.cell (p := ⟨b, o + k, none⟩) hbl).trans (hc k f hf)
        have n0 := ((HP.out.2.2.2.below (HP.out.2.1.trans (hO.2.1.mono (by omega))) HP.out.2.2.2.lt)).n0
        have hlo : (seedOf n.vars (l.take k)).length ≤ 1000000 := by have := seedOf_len n.vars (l.take k); have := List.length_take_le k l; omega
        have HF := Lib.hid hf
        subst hS
        clear hc hf hbw
        by_cases h1 : 1 ≤ f / 2
        · by_cases h2 : f / 2 ≤ n.vars
          · have HX := Lib.hid (seed_snoc_yes (V := n.vars) HF.out ⟨h1, h2⟩)
            go_wp2_with (first | (go_at_call 32; refine (tvar_any _ _).mono ?_; rintro e w' ⟨rfl, rfl⟩) | (at_builtin; refine wpl_one rfl _ _ rfl rfl hO rfl hlo ?_; intro v' w' hO2 hW))
            go_roundg (m - 1)
            case measure => omega
            case rel => exact ⟨k + 1, by omega, by first | rfl | simp, by rw [HX.out]; exact hO2⟩
          · have HX := Lib.hid (seed_snoc_no (V := n.vars) HF.out (fun h => h2 h.2))
            go_wp2_with (first | (go_at_call 32; refine (tvar_any _ _).mono ?_; rintro e w' ⟨rfl, rfl⟩))
            go_roundg (m - 1)
            case measure => omega
            case rel => exact ⟨k + 1, by omega, by first | rfl | simp, by rw [HX.out]; exact hO⟩
        · have HX := Lib.hid (seed_snoc_no (V := n.vars) HF.out (fun h => h1 h.1))
          go_wp2_with (first | (go_at_call 32; refine (tvar_any _ _).mono ?_; rintro e w' ⟨rfl, rfl⟩))
          go_roundg (m - 1)
          case measure => omega
          case rel => exact ⟨k + 1, by omega, by first | rfl | simp, by rw [HX.out]; exact hO⟩
      · have hltn : ¬ ((k : Int) < (l.length : Int)) := by omega
        rw [List.take_of_length_le (by omega)] at hO
        obtain ⟨hW, hF, hG, _, _⟩ := good6_of H.out.2.2.2.2.1
        have hv0 := hW.vars.1
        have hv1 := hW.vars.2
        have hV2 : ((n.vars.toNat : Nat) : Int) = n.vars := by omega
        have hLv : ∃ Lv, IsLevels n.vars.toNat n.nodes Lv := by
          have hc := H.out.2.2.2.1
          unfold PNet.check at hc
          rw [if_pos H.out.2.2.2.2.1] at hc
          cases hl2 : n.levels with
          | none => rw [hl2] at hc; simp at hc
          | some Lv =>
            unfold PNet.levels at hl2
            rw [if_pos H.out.2.2.2.2.1] at hl2
            exact ⟨Lv, (levelsOf_iff hG).1 hl2⟩
        have hbr : Below w2.heap.size w2 wr := HP.out.2.1.trans (hO.2.1.mono (by omega))
        have HMr := Lib.hid (HP.out.2.2.2.below hbr HP.out.2.2.2.lt)
        obtain ⟨A5, c5, rfl, hs5, _⟩ := hO.form
        have HXL := Lib.hid hLv
        have HG := Lib.hid hG
        have HK := Lib.hid fun (W : World) (hW : Below wr.heap.size wr W) => show ((W.cell? ⟨w.heap.size, 0, none⟩ = some (.int .i64 n.vars) ∧ W.cell? ⟨w.heap.size, 1, none⟩ = some (.slice S.i n.inputs.length S.ic) ∧ W.cell? ⟨w.heap.size, 2, none⟩ = some (.slice S.l n.latches.length S.lc) ∧ W.cell? ⟨w.heap.size, 3, none⟩ = some (.slice S.o n.outs.length S.oc) ∧ W.cell? ⟨w.heap.size, 4, none⟩ = some (.slice S.b n.bads.length S.bc) ∧ W.cell? ⟨w.heap.size, 5, none⟩ = some (.slice S.c n.cons.length S.cc) ∧ W.cell? ⟨w.heap.size, 6, none⟩ = some (.slice S.m n.mems.length S.mc) ∧ W.cell? ⟨w.heap.size, 7, none⟩ = some (.slice S.a n.ands.length S.ac)) ∧ Hid (Below w2.heap.size w2 W)) from
          have k := HMr.out.below hW HMr.out.lt
          ⟨⟨k.n0, k.n1, k.n2, k.n3, k.n4, k.n5, k.n6, k.n7⟩, Lib.hid (hbr.trans (hW.mono hbr.size))⟩
        have HT := Lib.hid fun (W V' : World) (hW : ((W.cell? ⟨w.heap.size, 0, none⟩ = some (.int .i64 n.vars) ∧ W.cell? ⟨w.heap.size, 1, none⟩ = some (.slice S.i n.inputs.length S.ic) ∧ W.cell? ⟨w.heap.size, 2, none⟩ = some (.slice S.l n.latches.length S.lc) ∧ W.cell? ⟨w.heap.size, 3, none⟩ = some (.slice S.o n.outs.length S.oc) ∧ W.cell? ⟨w.heap.size, 4, none⟩ = some (.slice S.b n.bads.length S.bc) ∧ W.cell? ⟨w.heap.size, 5, none⟩ = some (.slice S.c n.cons.length S.cc) ∧ W.cell? ⟨w.heap.size, 6, none⟩ = some (.slice S.m n.mems.length S.mc) ∧ W.cell? ⟨w.heap.size, 7, none⟩ = some (.slice S.a n.ands.length S.ac)) ∧ Hid (Below w2.heap.size w2 W))) (hV : Below w2.heap.size W V') => show ((V'.cell? ⟨w.heap.size, 0, none⟩ = some (.int .i64 n.vars) ∧ V'.cell? ⟨w.heap.size, 1, none⟩ = some (.slice S.i n.inputs.length S.ic) ∧ V'.cell? ⟨w.heap.size, 2, none⟩ = some (.slice S.l n.latches.length S.lc) ∧ V'.cell? ⟨w.heap.size, 3, none⟩ = some (.slice S.o n.outs.length S.oc) ∧ V'.cell? ⟨w.heap.size, 4, none⟩ = some (.slice S.b n.bads.length S.bc) ∧ V'.cell? ⟨w.heap.size, 5, none⟩ = some (.slice S.c n.cons.length S.cc) ∧ V'.cell? ⟨w.heap.size, 6, none⟩ = some (.slice S.m n.mems.length S.mc) ∧ V'.cell? ⟨w.heap.size, 7, none⟩ = some (.slice S.a n.ands.length S.ac)) ∧ Hid (Below w2.heap.size w2 V')) from
          ⟨⟨(hV.cell (p := ⟨w.heap.size, 0, none⟩) HP.out.2.2.2.lt).trans hW.1.1, (hV.cell (p := ⟨w.heap.size, 1, none⟩) HP.out.2.2.2.lt).trans hW.1.2.1, (hV.cell (p := ⟨w.heap.size, 2, none⟩) HP.out.2.2.2.lt).trans hW.1.2.2.1, (hV.cell (p := ⟨w.heap.size, 3, none⟩) HP.out.2.2.2.lt).trans hW.1.2.2.2.1, (hV.cell (p := ⟨w.heap.size, 4, none⟩) HP.out.2.2.2.lt).trans hW.1.2.2.2.2.1, (hV.cell (p := ⟨w.heap.size, 5, none⟩) HP.out.2.2.2.lt).trans hW.1.2.2.2.2.2.1, (hV.cell (p := ⟨w.heap.size, 6, none⟩) HP.out.2.2.2.lt).trans hW.1.2.2.2.2.2.2.1, (hV.cell (p := ⟨w.heap.size, 7, none⟩) HP.out.2.2.2.lt).trans hW.1.2.2.2.2.2.2.2⟩, Lib.hid (hW.2.out.trans hV)⟩
        have HN1 := Lib.hid fun (W : World) (hW : Below w2.heap.size w2 W) => NetAt.below (Below.trans HP.out.2.2.1 (hW.mono HP.out.2.2.1.size)) (Nat.le_refl _) H.out.2.2.1
        have HNG := Lib.hid fun (W : World) (hW : ((W.cell? ⟨w.heap.size, 0, none⟩ = some (.int .i64 n.vars) ∧ W.cell? ⟨w.heap.size, 1, none⟩ = some (.slice S.i n.inputs.length S.ic) ∧ W.cell? ⟨w.heap.size, 2, none⟩ = some (.slice S.l n.latches.length S.lc) ∧ W.cell? ⟨w.heap.size, 3, none⟩ = some (.slice S.o n.outs.length S.oc) ∧ W.cell? ⟨w.heap.size, 4, none⟩ = some (.slice S.b n.bads.length S.bc) ∧ W.cell? ⟨w.heap.size, 5, none⟩ = some (.slice S.c n.cons.length S.cc) ∧ W.cell? ⟨w.heap.size, 6, none⟩ = some (.slice S.m n.mems.length S.mc) ∧ W.cell? ⟨w.heap.size, 7, none⟩ = some (.slice S.a n.ands.length S.ac)) ∧ Hid (Below w2.heap.size w2 W))) => newGraph_any n S W (NetAt.wider (Nat.le_trans HP.out.2.2.1.size hW.2.out.size) (HN1.out W hW.2.out)) H.out.2.2.2.2.1 H.out.2.2.2.2.2.1 H.out.2.2.2.2.2.2.1 H.out.2.2.2.2.2.2.2
        have HWK := Lib.hid fun (w3 : World) (a d : Option Addr) (c cd : Nat) (hBy : GraphBy w3 w2.heap.size w3.heap.size w1.heap.size S n a d (dfill 0 n.nodes (List.replicate (n.vars.toNat + 1) (-1)))) (hb3 : Below wr.drew.heap.size wr.drew w3) =>
          walk_support (A := A5) (c := c) (cd := cd) c5 ((seedOf n.vars l).map Int.toNat) hBy (tells_of HG.out) HG.out hV2 (by omega) HXL.out ((hb3.block _ (show w2.heap.size < wr.heap.size by have := hO.2.1.size; omega)).trans ((hO.2.1.block _ (by omega)).trans HP.out.1)) seed_nats
            (fun x hx => by
              obtain ⟨y, hy, rfl⟩ := List.mem_map.1 hx
              unfold seedOf at hy
              have := (List.mem_filter.1 hy).2
              simp at this
              omega) (by rw [List.length_map]; have := seedOf_len n.vars l; omega)
            (fun hn => by
              obtain ⟨b, s, e, hlt2, hc⟩ := hs5 hn
              subst e
              have h5 := (hO.lt (g := b) rfl).1
              have h6 : wr.heap.size ≤ w3.heap.size := hb3.size
              exact ⟨b, s, rfl, .inl (by omega), by omega, by omega, fun j x hj => (hb3.cell (p := ⟨b, s + j, none⟩) (show b < wr.heap.size from hlt2)).trans (hc j x hj)⟩)
        have HB1 := Lib.hid hbr
        have HOS := Lib.hid hO
        have hpw := hO.2.1.size
        obtain ⟨n0, n1, n2, n3, n4, n5, n6, n7, nlt⟩ := HMr.out
        clear hO hs5 hbr hLv hG hW hF
        go_wp2_with fail
        go_region_held3 (fun W => ((W.cell? ⟨w.heap.size, 0, none⟩ = some (.int .i64 n.vars) ∧ W.cell? ⟨w.heap.size, 1, none⟩ = some (.slice S.i n.inputs.length S.ic) ∧ W.cell? ⟨w.heap.size, 2, none⟩ = some (.slice S.l n.latches.length S.lc) ∧ W.cell? ⟨w.heap.size, 3, none⟩ = some (.slice S.o n.outs.length S.oc) ∧ W.cell? ⟨w.heap.size, 4, none⟩ = some (.slice S.b n.bads.length S.bc) ∧ W.cell? ⟨w.heap.size, 5, none⟩ = some (.slice S.c n.cons.length S.cc) ∧ W.cell? ⟨w.heap.size, 6, none⟩ = some (.slice S.m n.mems.length S.mc) ∧ W.cell? ⟨w.heap.size, 7, none⟩ = some (.slice S.a n.ands.length S.ac)) ∧ Hid (Below w2.heap.size w2 W))) (first | exact HK.out _ (Below.refl _ _).drew | exact HT.out _ _ (by assumption) (by assumption) | exact HT.out _ _ (by assumption) (Below.mono (by assumption) (show w2.heap.size ≤ wr.heap.size by omega)) | go_keep)
          (first
            | (go_at_call 23; refine (HNG.out _ (by assumption)).mono ?_; rintro e w3 hh; obtain ⟨a, d, c, cd, rfl, hBy, hb3⟩ := hh.by' (p := w2.heap.size) (B := w1.heap.size) (HN1.out _ (HB1.out.trans (Below.refl _ _).drew)) HP.out.2.2.1.size (show w2.heap.size < wr.heap.size by omega))
            | (go_at_call 33; refine (HWK.out w3 a d c cd hBy hb3).mono ?_; rintro e w4 ⟨rfl, hb4, hD⟩)
            | fail)
        all_goals
          have HE := Lib.hid (show ((w4.cell? ⟨w.heap.size, 0, none⟩ = some (.int .i64 n.vars) ∧ w4.cell? ⟨w.heap.size, 1, none⟩ = some (.slice S.i n.inputs.length S.ic) ∧ w4.cell? ⟨w.heap.size, 2, none⟩ = some (.slice S.l n.latches.length S.lc) ∧ w4.cell? ⟨w.heap.size, 3, none⟩ = some (.slice S.o n.outs.length S.oc) ∧ w4.cell? ⟨w.heap.size, 4, none⟩ = some (.slice S.b n.bads.length S.bc) ∧ w4.cell? ⟨w.heap.size, 5, none⟩ = some (.slice S.c n.cons.length S.cc) ∧ w4.cell? ⟨w.heap.size, 6, none⟩ = some (.slice S.m n.mems.length S.mc) ∧ w4.cell? ⟨w.heap.size, 7, none⟩ = some (.slice S.a n.ands.length S.ac)) ∧ Hid (Below w2.heap.size w2 w4)) from by assumption).2.out
          obtain ⟨F, vs, hF4, hp4, hr4, hFl, hsz4, hnd4⟩ := hD.out
          have c4 : w4.cell? ⟨w2.heap.size, 0, none⟩ = some vs := by rw [cell_of_row w4 _ 0 _ _ _ hp4]; rfl
          have hp3 := hBy.hp
          have HSo := Lib.hid (sort_own hr4 hsz4 (by have := posOf_len F; omega))
          have HF := Lib.hid (And.intro hF4 hnd4)
          clear hF4 hp4 hr4 hnd4 hD hBy hb3 hb4 HWK HNG HN1 HT HK
          go_wp2_with (go_at_call 36; refine HSo.out.mono ?_; rintro e w5 ⟨rfl, hb5, hr5⟩; have c5 : w5.cell? ⟨w2.heap.size, 0, none⟩ = some vs := (hb5.cell (p := ⟨w2.heap.size, 0, none⟩) hp3).trans c4)
          go_ret
          have hsame := support_same (l := l) H.out.2.2.2.2.1 (HXL.out.choose_spec) HF.out.1 (rise_of_sorted HF.out.2) (fun x => List.mem_mergeSort)
          rw [show (posOf F).length = ((posOf F).mergeSort fun x y => decide (x ≤ y)).length from (List.length_mergeSort _).symm] at hr5
          obtain ⟨A6, c6, rfl, hs6, _⟩ := own_form hr5
          have hA := below_on H.out.2.1 HP.out.2.2.1
          exact ⟨A6, c6, by rw [← hsame]; rfl, hsame ▸ hs6, hA.trans ((HE.out.trans (hb5.mono (by omega))).mono hA.size)⟩
  · have hss : (n.check != 0) = true := by simp [hck]
    have HB := Lib.hid hbx
    have HL := Lib.hid (show n.support l = [] by unfold PNet.support; rw [if_neg hck])
    clear h hbx hN hf hm hr hd hck hsl hlx
    go_enter Try.func16, Try.ntmps16
    go_wp2_with (first
      | (go_at_call 9; refine HCk.out.mono ?_; rintro e w2 ⟨rfl, hb2⟩))
    go_ret
    rw [HL.out]
    exact ⟨none, 0, rfl, Src.nil, below_on HB.out hb2⟩
end Go.Proofs.Ytdpjmpemjcbmaaa
