/- The law TopoFirst returns true for every netlist (no condition). -/
import Derived.Test.YtchnpooijaalnaaTSortB
import Derived.Test.YtchnpooijaalnaaLaw
import Derived.Deep.RegionHeld3
import Derived.Deep.DrawnRows
import Derived.ProofKit
import Derived.OpenShut
import Derived.ChangeSlices
namespace Go.Proofs.Ytchnpooijaalnaa.topoFirst
open Go.ChangeShapes Go.WideShapes Go.RowKit
set_option linter.unusedVariables false

theorem own : ownKnob Try.prog.godebug = none := by kernel_rfl

/-- The variables that are there before the nodes of l. -/
def there (n : PNet) (l : List PNode) : List Int := [0] ++ n.inputs ++ n.latches.map PLatch.lv ++ l.flatMap PNode.nv

theorem marked_first (w : World) (N : Nat) (hN : 0 < N) : Marked (w.alloc (.cells ((madeCells #[.bool false] N).setIfInBounds 0 (.bool true)) 4)) w.heap.size N [0] := by
  refine ⟨_, heap_alloc_new w _, (Array.size_setIfInBounds).trans (size_madeCells _ _), fun i hi => ?_⟩
  rw [Array.getElem?_setIfInBounds]
  by_cases e : 0 = i
  · subst e
    rw [if_pos rfl, if_pos (by rw [show (madeCells #[Value.bool false] N).size = N from size_madeCells _ _]; exact hN)]
    simp
  · rw [if_neg e]
    have : ¬ i = 0 := by omega
    simp [madeCells, hi, Nat.mod_one, this]

set_option maxRecDepth 100000 in
set_option maxHeartbeats 4000000 in
theorem walk_right (ha : ∀ W, Calls Try.prog 8 #[] W fun e w' => e = .returned (.bool true) ∧ Below W.heap.size W w') (n : PNet) (S : NetS) (w : World) (h : NetAt w w.heap.size S n) (hf : n.fits) (hl : n.light6 = true) (hc : n.check = 0) :
    Calls Try.prog 6 #[netV n S] w fun e w' => e = .returned (.bool true) ∧ Below w.heap.size w w' := by
  have hs0 : n.sound = 0 := by
    unfold PNet.check at hc
    split at hc
    · assumption
    · exact hc
  obtain ⟨L, hlv⟩ : ∃ L, n.levels = some L := by
    unfold PNet.check at hc
    rw [if_pos hs0] at hc
    cases hl : n.levels with
    | none => rw [hl] at hc; simp at hc
    | some L => exact ⟨L, rfl⟩
  have ho : n.order = some (orderTo n.nodes L n.nodes.length) := by unfold PNet.order; rw [hlv]; rfl
  obtain ⟨hW, hF, hG, hGd, _⟩ := good6_of hs0
  have hIs : IsLevels n.vars.toNat n.nodes L := by
    unfold PNet.levels at hlv
    rw [if_pos hs0] at hlv
    exact (levelsOf_iff hG).1 hlv
  have hlen := order_len hG hIs
  have hmem : ∀ x ∈ orderTo n.nodes L n.nodes.length, x ∈ n.nodes := fun x hx => (mem_orderTo.1 hx).1
  have hfirst := fun (i : Nat) (x : PNode) hx (f : Int) hf => there_first (n := n) ho (i := i) (x := x) hx (f := f) hf
  generalize orderTo n.nodes L n.nodes.length = D at *
  have hv0 := hW.vars.1
  have hv1 := hW.vars.2
  have hbx := below_box w #[.int .i64 n.vars, .slice S.i n.inputs.length S.ic, .slice S.l n.latches.length S.lc, .slice S.o n.outs.length S.oc, .slice S.b n.bads.length S.bc, .slice S.c n.cons.length S.cc, .slice S.m n.mems.length S.mc, .slice S.a n.ands.length S.ac] 27
  have hM := netBox_new w n S 27
  have hN := NetAt.later h hbx (by simp)
  have hli := light6_any n S _ hN
  rw [hl] at hli
  have hmo := (fits_light6 hl).1
  have hne := (fits_light6 hl).2.1
  have hnn := (fits_light6 hl).2.2
  have hz : (n.check != 0) = false := by simp [hc]
  unfold netV
  have HL := Lib.hid hli
  have HA := Lib.hid ha
  have HK := Lib.hid fun (W : World) (hW : Below (w.alloc (.cells #[.int .i64 n.vars, .slice S.i n.inputs.length S.ic, .slice S.l n.latches.length S.lc, .slice S.o n.outs.length S.oc, .slice S.b n.bads.length S.bc, .slice S.c n.cons.length S.cc, .slice S.m n.mems.length S.mc, .slice S.a n.ands.length S.ac] 27)).heap.size (w.alloc (.cells #[.int .i64 n.vars, .slice S.i n.inputs.length S.ic, .slice S.l n.latches.length S.lc, .slice S.o n.outs.length S.oc, .slice S.b n.bads.length S.bc, .slice S.c n.cons.length S.cc, .slice S.m n.mems.length S.mc, .slice S.a n.ands.length S.ac] 27)) W) => hM.below hW hM.lt
  have HQ1 := Lib.hid fun (W : World) (hW : Below (w.alloc (.cells #[.int .i64 n.vars, .slice S.i n.inputs.length S.ic, .slice S.l n.latches.length S.lc, .slice S.o n.outs.length S.oc, .slice S.b n.bads.length S.bc, .slice S.c n.cons.length S.cc, .slice S.m n.mems.length S.mc, .slice S.a n.ands.length S.ac] 27)).heap.size (w.alloc (.cells #[.int .i64 n.vars, .slice S.i n.inputs.length S.ic, .slice S.l n.latches.length S.lc, .slice S.o n.outs.length S.oc, .slice S.b n.bads.length S.bc, .slice S.c n.cons.length S.cc, .slice S.m n.mems.length S.mc, .slice S.a n.ands.length S.ac] 27)) W) => check_any n S W (NetAt.later hN hW hW.size) hf hmo hne hnn
  have HQ3 := Lib.hid fun (W : World) (hW : Below (w.alloc (.cells #[.int .i64 n.vars, .slice S.i n.inputs.length S.ic, .slice S.l n.latches.length S.lc, .slice S.o n.outs.length S.oc, .slice S.b n.bads.length S.bc, .slice S.c n.cons.length S.cc, .slice S.m n.mems.length S.mc, .slice S.a n.ands.length S.ac] 27)).heap.size (w.alloc (.cells #[.int .i64 n.vars, .slice S.i n.inputs.length S.ic, .slice S.l n.latches.length S.lc, .slice S.o n.outs.length S.oc, .slice S.b n.bads.length S.bc, .slice S.c n.cons.length S.cc, .slice S.m n.mems.length S.mc, .slice S.a n.ands.length S.ac] 27)) W) => order_any n S W (NetAt.later hN hW hW.size) hf hmo hne hnn
  rw [ho] at HQ3
  have HQ4 := Lib.hid fun (W : World) (hW : Below (w.alloc (.cells #[.int .i64 n.vars, .slice S.i n.inputs.length S.ic, .slice S.l n.latches.length S.lc, .slice S.o n.outs.length S.oc, .slice S.b n.bads.length S.bc, .slice S.c n.cons.length S.cc, .slice S.m n.mems.length S.mc, .slice S.a n.ands.length S.ac] 27)).heap.size (w.alloc (.cells #[.int .i64 n.vars, .slice S.i n.inputs.length S.ic, .slice S.l n.latches.length S.lc, .slice S.o n.outs.length S.oc, .slice S.b n.bads.length S.bc, .slice S.c n.cons.length S.cc, .slice S.m n.mems.length S.mc, .slice S.a n.ands.length S.ac] 27)) W) => rnodes_any n S W.heap.size W (NetAt.later hN hW hW.size) (Nat.le_refl _) hmo (told_of hne hF) (by omega)
  have hll : ((D.length : Int) != (n.nodes.length : Int)) = false := by rw [hlen]; simp
  have hmk := run_marks n.vars hv0 (by omega)
  have hmc : (madeCells #[Value.bool false] (n.vars.toNat + 1))[0]? = some (.bool false) := by simp [madeCells]
  have HB := Lib.hid hbx
  have HN := Lib.hid hN
  have HG := Lib.hid hG
  have HGD := Lib.hid hGd
  have HF := Lib.hid hF
  have HMO := Lib.hid hmo
  have HNE := Lib.hid hne
  have HFI := Lib.hid hfirst
  have HME := Lib.hid hmem
  have hdl : D.length ≤ 1000000 := by omega
  have hi2 := hW.inputs
  have hl2 := hW.latches
  obtain ⟨e0, e1, e2, e3, e4, e5, e6, e7, e8⟩ := hM
  clear ha hli hbx hN hG hGd hF hmo hne hnn hfirst hmem hIs hlv ho hs0 hc hl h hW hlen
  go_enter Try.func6, Try.ntmps6
  go_wp2_with (first
    | (go_at_call 7; refine HL.out.mono ?_; rintro e w2 ⟨rfl, hb2⟩; obtain ⟨e0, e1, e2, e3, e4, e5, e6, e7, e8⟩ := HK.out w2 hb2)
    | (go_at_call 9; refine (HQ1.out w2 hb2).mono ?_; rintro e w3 ⟨rfl, hb3⟩; have hB3 := below_on hb2 hb3; obtain ⟨e0, e1, e2, e3, e4, e5, e6, e7, e8⟩ := HK.out w3 hB3)
    | (go_at_call 13; refine (HQ3.out w3 hB3).mono ?_; rintro e w4 ⟨A, cA, rfl, hrow, hb4⟩; have hB4 := below_on hB3 hb4; obtain ⟨e0, e1, e2, e3, e4, e5, e6, e7, e8⟩ := HK.out w4 hB4)
    | (go_at_call 18; refine (HQ4.out w4 hB4).mono ?_; rintro e w5 ⟨A6, c6, rfl, hs6, hb5⟩; have hB5 := below_on hB4 hb5; obtain ⟨e0, e1, e2, e3, e4, e5, e6, e7, e8⟩ := HK.out w5 hB5; have hmn := Marked.new w5 (n.vars.toNat + 1); have hcur0 := hmn.look (v := 0) (by omega) (by omega); have hfree0 := hmn.free 0))
  have HM6 := Lib.hid (marked_first w5 (n.vars.toNat + 1) (by omega))
  have HB6 := Lib.hid (below_on hB5 ((Below.refl _ w5).alloc (Nat.le_refl _) (.cells ((madeCells #[.bool false] (n.vars.toNat + 1)).setIfInBounds 0 (.bool true)) 4)))
  have HGE := Lib.hid hB5.size
  have HROW := Lib.hid (fun (W : World) (hW : Below w5.heap.size (w5.alloc (.cells ((madeCells #[.bool false] (n.vars.toNat + 1)).setIfInBounds 0 (.bool true)) 4)) W) (i : Nat) (x : PNode) (hx : D[i]? = some x) => show ∃ b o, A = some ⟨b, o, none⟩ ∧ TNodeAt W b (o + i * 3) x ∧ b < w5.heap.size from by
    obtain ⟨b, o, e, hlt, hc⟩ := hrow.at hx
    obtain ⟨t0, t1, t2⟩ := hc i x hx
    have h1 : b < w5.heap.size := Nat.lt_of_lt_of_le hlt hb5.size
    have hb := ((Below.refl _ w5).alloc (Nat.le_refl _) (.cells ((madeCells #[.bool false] (n.vars.toNat + 1)).setIfInBounds 0 (.bool true)) 4)).trans hW
    exact ⟨b, o, e, ⟨((hb.cell (p := ⟨b, o + i * 3, none⟩) h1).trans (hb5.cell (p := ⟨b, o + i * 3, none⟩) hlt)).trans t0, ((hb.cell (p := ⟨b, o + i * 3 + 1, none⟩) h1).trans (hb5.cell (p := ⟨b, o + i * 3 + 1, none⟩) hlt)).trans t1, ((hb.cell (p := ⟨b, o + i * 3 + 2, none⟩) h1).trans (hb5.cell (p := ⟨b, o + i * 3 + 2, none⟩) hlt)).trans t2⟩, h1⟩)
  clear hmn hcur0 hfree0 hrow hs6 hb2 hb3 hb4 hb5 hB3 hB4 hB5 hmk hmc e0 e1 e2 e3 e4 e5 e6 e7 e8
  generalize w5.alloc (.cells ((madeCells #[.bool false] (n.vars.toNat + 1)).setIfInBounds 0 (.bool true)) 4) = w6 at HM6 HB6 HROW ⊢
  generalize w5.heap.size = g at HM6 HGE HROW ⊢
  generalize hVV : n.vars.toNat = V at *
  have hV2 : (V : Int) = n.vars := by omega
  go_loopg [6] n.inputs.length (fun m s6 wx => ∃ k : Nat, k + m = n.inputs.length ∧ s6 = .int .i64 k ∧ Below g w6 wx ∧ Marked wx g (V + 1) ([0] ++ n.inputs.take k))
  case atStart => exact ⟨0, by omega, rfl, Below.refl _ _, HM6.out⟩
  case round =>
    obtain ⟨k, hk, rfl, hbx, hmx⟩ := hrel
    generalize gk = m at *
    have hBx := HB6.out.trans (hbx.mono HGE.out)
    obtain ⟨e0, e1, e2, e3, e4, e5, e6, e7, e8⟩ := HK.out _ hBx
    by_cases hlt : k < n.inputs.length
    · obtain ⟨x, hx⟩ := some_of_lt hlt
      have hltI : (k : Int) < (n.inputs.length : Int) := by omega
      obtain ⟨b, o, hS, hbg, hcell⟩ := (NetAt.below hBx (Nat.le_refl _) HN.out).inputs.at hx
      rw [hS] at e1
      have hc := hcell k x hx
      obtain ⟨hx1, hx2⟩ := HGD.out.2 x (List.mem_append_left _ (List.mem_append_left _ (List.mem_append_left _ (mem_of_some hx))))
      have hx0 : 0 ≤ x := by omega
      have hx3 : x < n.vars + 1 := by omega
      have hcur := hmx.look (v := x) hx0 (by omega)
      have hfree := hmx.free x.toNat
      have HS := Lib.hid (And.intro (hbx.setCell (p := ⟨g, x.toNat, none⟩) (Nat.le_refl _) (.bool true)) ((hmx.put (v := x) hx0 (by omega)).cast (show [0] ++ n.inputs.take k ++ [x] = [0] ++ n.inputs.take (k + 1) by rw [take_some hx, List.append_assoc])))
      clear hcell hx hS hbx hmx hBx
      go_wp2
      go_roundg (m - 1)
      case measure => omega
      case rel => exact ⟨k + 1, by omega, by first | rfl | simp, HS.out.1, HS.out.2⟩
    · have hltn : ¬ ((k : Int) < (n.inputs.length : Int)) := by omega
      have HM7 := Lib.hid (hmx.cast (show [0] ++ n.inputs.take k = [0] ++ n.inputs by rw [List.take_of_length_le (by omega)]))
      have HB7 := Lib.hid hbx
      clear hmx hbx hBx hlt hk
      go_wp2
      go_loopg [7] n.latches.length (fun m s7 wx => ∃ k : Nat, k + m = n.latches.length ∧ s7 = .int .i64 k ∧ Below g w6 wx ∧ Marked wx g (V + 1) ([0] ++ n.inputs ++ (n.latches.take k).map PLatch.lv))
      case atStart => exact ⟨0, by omega, rfl, HB7.out, HM7.out.cast (by simp)⟩
      case round =>
        clear HB7 HM7 e0 e1 e2 e3 e4 e5 e6 e7 e8
        obtain ⟨k, hk, rfl, hbx, hmx⟩ := hrel
        generalize gk = m at *
        have hBx := HB6.out.trans (hbx.mono HGE.out)
        obtain ⟨e0, e1, e2, e3, e4, e5, e6, e7, e8⟩ := HK.out _ hBx
        by_cases hlt : k < n.latches.length
        · obtain ⟨y, hy⟩ := some_of_lt hlt
          have hltI : (k : Int) < (n.latches.length : Int) := by omega
          obtain ⟨b, o, hS, hbg, hcell⟩ := (NetAt.below hBx (Nat.le_refl _) HN.out).latches.at hy
          rw [hS] at e2
          obtain ⟨m0, m1, m2⟩ := hcell k y hy
          obtain ⟨hx1, hx2⟩ := HGD.out.2 y.lv (List.mem_append_left _ (List.mem_append_left _ (List.mem_append_right _ (List.mem_map.2 ⟨y, mem_of_some hy, rfl⟩))))
          have hx0 : 0 ≤ y.lv := by omega
          have hx3 : y.lv < n.vars + 1 := by omega
          have hcur := hmx.look (v := y.lv) hx0 (by omega)
          have hfree := hmx.free y.lv.toNat
          have HS := Lib.hid (And.intro (hbx.setCell (p := ⟨g, y.lv.toNat, none⟩) (Nat.le_refl _) (.bool true)) ((hmx.put (v := y.lv) hx0 (by omega)).cast (show [0] ++ n.inputs ++ (n.latches.take k).map PLatch.lv ++ [y.lv] = [0] ++ n.inputs ++ (n.latches.take (k + 1)).map PLatch.lv by rw [take_some hy]; simp)))
          clear hcell hy hS hbx hmx hBx
          go_wp2
          go_roundg (m - 1)
          case measure => omega
          case rel => exact ⟨k + 1, by omega, by first | rfl | simp, HS.out.1, HS.out.2⟩
        · have hltn : ¬ ((k : Int) < (n.latches.length : Int)) := by omega
          have HM7 := Lib.hid (hmx.cast (show [0] ++ n.inputs ++ (n.latches.take k).map PLatch.lv = there n (D.take 0) by rw [List.take_of_length_le (by omega)]; simp [there]))
          have HB7 := Lib.hid hbx
          clear hmx hbx hBx hlt hk
          go_wp2
          go_loopg [8] D.length (fun m s8 wx => ∃ i : Nat, i + m = D.length ∧ s8 = .int .i64 i ∧ Below g w6 wx ∧ Marked wx g (V + 1) (there n (D.take i)))
          case atStart => exact ⟨0, by omega, rfl, HB7.out, HM7.out⟩
          case round =>
            clear HB7 HM7 e0 e1 e2 e3 e4 e5 e6 e7 e8
            obtain ⟨i, hi, rfl, hbx, hmx⟩ := hrel
            generalize gk = m at *
            have hBx := HB6.out.trans (hbx.mono HGE.out)
            obtain ⟨e0, e1, e2, e3, e4, e5, e6, e7, e8⟩ := HK.out _ hBx
            by_cases hlt : i < D.length
            · obtain ⟨x, hx⟩ := some_of_lt hlt
              have hltI : (i : Int) < (D.length : Int) := by omega
              have hi0 : (0 : Int) ≤ (i : Int) := by omega
              obtain ⟨b, o, rfl, ⟨t0, t1, t2⟩, hbg⟩ := HROW.out _ hbx i x hx
              have hgl := hmx.lt
              have hbl : b < wr.heap.size := by omega
              have HT := Lib.hid (fun (W : World) (hW : Below g w6 W) => show TNodeAt W b (o + i * 3) x from by
                obtain ⟨b', o', hS', ht', _⟩ := HROW.out W hW i x hx
                injection hS' with hS'
                injection hS' with hS1 hS2
                subst hS1
                subst hS2
                exact ht')
              have HX := Lib.hid hx
              rcases node_at (HME.out x (mem_of_some hx)) with ⟨hr, hnm, j, a, hna, haj, hxf, hxv⟩ | ⟨hr, t, mm, j, r, hnm, hmt, hna, hrj, hxf, hxv⟩
              · as_aux_lemma =>
                  rw [hr] at t0
                  rw [hna] at t2
                  obtain ⟨ba, oa, hSa, hba, hca⟩ := HN.out.ands.at haj
                  have HAN := Lib.hid (fun (W : World) (hW : Below g w6 W) => show (NetBox W w.heap.size n S ∧ W.cell? ⟨w.heap.size, 7, none⟩ = some (.slice (some ⟨ba, oa, none⟩) n.ands.length S.ac)) ∧ AndAt W ba (oa + j * 3) a from by
                    have hB := HB6.out.trans (hW.mono HGE.out)
                    obtain ⟨m0, m1, m2⟩ := hca j a haj
                    exact ⟨⟨HK.out _ hB, by rw [← hSa]; exact (HK.out _ hB).n7⟩, (hB.cell (p := ⟨ba, oa + j * 3, none⟩) hba).trans m0, (hB.cell (p := ⟨ba, oa + j * 3 + 1, none⟩) hba).trans m1, (hB.cell (p := ⟨ba, oa + j * 3 + 2, none⟩) hba).trans m2⟩)
                  have hj0 : (0 : Int) ≤ (j : Int) := by omega
                  have hjl : (j : Int) < (n.ands.length : Int) := by have := lt_of_some haj; omega
                  have HXF := Lib.hid hxf
                  have HXV := Lib.hid hxv
                  clear hca hx haj hxf hxv hSa
                  go_wp2
                  have hab := ((Below.refl _ wr).alloc (Nat.le_refl _) (.cells #[] 3)).alloc (show wr.heap.size ≤ (wr.alloc (.cells #[] 3)).heap.size by simp) (.cells #[] 3)
                  generalize (wr.alloc (.cells #[] 3)).alloc (.cells #[] 3) = w8 at hab ⊢
                  have hb8 := hbx.trans (hab.mono (Nat.le_of_lt hgl))
                  have hm8 := hmx.same (hab.block g hgl)
                  have hg8 := hm8.lt
                  clear hab hbx hmx hBx e0 e1 e2 e3 e4 e5 e6 e7 e8 t0 t1 t2 hbl
                  obtain ⟨t0, t1, t2⟩ := HT.out _ hb8
                  rw [hr] at t0
                  rw [hna] at t2
                  obtain ⟨⟨⟨e0, e1, e2, e3, e4, e5, e6, _, e8⟩, e7⟩, m0, m1, m2⟩ := HAN.out _ hb8
                  go_region
                  go_wp2_with fail
                  have hb10 : Below g w6 (w8.alloc (.cells #[.int .i64 a.aa, .int .i64 a.ab] 3)).drew := (hb8.alloc (Nat.le_of_lt hg8) _).drew
                  have hm10 : Marked (w8.alloc (.cells #[.int .i64 a.aa, .int .i64 a.ab] 3)).drew g (V + 1) (there n (D.take i)) := hm8.same (Below.heap_alloc w8 _ g hg8)
                  have hrow10 : (w8.alloc (.cells #[.int .i64 a.aa, .int .i64 a.ab] 3)).drew.heap[w8.heap.size]? = some (.cells #[.int .i64 a.aa, .int .i64 a.ab] 3 (0, 0)) := heap_alloc_new w8 _
                  have hsz10 : w8.heap.size < (w8.alloc (.cells #[.int .i64 a.aa, .int .i64 a.ab] 3)).drew.heap.size := by show w8.heap.size < (w8.alloc _).heap.size; simp
                  clear e0 e1 e2 e3 e4 e5 e6 e7 e8 t0 t1 t2 m0 m1 m2 hb8 hm8
                  generalize (w8.alloc (.cells #[.int .i64 a.aa, .int .i64 a.ab] 3)).drew = w10 at hb10 hm10 hrow10 hsz10 ⊢
                  generalize w8.heap.size = G1 at hrow10 hsz10 hg8 ⊢
                  obtain ⟨t0, t1, t2⟩ := HT.out _ hb10
                  rw [hr] at t0
                  rw [hna] at t2
                  obtain ⟨⟨⟨e0, e1, e2, e3, e4, e5, e6, _, e8⟩, e7⟩, m0, m1, m2⟩ := HAN.out _ hb10
                  have hg10 := hm10.lt
                  go_region
                  go_wp2_with fail
                  have hb9 : Below g w6 (w10.alloc (.cells #[.int .i64 a.av] 3)).drew := (hb10.alloc (Nat.le_of_lt hg10) _).drew
                  have hm9 : Marked (w10.alloc (.cells #[.int .i64 a.av] 3)).drew g (V + 1) (there n (D.take i)) := hm10.same (Below.heap_alloc w10 _ g hg10)
                  have hrow9 : (w10.alloc (.cells #[.int .i64 a.av] 3)).drew.heap[w10.heap.size]? = some (.cells #[.int .i64 a.av] 3 (0, 0)) := heap_alloc_new w10 _
                  have hrow11 : (w10.alloc (.cells #[.int .i64 a.av] 3)).drew.heap[G1]? = some (.cells #[.int .i64 a.aa, .int .i64 a.ab] 3 (0, 0)) := (Below.heap_alloc w10 _ G1 hsz10).trans hrow10
                  have hsz9 : w10.heap.size < (w10.alloc (.cells #[.int .i64 a.av] 3)).drew.heap.size := by show w10.heap.size < (w10.alloc _).heap.size; simp
                  clear e0 e1 e2 e3 e4 e5 e6 e7 e8 t0 t1 t2 m0 m1 m2 hb10 hm10 hrow10
                  generalize (w10.alloc (.cells #[.int .i64 a.av] 3)).drew = w9 at hb9 hm9 hrow9 hrow11 hsz9 ⊢
                  generalize w10.heap.size = G2 at hrow9 hsz9 hsz10 hg10 ⊢
                  have hf9 : Src w9 w9.heap.size (some ⟨G1, 0, none⟩) x.nf := by rw [HXF.out]; exact Src.two hrow11 (by omega)
                  have hv9 : SrcP w9 (fun b => b ≠ g) (some ⟨G2, 0, none⟩) x.nv := by
                    rw [HXV.out]
                    intro hn
                    obtain ⟨b, o, e, _, hc⟩ := Src.one (t := 3) (fr := (0, 0)) hrow9 hsz9 hn
                    injection e with e
                    injection e with e1 e2
                    exact ⟨b, o, by rw [e1, e2], by omega, hc⟩
                  obtain ⟨A1, N2, hVF, hA1, hN2⟩ : ∃ (A1 : Option Addr) (N2 : Nat), Value.slice (some ⟨G1, 0, none⟩) 2 2 = Value.slice A1 N2 N2 ∧ A1 = some ⟨G1, 0, none⟩ ∧ N2 = 2 := ⟨_, _, rfl, rfl, rfl⟩
                  obtain ⟨A5, N1, hVG, hA5, hN1⟩ : ∃ (A5 : Option Addr) (N1 : Nat), Value.slice (some ⟨G2, 0, none⟩) 1 1 = Value.slice A5 N1 N1 ∧ A5 = some ⟨G2, 0, none⟩ ∧ N1 = 1 := ⟨_, _, rfl, rfl, rfl⟩
                  rw [hVF, hVG]
                  rw [← hA1] at hf9
                  rw [← hA5] at hv9
                  have hxf := HXF.out
                  have hxv := HXV.out
                  clear hrow9 hrow11
                  have HF9 := Lib.hid hf9
                  have HV9 := Lib.hid hv9
                  have HB9 := Lib.hid hb9
                  have HM9 := Lib.hid hm9
                  have HIN := Lib.hid (fun (k : Nat) (f : Int) (hf : x.nf[k]? = some f) => show 0 ≤ f ∧ f / 2 ≤ n.vars ∧ f / 2 ∈ there n (D.take i) from by
                    obtain ⟨h0, h1, h2⟩ := HFI.out i x HX.out f (mem_of_some hf)
                    refine ⟨h0, h1, ?_⟩
                    unfold there
                    rcases h2 with h2 | h2 | h2 | ⟨y, hy, h2⟩
                    · rw [h2]; simp
                    · exact List.mem_append_left _ (List.mem_append_left _ (List.mem_append_right _ h2))
                    · exact List.mem_append_left _ (List.mem_append_right _ h2)
                    · exact List.mem_append_right _ (List.mem_flatMap.2 ⟨y, hy, h2⟩))
                  have HVR := Lib.hid (HG.out.vars x (HME.out x (mem_of_some HX.out)))
                  have HLF := Lib.hid (show x.nf.length = N2 from by rw [hxf, hN2]; rfl)
                  have HLV := Lib.hid (show x.nv.length = N1 from by rw [hxv, hN1]; rfl)
                  have hlf1 : N2 ≤ 1000 := by rw [← HLF.out]; exact (HG.out.lens x (HME.out x (mem_of_some HX.out))).1
                  have hlv1 : N1 ≤ 1000 := by rw [← HLV.out]; exact (HG.out.lens x (HME.out x (mem_of_some HX.out))).2
                  clear hf9 hv9 hb9 hm9 hVF hVG hA1 hA5 hN1 hN2 hxf hxv hsz9 hsz10 hg8 hg10
                  clear HT HAN HXF HXV
                  go_loopg [11] (N2) (fun m s11 wx => ∃ k : Nat, k + m = N2 ∧ s11 = .int .i64 k ∧ w9 = wx)
                  case atStart => exact ⟨0, by omega, rfl, rfl⟩
                  case round =>
                    obtain ⟨k, hk, rfl, rfl⟩ := hrel
                    generalize gk = m2 at *
                    by_cases hkl : k < N2
                    · as_aux_lemma =>
                        obtain ⟨f, hfx⟩ := some_of_lt (show k < x.nf.length by rw [HLF.out]; exact hkl)
                        have hklI : (k : Int) < ((N2 : Nat) : Int) := by omega
                        have hk0 : (0 : Int) ≤ (k : Int) := by omega
                        obtain ⟨bf, of, hSf, hbf, hcf⟩ := HF9.out.at hfx
                        have hc := hcf k f hfx
                        obtain ⟨hf0, hf1, hf2⟩ := HIN.out k f hfx
                        have hfd : 0 ≤ f / 2 := by omega
                        have hfe : f / 2 < n.vars + 1 := by omega
                        have hcur := HM9.out.look (v := f / 2) hfd (by omega)
                        rw [show decide (f / 2 ∈ there n (D.take i)) = true by simp [hf2]] at hcur
                        cases hSf
                        try simp only [Nat.zero_add] at hc
                        clear hcf hfx hf2
                        go_wp2_with (go_at_call 20; refine (rvar6_any _ (by omega) (by omega) _).mono ?_; rintro e w' ⟨rfl, rfl⟩)
                        go_roundg (m2 - 1)
                        case measure => omega
                        case rel => exact ⟨k + 1, by omega, by first | rfl | simp, rfl⟩
                    · as_aux_lemma =>
                        have hkn : ¬ ((k : Int) < ((N2 : Nat) : Int)) := by omega
                        go_wp2_with fail
                        go_loopg [12] (N1) (fun m s12 wx => ∃ k : Nat, k + m = N1 ∧ s12 = .int .i64 k ∧ Below g w6 wx ∧ Marked wx g (V + 1) (there n (D.take i) ++ x.nv.take k) ∧ SrcP wx (fun b => b ≠ g) A5 x.nv)
                        case atStart => exact ⟨0, by omega, rfl, HB9.out, HM9.out.cast (by simp), HV9.out⟩
                        case round =>
                          obtain ⟨k2, hk2, rfl, hbx, hmx, hsx⟩ := hrel
                          generalize gk = m3 at *
                          by_cases hkl2 : k2 < N1
                          · obtain ⟨v, hvx⟩ := some_of_lt (show k2 < x.nv.length by rw [HLV.out]; exact hkl2)
                            have hklI2 : (k2 : Int) < ((N1 : Nat) : Int) := by omega
                            have hk20 : (0 : Int) ≤ (k2 : Int) := by omega
                            obtain ⟨bv, ov, hSv, hbv, hcv⟩ := hsx (by rintro e; rw [e] at hvx; simp at hvx)
                            have hc := hcv k2 v hvx
                            obtain ⟨hx1, hx2⟩ := HVR.out v (mem_of_some hvx)
                            have hv0' : 0 ≤ v := by omega
                            have hv3 : v < n.vars + 1 := by omega
                            have hcur := hmx.look (v := v) hv0' (by omega)
                            have hfree := hmx.free v.toNat
                            have HS := Lib.hid (And.intro (hbx.setCell (p := ⟨g, v.toNat, none⟩) (Nat.le_refl _) (.bool true)) (And.intro ((hmx.put (v := v) hv0' (by omega)).cast (show there n (D.take i) ++ x.nv.take k2 ++ [v] = there n (D.take i) ++ x.nv.take (k2 + 1) by rw [take_some hvx, List.append_assoc])) (hsx.keep (w' := wr.setCell ⟨g, v.toNat, none⟩ (.bool true)) fun b hb => heap_setCell_other wr ⟨g, v.toNat, none⟩ b _ hb)))
                            cases hSv
                            try simp only [Nat.zero_add] at hc
                            clear hcv hvx hbx hmx hsx
                            go_wp2
                            go_roundg (m3 - 1)
                            case measure => omega
                            case rel => exact ⟨k2 + 1, by omega, by first | rfl | simp, HS.out.1, HS.out.2.1, HS.out.2.2⟩
                          · have hkn2 : ¬ ((k2 : Int) < ((N1 : Nat) : Int)) := by omega
                            have HMM := Lib.hid (hmx.cast (show there n (D.take i) ++ x.nv.take k2 = there n (D.take (i + 1)) by rw [show x.nv.take k2 = x.nv from List.take_of_length_le (by rw [HLV.out]; omega), take_some HX.out]; simp [there]))
                            have HBB := Lib.hid hbx
                            clear hmx hbx hsx
                            go_wp2
                            go_roundg (m - 1)
                            case measure => omega
                            case rel => exact ⟨i + 1, by omega, by first | rfl | simp, HBB.out, HMM.out⟩
              · as_aux_lemma =>
                  rw [hr] at t0
                  rw [hna] at t2
                  rw [hnm] at t1
                  obtain ⟨bm, om, hSm, hbm, hcm⟩ := HN.out.mems.at hmt
                  obtain ⟨am, c, a2, c2, p0, p1, p2, p3, p4, hPo⟩ := hcm t mm hmt
                  obtain ⟨br, orr, hSr, hbr, hcr⟩ := hPo.1.at hrj
                  subst hSr
                  obtain ⟨ar, cr, r0, r1, hsr, _⟩ := hcr j r hrj
                  have HPC := Lib.hid (fun (W : World) (hW : Below g w6 W) => show (W.cell? ⟨w.heap.size, 6, none⟩ = some (.slice (some ⟨bm, om, none⟩) n.mems.length S.mc) ∧ W.cell? ⟨bm, om + t * 5, none⟩ = some (.int .i64 mm.ma) ∧ W.cell? ⟨bm, om + t * 5 + 1, none⟩ = some (.int .i64 mm.mw) ∧ W.cell? ⟨bm, om + t * 5 + 2, none⟩ = some (.bool mm.mn) ∧ W.cell? ⟨bm, om + t * 5 + 3, none⟩ = some (.slice (some ⟨br, orr, none⟩) mm.mr.length c) ∧ W.cell? ⟨bm, om + t * 5 + 4, none⟩ = some (.slice a2 mm.mx.length c2) ∧ W.cell? ⟨br, orr + j * 2 + 1, none⟩ = some (.slice ar r.ra.length cr) ∧ W.cell? ⟨b, o + i * 3 + 1, none⟩ = some (.int .i64 t) ∧ W.cell? ⟨b, o + i * 3 + 2, none⟩ = some (.int .i64 j)) ∧ Hid (Below g w6 W) from by
                    have hB := HB6.out.trans (hW.mono HGE.out)
                    obtain ⟨t0, t1, t2⟩ := HT.out W hW
                    rw [hnm] at t1
                    rw [hna] at t2
                    exact ⟨⟨by rw [← hSm]; exact (HK.out _ hB).n6, (hB.cell (p := ⟨bm, om + t * 5, none⟩) hbm).trans p0, (hB.cell (p := ⟨bm, om + t * 5 + 1, none⟩) hbm).trans p1, (hB.cell (p := ⟨bm, om + t * 5 + 2, none⟩) hbm).trans p2, (hB.cell (p := ⟨bm, om + t * 5 + 3, none⟩) hbm).trans p3, (hB.cell (p := ⟨bm, om + t * 5 + 4, none⟩) hbm).trans p4, (hB.cell (p := ⟨br, orr + j * 2 + 1, none⟩) hbr).trans r1, t1, t2⟩, Lib.hid hW⟩)
                  have HSR := Lib.hid (fun (W : World) (hW : Below g w6 W) => hsr.below (HB6.out.trans (hW.mono HGE.out)) (Nat.le_refl _))
                  have hG6 := HM6.out.lt
                  have HPO := Lib.hid (fun (W : World) (hW : Below g w6 W) => Ports.wider (Nat.le_trans HB6.out.size hW.size) (Ports.below (HB6.out.trans (hW.mono HGE.out)) (Nat.le_refl _) hPo))
                  have hmm := mem_of_some hmt
                  have hfit := HF.out mm hmm
                  have htold := told_of HNE.out HF.out mm hmm
                  have hml := (HMO.out.ports mm hmm).1
                  have HDA := Lib.hid (fun (W : World) (hW : (W.cell? ⟨w.heap.size, 6, none⟩ = some (.slice (some ⟨bm, om, none⟩) n.mems.length S.mc) ∧ W.cell? ⟨bm, om + t * 5, none⟩ = some (.int .i64 mm.ma) ∧ W.cell? ⟨bm, om + t * 5 + 1, none⟩ = some (.int .i64 mm.mw) ∧ W.cell? ⟨bm, om + t * 5 + 2, none⟩ = some (.bool mm.mn) ∧ W.cell? ⟨bm, om + t * 5 + 3, none⟩ = some (.slice (some ⟨br, orr, none⟩) mm.mr.length c) ∧ W.cell? ⟨bm, om + t * 5 + 4, none⟩ = some (.slice a2 mm.mx.length c2) ∧ W.cell? ⟨br, orr + j * 2 + 1, none⟩ = some (.slice ar r.ra.length cr) ∧ W.cell? ⟨b, o + i * 3 + 1, none⟩ = some (.int .i64 t) ∧ W.cell? ⟨b, o + i * 3 + 2, none⟩ = some (.int .i64 j)) ∧ Hid (Below g w6 W)) => rdata_any mm (some ⟨br, orr, none⟩) c a2 c2 j r W (HPO.out W hW.2.out) hrj hml (by have := htold.1; have := htold.2.1; omega) (htold.2.2 r (mem_of_some hrj)))
                  have hj0 : (0 : Int) ≤ (j : Int) := by omega
                  have hjl : (j : Int) < (mm.mr.length : Int) := by have := lt_of_some hrj; omega
                  have ht0 : (0 : Int) ≤ (t : Int) := by omega
                  have htl : (t : Int) < (n.mems.length : Int) := by have := lt_of_some hmt; omega
                  have HXF := Lib.hid hxf
                  have HXV := Lib.hid hxv
                  have HSS := Lib.hid fun (W V : World) (hW : (W.cell? ⟨w.heap.size, 6, none⟩ = some (.slice (some ⟨bm, om, none⟩) n.mems.length S.mc) ∧ W.cell? ⟨bm, om + t * 5, none⟩ = some (.int .i64 mm.ma) ∧ W.cell? ⟨bm, om + t * 5 + 1, none⟩ = some (.int .i64 mm.mw) ∧ W.cell? ⟨bm, om + t * 5 + 2, none⟩ = some (.bool mm.mn) ∧ W.cell? ⟨bm, om + t * 5 + 3, none⟩ = some (.slice (some ⟨br, orr, none⟩) mm.mr.length c) ∧ W.cell? ⟨bm, om + t * 5 + 4, none⟩ = some (.slice a2 mm.mx.length c2) ∧ W.cell? ⟨br, orr + j * 2 + 1, none⟩ = some (.slice ar r.ra.length cr) ∧ W.cell? ⟨b, o + i * 3 + 1, none⟩ = some (.int .i64 t) ∧ W.cell? ⟨b, o + i * 3 + 2, none⟩ = some (.int .i64 j)) ∧ Hid (Below g w6 W)) (hV : Below W.heap.size W V) => HPC.out V (hW.2.out.trans (hV.mono (Nat.le_trans (Nat.le_of_lt hG6) hW.2.out.size)))
                  clear hcm hx hmt hrj hxf hxv hSm hcr hPo hsr htold hfit p0 p1 p2 p3 p4 r0 r1
                  go_wp2
                  have hab := ((Below.refl _ wr).alloc (Nat.le_refl _) (.cells #[] 3)).alloc (show wr.heap.size ≤ (wr.alloc (.cells #[] 3)).heap.size by simp) (.cells #[] 3)
                  generalize (wr.alloc (.cells #[] 3)).alloc (.cells #[] 3) = w8 at hab ⊢
                  have hb8 := hbx.trans (hab.mono (Nat.le_of_lt hgl))
                  have hm8 := hmx.same (hab.block g hgl)
                  have hg8 := hm8.lt
                  clear hab hbx hmx hBx e0 e1 e2 e3 e4 e5 e6 e7 e8 t0 t1 t2 hbl
                  obtain ⟨⟨e6, p0, p1, p2, p3, p4, r1, t1, t2⟩, _⟩ := HPC.out _ hb8
                  have HM8 := Lib.hid hm8
                  have HB8 := Lib.hid hb8
                  clear hm8 hb8
                  go_quiet (fail)
                  go_wp2_with fail
                  have hb13 := below_drewN HB8.out nq
                  have hm13 : Marked (w8.drewN nq) g (V + 1) (there n (D.take i)) := HM8.out.same rfl
                  clear e6 p0 p1 p2 p3 p4 r1 t1 t2 HM8 HB8 hg8
                  generalize w8.drewN nq = w13 at hb13 hm13 ⊢
                  have hg13 := hm13.lt
                  obtain ⟨⟨e6, p0, p1, p2, p3, p4, r1, t1, t2⟩, _⟩ := HPC.out _ hb13
                  have HM13 := Lib.hid hm13
                  have HB13 := Lib.hid hb13
                  clear hm13 hb13
                  go_region_held3 (fun W => (W.cell? ⟨w.heap.size, 6, none⟩ = some (.slice (some ⟨bm, om, none⟩) n.mems.length S.mc) ∧ W.cell? ⟨bm, om + t * 5, none⟩ = some (.int .i64 mm.ma) ∧ W.cell? ⟨bm, om + t * 5 + 1, none⟩ = some (.int .i64 mm.mw) ∧ W.cell? ⟨bm, om + t * 5 + 2, none⟩ = some (.bool mm.mn) ∧ W.cell? ⟨bm, om + t * 5 + 3, none⟩ = some (.slice (some ⟨br, orr, none⟩) mm.mr.length c) ∧ W.cell? ⟨bm, om + t * 5 + 4, none⟩ = some (.slice a2 mm.mx.length c2) ∧ W.cell? ⟨br, orr + j * 2 + 1, none⟩ = some (.slice ar r.ra.length cr) ∧ W.cell? ⟨b, o + i * 3 + 1, none⟩ = some (.int .i64 t) ∧ W.cell? ⟨b, o + i * 3 + 2, none⟩ = some (.int .i64 j)) ∧ Hid (Below g w6 W)) (first | exact HPC.out _ HB13.out.drew | exact HPC.out _ HB13.out | exact HSS.out _ _ (by assumption) (by assumption))
                    (first
                      | (go_at_call 19; refine (HDA.out _ (by assumption)).mono ?_; rintro e w5 ⟨v5, rfl, hO5⟩; obtain ⟨A5, c5, rfl, hH5⟩ := hO5.high (Nat.le_refl _); have hb5 := hO5.2.1; have hs5 := Src.of_own hO5.1)
                      | fail)
                  all_goals
                    go_wp2_with fail
                    have hb9 : Below g w6 w5 := HB13.out.drew.trans (hb5.mono (Nat.le_of_lt hg13))
                    have hm9 : Marked w5 g (V + 1) (there n (D.take i)) := HM13.out.same (hb5.block g hg13)
                    have hf9 : Src w5 w5.heap.size ar x.nf := by rw [HXF.out]; exact (HSR.out w5 hb9).wider (Nat.le_trans HB6.out.size hb9.size)
                    have hv9 : SrcP w5 (fun b => b ≠ g) A5 x.nv := by
                      rw [HXV.out]
                      intro hn
                      obtain ⟨b, o, e, h1, hc⟩ := hH5 hn
                      exact ⟨b, o, e, by have : w13.heap.size ≤ b := h1; omega, hc⟩
                    have hxf := HXF.out
                    have hxv := HXV.out
                    clear hO5 hb5 hH5 hs5 e6 p0 p1 p2 p3 p4 r1 t1 t2
                    have HF9 := Lib.hid hf9
                    have HV9 := Lib.hid hv9
                    have HB9 := Lib.hid hb9
                    have HM9 := Lib.hid hm9
                    have HIN := Lib.hid (fun (k : Nat) (f : Int) (hf : x.nf[k]? = some f) => show 0 ≤ f ∧ f / 2 ≤ n.vars ∧ f / 2 ∈ there n (D.take i) from by
                      obtain ⟨h0, h1, h2⟩ := HFI.out i x HX.out f (mem_of_some hf)
                      refine ⟨h0, h1, ?_⟩
                      unfold there
                      rcases h2 with h2 | h2 | h2 | ⟨y, hy, h2⟩
                      · rw [h2]; simp
                      · exact List.mem_append_left _ (List.mem_append_left _ (List.mem_append_right _ h2))
                      · exact List.mem_append_left _ (List.mem_append_right _ h2)
                      · exact List.mem_append_right _ (List.mem_flatMap.2 ⟨y, hy, h2⟩))
                    have HVR := Lib.hid (HG.out.vars x (HME.out x (mem_of_some HX.out)))
                    have HLF := Lib.hid (show x.nf.length = r.ra.length from by rw [hxf])
                    have HLV := Lib.hid (show x.nv.length = (dataL r.rv mm.mw).length from by rw [hxv])
                    have hlf1 : r.ra.length ≤ 1000 := by rw [← HLF.out]; exact (HG.out.lens x (HME.out x (mem_of_some HX.out))).1
                    have hlv1 : (dataL r.rv mm.mw).length ≤ 1000 := by rw [← HLV.out]; exact (HG.out.lens x (HME.out x (mem_of_some HX.out))).2
                    clear hf9 hv9 hb9 hm9
                    go_wp2
                    go_loopg [11] (r.ra.length) (fun m s11 wx => ∃ k : Nat, k + m = r.ra.length ∧ s11 = .int .i64 k ∧ w5 = wx)
                    case atStart => exact ⟨0, by omega, rfl, rfl⟩
                    case round =>
                      obtain ⟨k, hk, rfl, rfl⟩ := hrel
                      generalize gk = m2 at *
                      by_cases hkl : k < r.ra.length
                      · as_aux_lemma =>
                          obtain ⟨f, hfx⟩ := some_of_lt (show k < x.nf.length by rw [HLF.out]; exact hkl)
                          have hklI : (k : Int) < ((r.ra.length : Nat) : Int) := by omega
                          have hk0 : (0 : Int) ≤ (k : Int) := by omega
                          obtain ⟨bf, of, hSf, hbf, hcf⟩ := HF9.out.at hfx
                          have hc := hcf k f hfx
                          obtain ⟨hf0, hf1, hf2⟩ := HIN.out k f hfx
                          have hfd : 0 ≤ f / 2 := by omega
                          have hfe : f / 2 < n.vars + 1 := by omega
                          have hcur := HM9.out.look (v := f / 2) hfd (by omega)
                          rw [show decide (f / 2 ∈ there n (D.take i)) = true by simp [hf2]] at hcur
                          cases hSf
                          try simp only [Nat.zero_add] at hc
                          clear hcf hfx hf2
                          go_wp2_with (go_at_call 20; refine (rvar6_any _ (by omega) (by omega) _).mono ?_; rintro e w' ⟨rfl, rfl⟩)
                          go_roundg (m2 - 1)
                          case measure => omega
                          case rel => exact ⟨k + 1, by omega, by first | rfl | simp, rfl⟩
                      · as_aux_lemma =>
                          have hkn : ¬ ((k : Int) < ((r.ra.length : Nat) : Int)) := by omega
                          go_wp2
                          go_loopg [12] ((dataL r.rv mm.mw).length) (fun m s12 wx => ∃ k : Nat, k + m = (dataL r.rv mm.mw).length ∧ s12 = .int .i64 k ∧ Below g w6 wx ∧ Marked wx g (V + 1) (there n (D.take i) ++ x.nv.take k) ∧ SrcP wx (fun b => b ≠ g) A5 x.nv)
                          case atStart => exact ⟨0, by omega, rfl, HB9.out, HM9.out.cast (by simp), HV9.out⟩
                          case round =>
                            obtain ⟨k2, hk2, rfl, hbx, hmx, hsx⟩ := hrel
                            generalize gk = m3 at *
                            by_cases hkl2 : k2 < (dataL r.rv mm.mw).length
                            · obtain ⟨v, hvx⟩ := some_of_lt (show k2 < x.nv.length by rw [HLV.out]; exact hkl2)
                              have hklI2 : (k2 : Int) < (((dataL r.rv mm.mw).length : Nat) : Int) := by omega
                              have hk20 : (0 : Int) ≤ (k2 : Int) := by omega
                              obtain ⟨bv, ov, hSv, hbv, hcv⟩ := hsx (by rintro e; rw [e] at hvx; simp at hvx)
                              have hc := hcv k2 v hvx
                              obtain ⟨hx1, hx2⟩ := HVR.out v (mem_of_some hvx)
                              have hv0' : 0 ≤ v := by omega
                              have hv3 : v < n.vars + 1 := by omega
                              have hcur := hmx.look (v := v) hv0' (by omega)
                              have hfree := hmx.free v.toNat
                              have HS := Lib.hid (And.intro (hbx.setCell (p := ⟨g, v.toNat, none⟩) (Nat.le_refl _) (.bool true)) (And.intro ((hmx.put (v := v) hv0' (by omega)).cast (show there n (D.take i) ++ x.nv.take k2 ++ [v] = there n (D.take i) ++ x.nv.take (k2 + 1) by rw [take_some hvx, List.append_assoc])) (hsx.keep (w' := wr.setCell ⟨g, v.toNat, none⟩ (.bool true)) fun b hb => heap_setCell_other wr ⟨g, v.toNat, none⟩ b _ hb)))
                              cases hSv
                              try simp only [Nat.zero_add] at hc
                              clear hcv hvx hbx hmx hsx
                              go_wp2
                              go_roundg (m3 - 1)
                              case measure => omega
                              case rel => exact ⟨k2 + 1, by omega, by first | rfl | simp, HS.out.1, HS.out.2.1, HS.out.2.2⟩
                            · have hkn2 : ¬ ((k2 : Int) < (((dataL r.rv mm.mw).length : Nat) : Int)) := by omega
                              have HMM := Lib.hid (hmx.cast (show there n (D.take i) ++ x.nv.take k2 = there n (D.take (i + 1)) by rw [show x.nv.take k2 = x.nv from List.take_of_length_le (by rw [HLV.out]; omega), take_some HX.out]; simp [there]))
                              have HBB := Lib.hid hbx
                              clear hmx hbx hsx
                              go_wp2
                              go_roundg (m - 1)
                              case measure => omega
                              case rel => exact ⟨i + 1, by omega, by first | rfl | simp, HBB.out, HMM.out⟩
            · have hltn : ¬ ((i : Int) < (D.length : Int)) := by omega
              have HB8 := Lib.hid hBx
              clear hmx hbx hBx
              go_wp2_with (first | (go_at_call 8; refine (HA.out _).mono ?_; rintro e w8 ⟨rfl, hb8⟩))
              go_ret
              exact ⟨rfl, below_on HB.out (below_on HB8.out hb8)⟩
set_option maxRecDepth 100000 in
set_option maxHeartbeats 4000000 in
theorem walk_wrong (ha : ∀ W, Calls Try.prog 8 #[] W fun e w' => e = .returned (.bool true) ∧ Below W.heap.size W w') (n : PNet) (S : NetS) (w : World) (h : NetAt w w.heap.size S n) (hf : n.fits) (hl : n.light6 = true) (hc : ¬ n.check = 0) :
    Calls Try.prog 6 #[netV n S] w fun e w' => e = .returned (.bool true) ∧ Below w.heap.size w w' := by
  have hbx := below_box w #[.int .i64 n.vars, .slice S.i n.inputs.length S.ic, .slice S.l n.latches.length S.lc, .slice S.o n.outs.length S.oc, .slice S.b n.bads.length S.bc, .slice S.c n.cons.length S.cc, .slice S.m n.mems.length S.mc, .slice S.a n.ands.length S.ac] 27
  have hM := netBox_new w n S 27
  have hN := NetAt.later h hbx (by simp)
  have hli := light6_any n S _ hN
  rw [hl] at hli
  have HK := Lib.hid fun (W : World) (hW : Below (w.alloc (.cells #[.int .i64 n.vars, .slice S.i n.inputs.length S.ic, .slice S.l n.latches.length S.lc, .slice S.o n.outs.length S.oc, .slice S.b n.bads.length S.bc, .slice S.c n.cons.length S.cc, .slice S.m n.mems.length S.mc, .slice S.a n.ands.length S.ac] 27)).heap.size (w.alloc (.cells #[.int .i64 n.vars, .slice S.i n.inputs.length S.ic, .slice S.l n.latches.length S.lc, .slice S.o n.outs.length S.oc, .slice S.b n.bads.length S.bc, .slice S.c n.cons.length S.cc, .slice S.m n.mems.length S.mc, .slice S.a n.ands.length S.ac] 27)) W) => hM.below hW hM.lt
  have HQ1 := Lib.hid fun (W : World) (hW : Below (w.alloc (.cells #[.int .i64 n.vars, .slice S.i n.inputs.length S.ic, .slice S.l n.latches.length S.lc, .slice S.o n.outs.length S.oc, .slice S.b n.bads.length S.bc, .slice S.c n.cons.length S.cc, .slice S.m n.mems.length S.mc, .slice S.a n.ands.length S.ac] 27)).heap.size (w.alloc (.cells #[.int .i64 n.vars, .slice S.i n.inputs.length S.ic, .slice S.l n.latches.length S.lc, .slice S.o n.outs.length S.oc, .slice S.b n.bads.length S.bc, .slice S.c n.cons.length S.cc, .slice S.m n.mems.length S.mc, .slice S.a n.ands.length S.ac] 27)) W) => check_any n S W (NetAt.later hN hW hW.size) hf (fits_light6 hl).1 (fits_light6 hl).2.1 (fits_light6 hl).2.2
  have hz : (n.check != 0) = true := by simp [hc]
  unfold netV
  have HL := Lib.hid hli
  have HA := Lib.hid ha
  have HB := Lib.hid hbx
  obtain ⟨e0, e1, e2, e3, e4, e5, e6, e7, e8⟩ := hM
  clear hli ha hbx h hN hf hl hc
  go_enter Try.func6, Try.ntmps6
  go_wp2_with (first
    | (go_at_call 7; refine HL.out.mono ?_; rintro e w2 ⟨rfl, hb2⟩; obtain ⟨e0, e1, e2, e3, e4, e5, e6, e7, e8⟩ := HK.out w2 hb2)
    | (go_at_call 9; refine (HQ1.out w2 hb2).mono ?_; rintro e w3 ⟨rfl, hb3⟩)
    | (go_at_call 8; refine (HA.out _).mono ?_; rintro e w4 ⟨rfl, hb4⟩))
  go_ret
  exact ⟨rfl, below_on HB.out (below_on hb2 (below_on hb3 hb4))⟩
set_option maxRecDepth 100000 in
set_option maxHeartbeats 4000000 in
theorem walk_heavy (ha : ∀ W, Calls Try.prog 8 #[] W fun e w' => e = .returned (.bool true) ∧ Below W.heap.size W w') (n : PNet) (S : NetS) (w : World) (h : NetAt w w.heap.size S n) (hl : n.light6 = false) :
    Calls Try.prog 6 #[netV n S] w fun e w' => e = .returned (.bool true) ∧ Below w.heap.size w w' := by
  have hbx := below_box w #[.int .i64 n.vars, .slice S.i n.inputs.length S.ic, .slice S.l n.latches.length S.lc, .slice S.o n.outs.length S.oc, .slice S.b n.bads.length S.bc, .slice S.c n.cons.length S.cc, .slice S.m n.mems.length S.mc, .slice S.a n.ands.length S.ac] 27
  have hli := light6_any n S _ (NetAt.later h hbx (by simp))
  rw [hl] at hli
  unfold netV
  have HL := Lib.hid hli
  have HA := Lib.hid ha
  have HB := Lib.hid hbx
  clear hli ha hbx h
  go_enter Try.func6, Try.ntmps6
  go_wp2_with (first | (go_at_call 7; refine HL.out.mono ?_; rintro e w2 ⟨rfl, hb2⟩) | (go_at_call 8; refine (HA.out _).mono ?_; rintro e w3 ⟨rfl, hb3⟩))
  go_ret
  exact ⟨rfl, below_on HB.out (below_on hb2 hb3)⟩
set_option maxRecDepth 100000 in
theorem lifted (os : Os) (started : os.Started) (H : Type) (enc : TypeId × Value → H) :
    ReturnsInHanded {} Try.checked os 6 .any (Rows.topoFirstSpec.pre6 enc Try.prog Try.f6 Rows.topoFirstRow.domain false) (Rows.topoFirstSpec.post enc Try.prog Try.f6 false true false false) := by
  refine returnsInHanded_of_change (C := Try.checked) own started (by kernel_rfl) Try.func6
    (ChangeSpec.witness6 (enc := enc) (C := Try.checked) false ⟨#[], #[.agg #[.int .i64 0, .slice none 0 0, .slice none 0 0, .slice none 0 0, .slice none 0 0, .slice none 0 0, .slice none 0 0, .slice none 0 0]], []⟩ 8 (by kernel_rfl) (by kernel_rfl) (by kernel_rfl) (by kernel_rfl)) ?_
  intro W base args ds gs before hval0 hW hcnd _
  have hval : ∀ (j : Nat) t v, Try.f6.params[j]? = some t → args[j]? = some v → Value.okWide Try.prog W .any base t v := hval0
  have hW' := hW
  obtain ⟨p, q, hA0, hV, rfl, hfz, hnd⟩ := hW
  have hA : DataW.TrodAll enc Try.prog W 0 (fun _ => true) true Try.f6.params.toList args.toList ds p := hA0
  rw [Try.params6] at hA hval
  have hAk := hA
  obtain ⟨v0, vs0, d0, ds0, p0, q0, hargs, rfl, rfl, h0, r0⟩ := trodAll_cons hA
  obtain ⟨rfl, rfl, rfl⟩ := trodAll_nil r0
  obtain rfl : args = #[v0] := by cases args; simp_all
  obtain ⟨rfl, rfl⟩ := trodVars_none hV
  obtain ⟨n0, S0, rfl, hn0, hf0⟩ := open_net (hval 0 27 v0 rfl rfl) h0
  clear hA0 hval0
  simp only [List.append_nil] at hW' hAk
  have go : ∀ e W', (e = Ending.returned (.bool true) ∧ Below W.heap.size W W') → ∃ v, e = Ending.returned v ∧ Rows.topoFirstSpec.post enc Try.checked.prog Try.f6 false true false false W #[netV n0 S0] v W' :=
    fun e W' ⟨he, hb⟩ => ⟨_, he, _, _, _, [], _, [], hW', trodAll_cons_mk (shut_bool Try.underlying4 _) trodAll_mk0, all_stay Try.laidOut [27] (by kernel_rfl) hb _ _ _ hAk (fun x hx => hW'.lt x hx), rfl, hb.frame _, fun h => by cases h⟩
  cases hl : n0.light6 with
  | true =>
    by_cases hc : n0.check = 0
    · exact (walk_right alive6_any n0 S0 W hn0 hf0 hl hc).mono go
    · exact (walk_wrong alive6_any n0 S0 W hn0 hf0 hl hc).mono go
  | false => exact (walk_heavy alive6_any n0 S0 W hn0 hl).mono go

theorem over : Rows.topoFirstRow.holds Try.pinned (OpenSpec.ofChange Rows.topoFirstSpec) :=
  OpenClaim.holds_of_wide 6 Try.f6 rfl rfl rfl rfl rfl rfl rfl ⟨rfl, rfl, rfl, rfl, rfl⟩ rfl rfl rfl rfl rfl (by kernel_rfl) Try.func6 (by kernel_rfl)
    (of_decide_eq_true (by kernel_rfl)) (by unfold Func.isWrapper; first | (rw [if_pos (by decide +kernel)]; kernel_rfl) | (rw [if_neg (by decide +kernel)]; exact ⟨rfl, rfl⟩))
    (fun os started H enc _ => lifted os started H enc)

theorem proved : Rows.TopoFirstSaid :=
  over
#print axioms proved
end Go.Proofs.Ytchnpooijaalnaa.topoFirst
