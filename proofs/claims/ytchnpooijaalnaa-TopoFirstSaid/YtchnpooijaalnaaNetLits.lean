/- The list of a netlist's literals by the program (conditions: the netlist lies where its value says; at most 1000000 of them). -/
import Derived.Test.YtchnpooijaalnaaPutC
import Derived.Test.YtchnpooijaalnaaRefLists
namespace Go.Proofs.Ytchnpooijaalnaa
open Go.ChangeShapes Go.WideShapes Go.RowKit
set_option linter.unusedVariables false

set_option maxRecDepth 100000 in
set_option maxHeartbeats 4000000 in
theorem literals_any (n : PNet) (S : NetS) (w : World) (h : NetAt w w.heap.size S n) (hm : n.modest) (hd : n.lits.length ≤ 1000000) :
    Calls Try.prog 44 #[.agg #[.int .i64 n.vars, .slice S.i n.inputs.length S.ic, .slice S.l n.latches.length S.lc, .slice S.o n.outs.length S.oc, .slice S.b n.bads.length S.bc, .slice S.c n.cons.length S.cc, .slice S.m n.mems.length S.mc, .slice S.a n.ands.length S.ac]] w (Left w n.lits) := by
  obtain ⟨sI, cI, sL, cL, sO, cO, sB, cB, sC, cC, sM, cM, sA, cA⟩ := S
  have hbx := below_box w #[.int .i64 n.vars, .slice sI n.inputs.length cI, .slice sL n.latches.length cL, .slice sO n.outs.length cO, .slice sB n.bads.length cB, .slice sC n.cons.length cC, .slice sM n.mems.length cM, .slice sA n.ands.length cA] 27
  have hM := netBox_new w n ⟨sI, cI, sL, cL, sO, cO, sB, cB, sC, cC, sM, cM, sA, cA⟩ 27
  dsimp only at *
  have hN := NetAt.later h hbx (by simp)
  have ho1 := hm.outs
  have hb1 := hm.bads
  have hc1 := hm.cons
  have hl1 := hm.latches
  have hm1 := hm.mems
  have ha1 := hm.ands
  have hp1 := Lib.hid hm.ports
  have eg := enters_of Try.func68 (by kernel_rfl) rfl
  clear h hm
  go_enter Try.func44, Try.ntmps44
  go_wp2
  have hz : w.heap.size + 1 = (w.alloc (.cells #[.int .i64 n.vars, .slice sI n.inputs.length cI, .slice sL n.latches.length cL, .slice sO n.outs.length cO, .slice sB n.bads.length cB, .slice sC n.cons.length cC, .slice sM n.mems.length cM, .slice sA n.ands.length cA] 27)).heap.size := by simp
  rw [hz]
  generalize w.alloc (.cells #[.int .i64 n.vars, .slice sI n.inputs.length cI, .slice sL n.latches.length cL, .slice sO n.outs.length cO, .slice sB n.bads.length cB, .slice sC n.cons.length cC, .slice sM n.mems.length cM, .slice sA n.ands.length cA] 27) = w2 at hN hM hbx hz ⊢
  have HN := Lib.hid (And.intro hN (And.intro hM hbx))
  clear hbx hM hN hz
  have HB := Lib.hid HN.out.2.2
  have hP : PutAt w2.heap.size w2 (w2.alloc (.cells #[.slice none 0 0] 22)) w2.heap.size (.slice none 0 0) [] :=
    ⟨heap_alloc_new w2 _, (Own.nil w2 _ (Nat.le_refl _)).alloc _, by simp [Value.ownBlock], Nat.le_refl _⟩
  generalize w2.alloc (.cells #[.slice none 0 0] 22) = w3 at hP ⊢
  generalize hp : w2.heap.size = p at *
  have HPp := Lib.hid hp
  clear hp
  go_loopg [19] n.latches.length (fun m s19 wx => ∃ (k : Nat) (L : List Int) (v : Value), k + m = n.latches.length ∧ s19 = .int .i64 k ∧ PutAt p w2 wx p v L ∧ Aside (L ++ ((n.latches.drop k).map PLatch.ln ++ (n.outs ++ (n.bads ++ (n.cons ++ (n.mems.flatMap PMem.lits ++ n.ands.flatMap PAnd.lits))))) = n.lits))
  case atStart => exact ⟨0, [], _, by omega, rfl, hP, by simp [Aside, PNet.lits]⟩
  case round =>
    obtain ⟨k, L, v, hk, rfl, hP, HL⟩ := hrel
    generalize gk = m at *
    have hL : L.length ≤ 1000000 := Nat.le_trans (len_of HL.out) hd
    by_cases hlt : k < n.latches.length
    · obtain ⟨x, hx⟩ := some_of_lt hlt
      have hltI : (k : Int) < (n.latches.length : Int) := by omega
      obtain ⟨b, o, hS, hbg, hcell⟩ := HN.out.1.latches.at hx
      dsimp only at hS
      subst hS
      obtain ⟨m0', m1', m2'⟩ := hcell k x hx
      have m0 := (hP.own.2.1.cell (p := ⟨b, o + k * 3, none⟩) hbg).trans m0'
      have m1 := (hP.own.2.1.cell (p := ⟨b, o + k * 3 + 1, none⟩) hbg).trans m1'
      have m2 := (hP.own.2.1.cell (p := ⟨b, o + k * 3 + 2, none⟩) hbg).trans m2'
      have hP2 := hP.alloc (.cells #[.int .i64 x.lv, .int .i64 x.ln, .int .i64 x.li] 50)
      have HX := Lib.hid (show L ++ [x.ln] ++ ((n.latches.drop (k + 1)).map PLatch.ln ++ (n.outs ++ (n.bads ++ (n.cons ++ (n.mems.flatMap PMem.lits ++ n.ands.flatMap PAnd.lits))))) = n.lits by
        rw [← HL.out, drop_some hx]; simp)
      clear hcell hx HL m0' m1' m2'
      go_wp2_with (go_at_call 68; refine (put_one _ _ _ p v L x.ln _ (by simp) hP2 hL).mono ?_; rintro e w4 ⟨v4, rfl, hP4, hst4⟩)
      go_roundg (m - 1)
      case measure => omega
      case rel => exact ⟨k + 1, _, _, by omega, by first | rfl | simp, hP4, HX.out⟩
    · have hltn : ¬ ((k : Int) < (n.latches.length : Int)) := by omega
      have HL2 := Lib.hid (show L ++ n.outs ++ n.bads ++ n.cons ++ (n.mems.flatMap PMem.lits ++ n.ands.flatMap PAnd.lits) = n.lits by
        rw [← HL.out, List.drop_eq_nil_of_le (by omega)]; simp)
      have hL2 : (L ++ n.outs).length ≤ 1000000 := by have := len_of HL2.out; simp at this ⊢; omega
      have hL3 : (L ++ n.outs ++ n.bads).length ≤ 1000000 := by have := len_of HL2.out; simp at this ⊢; omega
      obtain ⟨e0, e1, e2, e3, e4, e5, e6, e7, e8⟩ := HN.out.2.1.below hP.own.2.1 (by rw [← HPp.out]; exact HN.out.2.1.lt)
      dsimp only at e3
      clear e0 e1 e2 e4 e5 e6 e7 e8 HL
      have hs1 := HN.out.1.outs.own hP.own
      have q1 := Lib.hid (put_any p w2 wr p v L sO cO n.outs hP hs1 hL ho1)
      clear hs1
      go_wp2_with fail
      refine q1.out.mono ?_
      rintro e w4 ⟨v4, rfl, hP4, -⟩
      obtain ⟨e0, e1, e2, e3, e4, e5, e6, e7, e8⟩ := HN.out.2.1.below hP4.own.2.1 (by rw [← HPp.out]; exact HN.out.2.1.lt)
      dsimp only at e4
      clear e0 e1 e2 e3 e5 e6 e7 e8 q1 hP
      have hs1 := HN.out.1.bads.own hP4.own
      have q1 := Lib.hid (put_any p w2 w4 p v4 _ sB cB n.bads hP4 hs1 hL2 hb1)
      clear hs1
      go_wp2_with fail
      refine q1.out.mono ?_
      rintro e w5 ⟨v5, rfl, hP5, -⟩
      obtain ⟨e0, e1, e2, e3, e4, e5, e6, e7, e8⟩ := HN.out.2.1.below hP5.own.2.1 (by rw [← HPp.out]; exact HN.out.2.1.lt)
      dsimp only at e5
      clear e0 e1 e2 e3 e4 e6 e7 e8 q1 hP4
      have hs1 := HN.out.1.cons.own hP5.own
      have q1 := Lib.hid (put_any p w2 w5 p v5 _ sC cC n.cons hP5 hs1 hL3 hc1)
      clear hs1
      go_wp2_with fail
      refine q1.out.mono ?_
      rintro e w6 ⟨v6, rfl, hP6, -⟩
      obtain ⟨e0, e1, e2, e3, e4, e5, e6, e7, e8⟩ := HN.out.2.1.below hP6.own.2.1 (by rw [← HPp.out]; exact HN.out.2.1.lt)
      dsimp only at e6
      clear e0 e1 e2 e3 e4 e5 e7 e8 q1 hP5 hL hL2 hL3
      go_wp2_with fail
      clear e6
      go_loopg [44] n.mems.length (fun m s44 wx => ∃ (k : Nat) (L : List Int) (v : Value), k + m = n.mems.length ∧ s44 = .int .i64 k ∧ PutAt p w2 wx p v L ∧ Aside (L ++ ((n.mems.drop k).flatMap PMem.lits ++ n.ands.flatMap PAnd.lits) = n.lits))
      case atStart => exact ⟨0, _, _, by omega, rfl, hP6, HL2.out⟩
      case round =>
        clear hP6 HL2 hltn hk hlt
        obtain ⟨i, L, v, hi, rfl, hP, HL⟩ := hrel
        generalize gk = m2 at *
        have hL : L.length ≤ 1000000 := Nat.le_trans (len_of HL.out) hd
        by_cases hlt : i < n.mems.length
        · obtain ⟨x, hx⟩ := some_of_lt hlt
          have hltI : (i : Int) < (n.mems.length : Int) := by omega
          have HX := Lib.hid hx
          have HL2 := Lib.hid (show L ++ (x.mr.flatMap PRead.ra ++ (x.mx.flatMap PWrite.lits ++ ((n.mems.drop (i + 1)).flatMap PMem.lits ++ n.ands.flatMap PAnd.lits))) = n.lits by
            rw [← HL.out, drop_some hx]; simp [PMem.lits])
          have hxl1 := (hp1.out x (mem_of_some hx)).1
          have hxl2 := (hp1.out x (mem_of_some hx)).2
          obtain ⟨b, o, hS, hbg, hcell⟩ := HN.out.1.mems.at hx
          dsimp only at hS
          subst hS
          obtain ⟨a, c, a2, c2, m0', m1', m2', m3', m4', hPo⟩ := hcell i x hx
          have m0 := (hP.own.2.1.cell (p := ⟨b, o + i * 5, none⟩) hbg).trans m0'
          have m1 := (hP.own.2.1.cell (p := ⟨b, o + i * 5 + 1, none⟩) hbg).trans m1'
          have m2 := (hP.own.2.1.cell (p := ⟨b, o + i * 5 + 2, none⟩) hbg).trans m2'
          have m3 := (hP.own.2.1.cell (p := ⟨b, o + i * 5 + 3, none⟩) hbg).trans m3'
          have m4 := (hP.own.2.1.cell (p := ⟨b, o + i * 5 + 4, none⟩) hbg).trans m4'
          have hH := Held.new hP.own #[.int .i64 x.ma, .int .i64 x.mw, .bool x.mn, .slice a x.mr.length c, .slice a2 x.mx.length c2] 56
          have hPa := hP.alloc (.cells #[.int .i64 x.ma, .int .i64 x.mw, .bool x.mn, .slice a x.mr.length c, .slice a2 x.mx.length c2] 56)
          have hgp : wr.heap.size ≠ p := by have := lt_of_row hP.row; omega
          have HP := Lib.hid hPo
          clear hcell hx HL hPo m0' m1' m2' m3' m4'
          go_wp2_with fail
          clear m0 m1 m2 m3 m4
          generalize wr.alloc (.cells #[.int .i64 x.ma, .int .i64 x.mw, .bool x.mn, .slice a x.mr.length c, .slice a2 x.mx.length c2] 56) = w7 at hH hPa ⊢
          generalize wr.heap.size = gx at hH hgp ⊢
          clear hP
          go_loopg [51] x.mr.length (fun m s51 wx => ∃ (j : Nat) (L : List Int) (v : Value), j + m = x.mr.length ∧ s51 = .int .i64 j ∧ PutAt p w2 wx p v L ∧ Held wx v gx #[.int .i64 x.ma, .int .i64 x.mw, .bool x.mn, .slice a x.mr.length c, .slice a2 x.mx.length c2] 56 ∧ Aside (L ++ ((x.mr.drop j).flatMap PRead.ra ++ (x.mx.flatMap PWrite.lits ++ ((n.mems.drop (i + 1)).flatMap PMem.lits ++ n.ands.flatMap PAnd.lits))) = n.lits))
          case atStart => exact ⟨0, L, _, by omega, rfl, hPa, hH, HL2.out⟩
          case round =>
            clear hPa hH HL2 hL
            obtain ⟨j, L, v, hj, rfl, hP, hH, HL⟩ := hrel
            generalize gk = m3 at *
            have hL : L.length ≤ 1000000 := Nat.le_trans (len_of HL.out) hd
            by_cases hjl : j < x.mr.length
            · obtain ⟨r, hr⟩ := some_of_lt hjl
              have hjlI : (j : Int) < (x.mr.length : Int) := by omega
              obtain ⟨br, orr, hSr, hbr, hcr⟩ := HP.out.1.at hr
              obtain ⟨ar, cr, r0', r1', hsr, hr1, hr2⟩ := hcr j r hr
              have r0 := (hP.own.2.1.cell (p := ⟨br, orr + j * 2, none⟩) hbr).trans r0'
              have r1 := (hP.own.2.1.cell (p := ⟨br, orr + j * 2 + 1, none⟩) hbr).trans r1'
              have HX2 := Lib.hid (show L ++ r.ra ++ ((x.mr.drop (j + 1)).flatMap PRead.ra ++ (x.mx.flatMap PWrite.lits ++ ((n.mems.drop (i + 1)).flatMap PMem.lits ++ n.ands.flatMap PAnd.lits))) = n.lits by
                rw [← HL.out, drop_some hr]; simp)
              have hLr : r.ra.length ≤ 1000000 := by have := len_of HX2.out; simp at this; omega
              have hPb := hP.alloc (.cells #[.int .i64 r.rv, .slice ar r.ra.length cr] 52)
              have q1 := Lib.hid (put_any p w2 _ p v L ar cr r.ra hPb (hsr.own hPb.own) hL hLr)
              have hHb := Lib.hid (hH.alloc (.cells #[.int .i64 r.rv, .slice ar r.ra.length cr] 52))
              subst hSr
              clear hcr hr HL hsr hr1 hr2 r0' r1' hPb hH
              go_wp2_with fail
              refine q1.out.mono ?_
              rintro e w8 ⟨v8, rfl, hP8, hst⟩
              have hH8 := hHb.out.stays hgp hst
              clear hst q1 hP r0 r1
              go_wp2_with fail
              go_roundg (m3 - 1)
              case measure => omega
              case rel => exact ⟨j + 1, _, _, by omega, by first | rfl | simp, hP8, hH8, HX2.out⟩
            · have hjn : ¬ ((j : Int) < (x.mr.length : Int)) := by omega
              have HX2 := Lib.hid (show L ++ (x.mx.flatMap PWrite.lits ++ ((n.mems.drop (i + 1)).flatMap PMem.lits ++ n.ands.flatMap PAnd.lits)) = n.lits by
                rw [← HL.out, List.drop_eq_nil_of_le (show x.mr.length ≤ j by omega)]; simp)
              have e4 : wr.cell? ⟨gx, 4, none⟩ = some (.slice a2 x.mx.length c2) := hH.cell rfl
              clear HL hH
              go_wp2_with fail
              clear e4
              go_loopg [63] x.mx.length (fun m s63 wx => ∃ (j : Nat) (L : List Int) (v : Value), j + m = x.mx.length ∧ s63 = .int .i64 j ∧ PutAt p w2 wx p v L ∧ Aside (L ++ ((x.mx.drop j).flatMap PWrite.lits ++ ((n.mems.drop (i + 1)).flatMap PMem.lits ++ n.ands.flatMap PAnd.lits)) = n.lits))
              case atStart => exact ⟨0, L, v, by omega, rfl, hP, HX2.out⟩
              case round =>
                clear hP HX2 hL hjn hj hjl
                obtain ⟨q, L, v, hq, rfl, hP, HL⟩ := hrel
                generalize gk = m4 at *
                have hL : L.length ≤ 1000000 := Nat.le_trans (len_of HL.out) hd
                by_cases hql : q < x.mx.length
                · obtain ⟨z, hz⟩ := some_of_lt hql
                  have hqlI : (q : Int) < (x.mx.length : Int) := by omega
                  obtain ⟨bz, oz, hSz, hbz, hcz⟩ := HP.out.2.1.at hz
                  obtain ⟨az, cz, az2, cz2, z0', z1', z2', hsz, hsz2, _⟩ := hcz q z hz
                  have z0 := (hP.own.2.1.cell (p := ⟨bz, oz + q * 3, none⟩) hbz).trans z0'
                  have z1 := (hP.own.2.1.cell (p := ⟨bz, oz + q * 3 + 1, none⟩) hbz).trans z1'
                  have z2 := (hP.own.2.1.cell (p := ⟨bz, oz + q * 3 + 2, none⟩) hbz).trans z2'
                  have HX2 := Lib.hid (show L ++ [z.wo] ++ z.wa ++ z.wd ++ ((x.mx.drop (q + 1)).flatMap PWrite.lits ++ ((n.mems.drop (i + 1)).flatMap PMem.lits ++ n.ands.flatMap PAnd.lits)) = n.lits by
                    rw [← HL.out, drop_some hz]; simp [PWrite.lits])
                  have hLa : z.wa.length ≤ 1000000 := by have := len_of HX2.out; simp at this; omega
                  have hLd : z.wd.length ≤ 1000000 := by have := len_of HX2.out; simp at this; omega
                  have hL2 : (L ++ [z.wo]).length ≤ 1000000 := by have := len_of HX2.out; simp at this ⊢; omega
                  have hL3 : (L ++ [z.wo] ++ z.wa).length ≤ 1000000 := by have := len_of HX2.out; simp at this ⊢; omega
                  have hgz : wr.heap.size ≠ p := by have := lt_of_row hP.row; omega
                  have HHz := Lib.hid ((Held.new hP.own #[.int .i64 z.wo, .slice az z.wa.length cz, .slice az2 z.wd.length cz2] 76).alloc (.cells #[.int .i64 z.wo] 3))
                  have q1 := Lib.hid (put_one p w2 _ p v L z.wo (wr.heap.size + 1) (by simp) (hP.alloc (.cells #[.int .i64 z.wo, .slice az z.wa.length cz, .slice az2 z.wd.length cz2] 76)) hL)
                  have HSz := Lib.hid (And.intro hsz hsz2)
                  subst hSz
                  clear hcz hz HL hsz hsz2 hP z0' z1' z2'
                  go_wp2_with fail
                  refine q1.out.mono ?_
                  rintro e w8 ⟨v8, rfl, hP8, hst⟩
                  have hH8 := HHz.out.stays hgz hst
                  generalize wr.heap.size = gz at hH8 hgz ⊢
                  have k1 : w8.cell? ⟨gz, 1, none⟩ = some (.slice az z.wa.length cz) := hH8.cell rfl
                  clear hst q1 z0 z1 z2
                  have q1 := Lib.hid (put_any p w2 w8 p v8 _ az cz z.wa hP8 (HSz.out.1.own hP8.own) hL2 hLa)
                  have HH8 := Lib.hid hH8
                  clear hH8 hP8
                  go_wp2_with fail
                  refine q1.out.mono ?_
                  rintro e w9 ⟨v9, rfl, hP9, hst⟩
                  have k2 : w9.cell? ⟨gz, 2, none⟩ = some (.slice az2 z.wd.length cz2) := (HH8.out.stays hgz hst).cell rfl
                  clear hst q1 k1
                  have q1 := Lib.hid (put_any p w2 w9 p v9 _ az2 cz2 z.wd hP9 (HSz.out.2.own hP9.own) hL3 hLd)
                  clear hP9
                  go_wp2_with fail
                  refine q1.out.mono ?_
                  rintro e w10 ⟨v10, rfl, hP10, -⟩
                  clear q1 k2
                  go_wp2_with fail
                  go_roundg (m4 - 1)
                  case measure => omega
                  case rel => exact ⟨q + 1, _, _, by omega, by first | rfl | simp, hP10, HX2.out⟩
                · have hqn : ¬ ((q : Int) < (x.mx.length : Int)) := by omega
                  have HX2 := Lib.hid (show L ++ ((n.mems.drop (i + 1)).flatMap PMem.lits ++ n.ands.flatMap PAnd.lits) = n.lits by
                    rw [← HL.out, List.drop_eq_nil_of_le (show x.mx.length ≤ q by omega)]; simp)
                  clear HL
                  go_wp2_with fail
                  go_roundg (m2 - 1)
                  case measure => omega
                  case rel => exact ⟨i + 1, _, _, by omega, by first | rfl | simp, hP, HX2.out⟩
        · have hltn : ¬ ((i : Int) < (n.mems.length : Int)) := by omega
          have HL2 := Lib.hid (show L ++ n.ands.flatMap PAnd.lits = n.lits by
            rw [← HL.out, List.drop_eq_nil_of_le (show n.mems.length ≤ i by omega)]; simp)
          obtain ⟨e0, e1, e2, e3, e4, e5, e6, e7, e8⟩ := HN.out.2.1.below hP.own.2.1 (by rw [← HPp.out]; exact HN.out.2.1.lt)
          dsimp only at e7
          clear HL e0 e1 e2 e3 e4 e5 e6 e8
          go_wp2_with fail
          clear e7
          go_loopg [85] n.ands.length (fun m s85 wx => ∃ (k : Nat) (L : List Int) (v : Value), k + m = n.ands.length ∧ s85 = .int .i64 k ∧ PutAt p w2 wx p v L ∧ Aside (L ++ (n.ands.drop k).flatMap PAnd.lits = n.lits))
          case atStart => exact ⟨0, L, v, by omega, rfl, hP, HL2.out⟩
          case round =>
            clear hP HL2 hL hltn hi hlt
            obtain ⟨k, L, v, hk, rfl, hP, HL⟩ := hrel
            generalize gk = m at *
            have hL : L.length ≤ 1000000 := Nat.le_trans (len_of HL.out) hd
            by_cases hlt : k < n.ands.length
            · obtain ⟨x, hx⟩ := some_of_lt hlt
              have hltI : (k : Int) < (n.ands.length : Int) := by omega
              obtain ⟨b, o, hS, hbg, hcell⟩ := HN.out.1.ands.at hx
              dsimp only at hS
              subst hS
              obtain ⟨m0', m1', m2'⟩ := hcell k x hx
              have m0 := (hP.own.2.1.cell (p := ⟨b, o + k * 3, none⟩) hbg).trans m0'
              have m1 := (hP.own.2.1.cell (p := ⟨b, o + k * 3 + 1, none⟩) hbg).trans m1'
              have m2 := (hP.own.2.1.cell (p := ⟨b, o + k * 3 + 2, none⟩) hbg).trans m2'
              have HX := Lib.hid (show L ++ [x.aa, x.ab] ++ (n.ands.drop (k + 1)).flatMap PAnd.lits = n.lits by
                rw [← HL.out, drop_some hx]; simp [PAnd.lits])
              have q1 := Lib.hid (put_two p w2 _ p v L x.aa x.ab (wr.heap.size + 1) (by simp) (hP.alloc (.cells #[.int .i64 x.av, .int .i64 x.aa, .int .i64 x.ab] 59)) hL)
              clear hcell hx HL m0' m1' m2' hP
              go_wp2_with fail
              refine q1.out.mono ?_
              rintro e w8 ⟨v8, rfl, hP8, -⟩
              clear q1 m0 m1 m2
              go_wp2_with fail
              go_roundg (m - 1)
              case measure => omega
              case rel => exact ⟨k + 1, _, _, by omega, by first | rfl | simp, hP8, HX.out⟩
            · have hltn : ¬ ((k : Int) < (n.ands.length : Int)) := by omega
              have HL2 := Lib.hid (show L = n.lits by
                rw [← HL.out, List.drop_eq_nil_of_le (show n.ands.length ≤ k by omega)]; simp)
              have c0 : wr.cell? ⟨p, 0, none⟩ = some v := by rw [cell_of_row wr p 0 _ _ _ hP.row]; rfl
              clear HL
              go_wp2_with fail
              go_ret
              exact ⟨_, rfl, own_cast (hP.own.down HB.out (by rw [← HPp.out]; exact HB.out.size)) HL2.out⟩
end Go.Proofs.Ytchnpooijaalnaa
