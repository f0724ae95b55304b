/- The list of a netlist's literals by definition (conditions: the netlist lies where its value says; at most 1000000 of them). -/
import Derived.Test.YtchnpooijaalnaaRefLists
import Derived.Deep.RegionHeld3
import Derived.Deep.DrawnRows
import Derived.Deep.QuietTactic
import Derived.BigQuiet
namespace Go.Proofs.Ytchnpooijaalnaa
open Go.ChangeShapes Go.WideShapes Go.RowKit
set_option linter.unusedVariables false

theorem Src.on {w w' : World} {B : Nat} {A : Option Addr} {xs : List Int} (h : Src w B A xs) (hb : Below B w w') (hB : B ≤ w'.heap.size) : Src w' w'.heap.size A xs := (h.below hb (Nat.le_refl _)).wider hB

set_option maxRecDepth 100000 in
set_option maxHeartbeats 4000000 in
theorem rliterals_any (n : PNet) (S : NetS) (w : World) (h : NetAt w w.heap.size S n) (hm : n.modest) (hd : n.lits.length ≤ 1000000) :
    Calls Try.prog 51 #[.agg #[.int .i64 n.vars, .slice S.i n.inputs.length S.ic, .slice S.l n.latches.length S.lc, .slice S.o n.outs.length S.oc, .slice S.b n.bads.length S.bc, .slice S.c n.cons.length S.cc, .slice S.m n.mems.length S.mc, .slice S.a n.ands.length S.ac]] w (Left w n.lits) := by
  have hbx := below_box w #[.int .i64 n.vars, .slice S.i n.inputs.length S.ic, .slice S.l n.latches.length S.lc, .slice S.o n.outs.length S.oc, .slice S.b n.bads.length S.bc, .slice S.c n.cons.length S.cc, .slice S.m n.mems.length S.mc, .slice S.a n.ands.length S.ac] 27
  have hM := netBox_new w n S 27
  have hN := NetAt.later h hbx (by simp)
  have ho1 := hm.outs
  have hb1 := hm.bads
  have hc1 := hm.cons
  have hl1 := hm.latches
  have hm1 := hm.mems
  have ha1 := hm.ands
  have hp1 := Lib.hid hm.ports
  clear h hm
  go_enter Try.func51, Try.ntmps51
  go_wp2
  generalize w.alloc (.cells #[.int .i64 n.vars, .slice S.i n.inputs.length S.ic, .slice S.l n.latches.length S.lc, .slice S.o n.outs.length S.oc, .slice S.b n.bads.length S.bc, .slice S.c n.cons.length S.cc, .slice S.m n.mems.length S.mc, .slice S.a n.ands.length S.ac] 27) = w2 at hN hM hbx ⊢
  have HN := Lib.hid (And.intro hN (And.intro hM hbx))
  clear hbx hM hN
  have HB := Lib.hid HN.out.2.2
  go_loopg [3, 4] n.latches.length (fun m s3 s4 wx => ∃ (k : Nat) (L : List Int), k + m = n.latches.length ∧ s4 = .int .i64 k ∧ Own w2.heap.size w2 wx s3 L ∧ Aside (L ++ ((n.latches.drop k).map PLatch.ln ++ (n.outs ++ (n.bads ++ (n.cons ++ (n.mems.flatMap PMem.lits ++ n.ands.flatMap PAnd.lits))))) = n.lits))
  case atStart => exact ⟨0, [], by omega, rfl, Own.nil _ _ (Nat.le_refl _), by simp [Aside, PNet.lits]⟩
  case round =>
    obtain ⟨k, L, hk, rfl, hO, HL⟩ := hrel
    generalize gk = m at *
    have hL : L.length ≤ 1000000 := Nat.le_trans (len_of HL.out) hd
    obtain ⟨e0, e1, e2, e3, e4, e5, e6, e7, e8⟩ := HN.out.2.1.below hO.2.1 HN.out.2.1.lt
    have hNw := NetAt.below hO.2.1 (Nat.le_refl _) HN.out.1
    by_cases hlt : k < n.latches.length
    · obtain ⟨x, hx⟩ := some_of_lt hlt
      have hltI : (k : Int) < (n.latches.length : Int) := by omega
      obtain ⟨b, o, hS, hbg, hcell⟩ := hNw.latches.at hx
      obtain ⟨m0, m1, m2⟩ := hcell k x hx
      rw [hS] at e2
      have HX := Lib.hid (show L ++ [x.ln] ++ ((n.latches.drop (k + 1)).map PLatch.ln ++ (n.outs ++ (n.bads ++ (n.cons ++ (n.mems.flatMap PMem.lits ++ n.ands.flatMap PAnd.lits))))) = n.lits by
        rw [← HL.out, drop_some hx]; simp)
      clear hS hcell hNw hx HL
      go_wp2_with (at_builtin; refine wpl_one rfl _ _ rfl rfl hO rfl hL ?_; intro v2 w3 hO2 hW2)
      go_roundg (m - 1)
      case measure => omega
      case rel => exact ⟨k + 1, _, by omega, by first | rfl | simp, hO2, HX.out⟩
    · have hltn : ¬ ((k : Int) < (n.latches.length : Int)) := by omega
      have HL2 := Lib.hid (show L ++ n.outs ++ n.bads ++ n.cons ++ (n.mems.flatMap PMem.lits ++ n.ands.flatMap PAnd.lits) = n.lits by
        rw [← HL.out, List.drop_eq_nil_of_le (by omega)]; simp)
      have hL2 : (L ++ n.outs).length ≤ 1000000 := by have := len_of HL2.out; simp at this ⊢; omega
      have hL3 : (L ++ n.outs ++ n.bads).length ≤ 1000000 := by have := len_of HL2.out; simp at this ⊢; omega
      have hs1 := hNw.outs.wider hO.2.2
      clear HL hNw
      go_wp2_with (first | (at_builtin; refine wpl_app rfl (.tmp 27) (.tmp 29) rfl rfl hO rfl rfl hs1 hL ho1 ?_; intro v3 w3 hO3 hW3; obtain ⟨g0, g1, g2, g3, g4, g5, g6, g7, g8⟩ := HN.out.2.1.below hO3.2.1 HN.out.2.1.lt; have hs2 := (NetAt.below hO3.2.1 (Nat.le_refl _) HN.out.1).bads.wider hO3.2.2) | (at_builtin; refine wpl_app rfl (.tmp 31) (.tmp 33) rfl rfl hO3 rfl rfl hs2 hL2 hb1 ?_; intro v4 w4 hO4 hW4; obtain ⟨p0, p1, p2, p3, p4, p5, p6, p7, p8⟩ := HN.out.2.1.below hO4.2.1 HN.out.2.1.lt; have hs3 := (NetAt.below hO4.2.1 (Nat.le_refl _) HN.out.1).cons.wider hO4.2.2) | (at_builtin; refine wpl_app rfl (.tmp 35) (.tmp 37) rfl rfl hO4 rfl rfl hs3 hL3 hc1 ?_; intro v5 w5 hO5 hW5))
      clear hO hO3 hO4 hW3 hW4 hW5 hs1 hs2 hs3 e0 e1 e2 e3 e4 e5 e6 e7 e8 g0 g1 g2 g3 g4 g5 g6 g7 g8 p0 p1 p2 p3 p4 p5 p6 p7 p8 hL hL2 hL3
      go_loopg [3, 5] n.mems.length (fun m s3 s5 wx => ∃ (k : Nat) (L : List Int), k + m = n.mems.length ∧ s5 = .int .i64 k ∧ Own w2.heap.size w2 wx s3 L ∧ Aside (L ++ ((n.mems.drop k).flatMap PMem.lits ++ n.ands.flatMap PAnd.lits) = n.lits))
      case atStart => exact ⟨0, _, by omega, rfl, hO5, HL2.out⟩
      case round =>
        clear hO5 HL2 hltn hk hlt
        obtain ⟨i, L, hi, rfl, hO, HL⟩ := hrel
        generalize gk = m2 at *
        have hL : L.length ≤ 1000000 := Nat.le_trans (len_of HL.out) hd
        obtain ⟨e0, e1, e2, e3, e4, e5, e6, e7, e8⟩ := HN.out.2.1.below hO.2.1 HN.out.2.1.lt
        have hNw := NetAt.below hO.2.1 (Nat.le_refl _) HN.out.1
        by_cases hlt : i < n.mems.length
        · obtain ⟨x, hx⟩ := some_of_lt hlt
          have hltI : (i : Int) < (n.mems.length : Int) := by omega
          have HX := Lib.hid hx
          have HL2 := Lib.hid (show L ++ (x.mr.flatMap PRead.ra ++ (x.mx.flatMap PWrite.lits ++ ((n.mems.drop (i + 1)).flatMap PMem.lits ++ n.ands.flatMap PAnd.lits))) = n.lits by
            rw [← HL.out, drop_some hx]; simp [PMem.lits])
          have hxl1 := (hp1.out x (mem_of_some hx)).1
          have hxl2 := (hp1.out x (mem_of_some hx)).2
          obtain ⟨b, o, hS, hbg, hcell⟩ := HN.out.1.mems.at hx
          obtain ⟨a, c, a2, c2, m0', m1', m2', m3', m4', hP⟩ := hcell i x hx
          have m0 := (hO.2.1.cell (p := ⟨b, o + i * 5, none⟩) hbg).trans m0'
          have m1 := (hO.2.1.cell (p := ⟨b, o + i * 5 + 1, none⟩) hbg).trans m1'
          have m2 := (hO.2.1.cell (p := ⟨b, o + i * 5 + 2, none⟩) hbg).trans m2'
          have m3 := (hO.2.1.cell (p := ⟨b, o + i * 5 + 3, none⟩) hbg).trans m3'
          have m4 := (hO.2.1.cell (p := ⟨b, o + i * 5 + 4, none⟩) hbg).trans m4'
          rw [hS] at e6
          have hH := Held.new hO #[.int .i64 x.ma, .int .i64 x.mw, .bool x.mn, .slice a x.mr.length c, .slice a2 x.mx.length c2] 56
          have hOa := hO.alloc (.cells #[.int .i64 x.ma, .int .i64 x.mw, .bool x.mn, .slice a x.mr.length c, .slice a2 x.mx.length c2] 56)
          have HP := Lib.hid hP
          clear hS hcell hNw hx HL hP m0' m1' m2' m3' m4'
          go_wp2
          clear m0 m1 m2 m3 m4 e0 e1 e2 e3 e4 e5 e6 e7 e8
          generalize wr.alloc (.cells #[.int .i64 x.ma, .int .i64 x.mw, .bool x.mn, .slice a x.mr.length c, .slice a2 x.mx.length c2] 56) = w3 at hH hOa ⊢
          generalize wr.heap.size = gx at hH ⊢
          clear hO
          go_loopg [3, 7] x.mr.length (fun m s3 s7 wx => ∃ (j : Nat) (L : List Int), j + m = x.mr.length ∧ s7 = .int .i64 j ∧ Own w2.heap.size w2 wx s3 L ∧ Held wx s3 gx #[.int .i64 x.ma, .int .i64 x.mw, .bool x.mn, .slice a x.mr.length c, .slice a2 x.mx.length c2] 56 ∧ Aside (L ++ ((x.mr.drop j).flatMap PRead.ra ++ (x.mx.flatMap PWrite.lits ++ ((n.mems.drop (i + 1)).flatMap PMem.lits ++ n.ands.flatMap PAnd.lits))) = n.lits))
          case atStart => exact ⟨0, L, by omega, rfl, hOa, hH, HL2.out⟩
          case round =>
            clear hOa hH HL2 hL
            obtain ⟨j, L, hj, rfl, hO, hH, HL⟩ := hrel
            generalize gk = m3 at *
            have hL : L.length ≤ 1000000 := Nat.le_trans (len_of HL.out) hd
            have e3 : wr.cell? ⟨gx, 3, none⟩ = some (.slice a x.mr.length c) := hH.cell rfl
            have hPw := Ports.below hO.2.1 (Nat.le_refl _) HP.out
            by_cases hjl : j < x.mr.length
            · obtain ⟨r, hr⟩ := some_of_lt hjl
              have hjlI : (j : Int) < (x.mr.length : Int) := by omega
              obtain ⟨br, orr, hSr, hbr, hcr⟩ := hPw.1.at hr
              obtain ⟨ar, cr, r0, r1, hsr, hr1, hr2⟩ := hcr j r hr
              have hsr2 := hsr.wider hO.2.2
              have HX2 := Lib.hid (show L ++ r.ra ++ ((x.mr.drop (j + 1)).flatMap PRead.ra ++ (x.mx.flatMap PWrite.lits ++ ((n.mems.drop (i + 1)).flatMap PMem.lits ++ n.ands.flatMap PAnd.lits))) = n.lits by
                rw [← HL.out, drop_some hr]; simp)
              have hLr : r.ra.length ≤ 1000000 := by have := len_of HX2.out; simp at this; omega
              rw [hSr] at e3
              clear hSr hcr hPw hr HL hsr hr1 hr2
              go_wp2_with (at_builtin; refine wpl_app rfl _ _ rfl rfl hO rfl rfl hsr2 hL hLr ?_; intro v4 w4 hO4 hW4)
              have hH4 := hH.went hW4
              clear hO hH hW4 r0 r1 e3 hsr2
              go_roundg (m3 - 1)
              case measure => omega
              case rel => exact ⟨j + 1, _, by omega, by first | rfl | simp, hO4, hH4, HX2.out⟩
            · have hjn : ¬ ((j : Int) < (x.mr.length : Int)) := by omega
              have HX2 := Lib.hid (show L ++ (x.mx.flatMap PWrite.lits ++ ((n.mems.drop (i + 1)).flatMap PMem.lits ++ n.ands.flatMap PAnd.lits)) = n.lits by
                rw [← HL.out, List.drop_eq_nil_of_le (show x.mr.length ≤ j by omega)]; simp)
              clear HL hPw
              go_wp2
              clear e3
              go_loopg [3, 8] x.mx.length (fun m s3 s8 wx => ∃ (j : Nat) (L : List Int), j + m = x.mx.length ∧ s8 = .int .i64 j ∧ Own w2.heap.size w2 wx s3 L ∧ Held wx s3 gx #[.int .i64 x.ma, .int .i64 x.mw, .bool x.mn, .slice a x.mr.length c, .slice a2 x.mx.length c2] 56 ∧ Aside (L ++ ((x.mx.drop j).flatMap PWrite.lits ++ ((n.mems.drop (i + 1)).flatMap PMem.lits ++ n.ands.flatMap PAnd.lits)) = n.lits))
              case atStart => exact ⟨0, L, by omega, rfl, hO, hH, HX2.out⟩
              case round =>
                clear hO hH HX2 hL hjn hj hjl
                obtain ⟨q, L, hq, rfl, hO, hH, HL⟩ := hrel
                generalize gk = m4 at *
                have hL : L.length ≤ 1000000 := Nat.le_trans (len_of HL.out) hd
                have e4 : wr.cell? ⟨gx, 4, none⟩ = some (.slice a2 x.mx.length c2) := hH.cell rfl
                have hPw := Ports.below hO.2.1 (Nat.le_refl _) HP.out
                by_cases hql : q < x.mx.length
                · obtain ⟨z, hz⟩ := some_of_lt hql
                  have hqlI : (q : Int) < (x.mx.length : Int) := by omega
                  obtain ⟨bz, oz, hSz, hbz, hcz⟩ := HP.out.2.1.at hz
                  obtain ⟨az, cz, az2, cz2, z0', z1', z2', hsz, hsz2, _⟩ := hcz q z hz
                  have z0 := (hO.2.1.cell (p := ⟨bz, oz + q * 3, none⟩) hbz).trans z0'
                  have z1 := (hO.2.1.cell (p := ⟨bz, oz + q * 3 + 1, none⟩) hbz).trans z1'
                  have z2 := (hO.2.1.cell (p := ⟨bz, oz + q * 3 + 2, none⟩) hbz).trans z2'
                  have HX2 := Lib.hid (show L ++ [z.wo] ++ z.wa ++ z.wd ++ ((x.mx.drop (q + 1)).flatMap PWrite.lits ++ ((n.mems.drop (i + 1)).flatMap PMem.lits ++ n.ands.flatMap PAnd.lits)) = n.lits by
                    rw [← HL.out, drop_some hz]; simp [PWrite.lits])
                  have hLa : z.wa.length ≤ 1000000 := by have := len_of HX2.out; simp at this; omega
                  have hLd : z.wd.length ≤ 1000000 := by have := len_of HX2.out; simp at this; omega
                  have hL2 : (L ++ [z.wo]).length ≤ 1000000 := by have := len_of HX2.out; simp at this ⊢; omega
                  have hL3 : (L ++ [z.wo] ++ z.wa).length ≤ 1000000 := by have := len_of HX2.out; simp at this ⊢; omega
                  rw [hSz] at e4
                  have HHz := Lib.hid (Held.new hO #[.int .i64 z.wo, .slice az z.wa.length cz, .slice az2 z.wd.length cz2] 76)
                  have HHm := Lib.hid (hH.alloc (.cells #[.int .i64 z.wo, .slice az z.wa.length cz, .slice az2 z.wd.length cz2] 76))
                  have hOz := hO.alloc (.cells #[.int .i64 z.wo, .slice az z.wa.length cz, .slice az2 z.wd.length cz2] 76)
                  have HSz := Lib.hid (And.intro hsz hsz2)
                  clear hSz hcz hPw hz HL hsz hsz2 hH hO z0' z1' z2'
                  go_wp2_with (first | (at_builtin; refine wpl_one_at rfl (.tmp 78) (.tmp 81) rfl rfl hOz rfl (by simp) hL ?_; intro v5 w5 hO5 hW5; have hz5 := (HHz.out.alloc _).went hW5; have hm5 := (HHm.out.alloc _).went hW5; have k1 := hz5.cell (j := 1) rfl; have k2 := hz5.cell (j := 2) rfl; have hs5 := HSz.out.1.own hO5) | (at_builtin; refine wpl_app rfl (.tmp 83) (.tmp 85) rfl rfl hO5 rfl rfl hs5 hL2 hLa ?_; intro v6 w6 hO6 hW6; have hz6 := hz5.went hW6; have hm6 := hm5.went hW6; have k3 := hz6.cell (j := 2) rfl; have hs6 := HSz.out.2.own hO6) | (at_builtin; refine wpl_app rfl (.tmp 87) (.tmp 89) rfl rfl hO6 rfl rfl hs6 hL3 hLd ?_; intro v7 w7 hO7 hW7; have hm7 := hm6.went hW7))
                  clear hO5 hO6 hW5 hW6 hW7 hz5 hz6 hm5 hm6 k1 k2 k3 hs5 hs6 hOz z0 z1 z2 e4
                  go_roundg (m4 - 1)
                  case measure => omega
                  case rel => exact ⟨q + 1, _, by omega, by first | rfl | simp, hO7, hm7, HX2.out⟩
                · have hqn : ¬ ((q : Int) < (x.mx.length : Int)) := by omega
                  have HX2 := Lib.hid (show L ++ ((n.mems.drop (i + 1)).flatMap PMem.lits ++ n.ands.flatMap PAnd.lits) = n.lits by
                    rw [← HL.out, List.drop_eq_nil_of_le (show x.mx.length ≤ q by omega)]; simp)
                  clear HL hPw hH
                  go_wp2
                  go_roundg (m2 - 1)
                  case measure => omega
                  case rel => exact ⟨i + 1, _, by omega, by first | rfl | simp, hO, HX2.out⟩
        · have hltn : ¬ ((i : Int) < (n.mems.length : Int)) := by omega
          have HL2 := Lib.hid (show L ++ n.ands.flatMap PAnd.lits = n.lits by
            rw [← HL.out, List.drop_eq_nil_of_le (show n.mems.length ≤ i by omega)]; simp)
          clear HL hNw
          go_wp2
          go_loopg [3, 10] n.ands.length (fun m s3 s10 wx => ∃ (k : Nat) (L : List Int), k + m = n.ands.length ∧ s10 = .int .i64 k ∧ Own w2.heap.size w2 wx s3 L ∧ Aside (L ++ (n.ands.drop k).flatMap PAnd.lits = n.lits))
          case atStart => exact ⟨0, L, by omega, rfl, hO, HL2.out⟩
          case round =>
            clear hO HL2 hL e0 e1 e2 e3 e4 e5 e6 e7 e8 hltn hi hlt
            obtain ⟨k, L, hk, rfl, hO, HL⟩ := hrel
            generalize gk = m at *
            have hL : L.length ≤ 1000000 := Nat.le_trans (len_of HL.out) hd
            obtain ⟨e0, e1, e2, e3, e4, e5, e6, e7, e8⟩ := HN.out.2.1.below hO.2.1 HN.out.2.1.lt
            have hNw := NetAt.below hO.2.1 (Nat.le_refl _) HN.out.1
            by_cases hlt : k < n.ands.length
            · obtain ⟨x, hx⟩ := some_of_lt hlt
              have hltI : (k : Int) < (n.ands.length : Int) := by omega
              have hk0 : (0 : Int) ≤ (k : Int) := by omega
              obtain ⟨b, o, hS, hbg, hcell⟩ := hNw.ands.at hx
              obtain ⟨m0, m1, m2⟩ := hcell k x hx
              rw [hS] at e7
              have HX := Lib.hid (show L ++ [x.aa, x.ab] ++ (n.ands.drop (k + 1)).flatMap PAnd.lits = n.lits by
                rw [← HL.out, drop_some hx]; simp [PAnd.lits])
              have HO := Lib.hid hO
              have HK := Lib.hid fun (W : World) (v : Value) (ys : List Int) (hW : Own w2.heap.size w2 W v ys) =>
                And.intro ((HN.out.2.1.below hW.2.1 HN.out.2.1.lt).n7.trans (by rw [hS])) (And.intro ((hW.2.1.cell (p := ⟨b, o + k * 3 + 1, none⟩) hbg).trans ((hO.2.1.cell (p := ⟨b, o + k * 3 + 1, none⟩) hbg).symm.trans m1)) ((hW.2.1.cell (p := ⟨b, o + k * 3 + 2, none⟩) hbg).trans ((hO.2.1.cell (p := ⟨b, o + k * 3 + 2, none⟩) hbg).symm.trans m2)))
              clear hS hcell hNw hx HL hO
              go_wp2
              go_region_held3 (fun w' => w'.cell? ⟨w.heap.size, 7, none⟩ = some (.slice (some ⟨b, o, none⟩) n.ands.length S.ac) ∧ w'.cell? ⟨b, o + k * 3 + 1, none⟩ = some (.int .i64 x.aa) ∧ w'.cell? ⟨b, o + k * 3 + 2, none⟩ = some (.int .i64 x.ab)) (first | go_keep | (exact HK.out _ _ _ (by assumption)))
                (first
                  | (refine step_own (w0 := w2) (B := w2.heap.size) (v := u3) (xs := L) (A := some ⟨wr.heap.size, 0, none⟩) (m := 2) (c := 2) (ys := [x.aa, x.ab]) ?_ (.tmp 98) (.tmp 111) ?_ ?_ ?_ ?_ ?_ ?_ ?_ ?_ ?_
                     · rfl
                     · rfl
                     · rfl
                     · exact (HO.out.alloc _).drew
                     · rfl
                     · rfl
                     · exact Src.two (t := 3) (fr := (0, 0)) (heap_alloc_new wr _) (show wr.heap.size < (wr.alloc _).heap.size by simp)
                     · exact hL
                     · decide
                     intro v5 w5 hO5 hW5)
                  | fail)
              all_goals
                go_wp2_with fail
                go_roundg (m - 1)
                case measure => omega
                case rel => exact ⟨k + 1, _, by omega, by first | rfl | simp, hO5, HX.out⟩
            · have hltn : ¬ ((k : Int) < (n.ands.length : Int)) := by omega
              have HL2 := Lib.hid (show L = n.lits by
                rw [← HL.out, List.drop_eq_nil_of_le (show n.ands.length ≤ k by omega)]; simp)
              clear HL hNw
              go_wp2
              go_ret
              exact ⟨_, rfl, own_cast (hO.down HB.out HB.out.size) HL2.out⟩
end Go.Proofs.Ytchnpooijaalnaa
