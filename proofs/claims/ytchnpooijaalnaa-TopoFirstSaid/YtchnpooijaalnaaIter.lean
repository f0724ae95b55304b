/- The contract of the range over a netlist's definitions, for every loop body that keeps the netlist and what the range itself has laid (conditions: the netlist lies where its value says; words of 0 to 64 bits, ports' first variables no more than 2^61 from 0). -/
import Derived.RangeFuncNested
import Derived.RangeFuncBound
import Derived.RangeFuncCalls
import Derived.RangeFuncLeaves
import Derived.Shelf.Abstract
import Derived.Shelf.RegionOpen
import Derived.WalkKit
import Derived.OwnWalkIn
import Derived.TacticsInMore
import Derived.LoopNIn
import Derived.LoopIn
import Derived.Sort.LoopGhostIn
import Derived.Test.YtchnpooijaalnaaKept
import Derived.Test.YtchnpooijaalnaaSmall
namespace Go.Proofs.Ytchnpooijaalnaa
open Go.ChangeShapes Go.WideShapes Go.RowKit Go.Shelf
set_option linter.unusedVariables false
attribute [local go_sem] Oper.semAt_some

theorem definitions_any (n : PNet) (S : NetS) (w : World) :
    Calls Try.prog 66 #[.agg #[.int .i64 n.vars, .slice S.i n.inputs.length S.ic, .slice S.l n.latches.length S.lc, .slice S.o n.outs.length S.oc, .slice S.b n.bads.length S.bc, .slice S.c n.cons.length S.cc, .slice S.m n.mems.length S.mc, .slice S.a n.ands.length S.ac]] w fun e w' => e = .returned (.func (.func 86) #[] #[.pointer (some ⟨w.heap.size, 0, none⟩)]) ∧ w.alloc (.cells #[.int .i64 n.vars, .slice S.i n.inputs.length S.ic, .slice S.l n.latches.length S.lc, .slice S.o n.outs.length S.oc, .slice S.b n.bads.length S.bc, .slice S.c n.cons.length S.cc, .slice S.m n.mems.length S.mc, .slice S.a n.ands.length S.ac] 27) = w' := by
  go_enter Try.func66, Try.ntmps66
  go_wp2
  go_ret
  exact ⟨rfl, rfl⟩

theorem prefix_of {L T D : List Int} {x : Int} (h : L ++ x :: T = D) : L.length < D.length ∧ L ++ [x] <+: D := by
  subst h
  exact ⟨by simp, ⟨T, by simp⟩⟩

set_option maxRecDepth 100000 in
set_option maxHeartbeats 4000000 in
theorem iter_stops (m0 : Nat) (h1m : 1 ≤ m0) (n : PNet) (S : NetS) (lo hi g : Nat) (w : World) (hlh : lo ≤ hi) (hg : hi ≤ g) (hbx : NetBox w g n S) (hN : NetAt w lo S n) (hm : n.modest) (ht : ∀ m ∈ n.mems, m.told) :
    SeqStopsK Fence.wide m0 Try.prog 86 #[.pointer (some ⟨g, 0, none⟩)] (fun x : Int => #[Value.int .i64 x]) (Keeps lo hi) (fun ys => ys = n.defs) (fun pre => pre <+: n.defs) n.defs.length w := fun l J Jx W hW hJ hJx hY h0 => by
  obtain ⟨sI, cI, sL, cL, sO, cO, sB, cB, sC, cC, sM, cM, sA, cA⟩ := S
  have k0 : Keeps lo hi w W := .of_below hW
  have hbW := k0.box hg hbx
  have hNW := hN.kept (k0.kept (Nat.le_refl _))
  have hhW : hi ≤ W.heap.size := by have := hbW.lt; omega
  have HN := Lib.hid (And.intro hNW (And.intro hbW hhW))
  have hi1 := hm.inputs
  have hl1 := hm.latches
  have hm1 := hm.mems
  have ha1 := hm.ands
  have hp1 := Lib.hid hm.ports
  have HT := Lib.hid ht
  have HJ := Lib.hid fun (L : List Int) (A B : World) (hj : J L A) (hb : Below A.heap.size A B) => hJ L A B none hj ⟨hb.os, hb.tape, hb.output, hb.size, fun k hk _ => hb.block k hk⟩ (fun r e => by cases e)
  obtain ⟨e0, e1, e2, e3, e4, e5, e6, e7, e8⟩ := hbW
  dsimp only at e1 e2 e3 e4 e5 e6 e7
  clear hbx hN k0 hNW hhW hm ht hW hJ hJx
  refine callsIn_of_wp Try.func86 rfl trivial ?_ rfl
  simp only [Try.ntmps86, List.size_toArray, List.length_cons, List.length_nil, Nat.reduceAdd, Nat.reduceSub, Array.replicate_succ, Array.replicate_zero, List.push_toArray, List.append_toArray, List.nil_append, List.cons_append]
  gi_wp2
  clear e0 e1 e2 e3 e4 e5 e6 e7 e8
  gi_loopg [17] n.inputs.length (fun m s17 wx => ∃ (k : Nat) (L : List Int), k + m = n.inputs.length ∧ s17 = .int .i64 k ∧ J L wx ∧ Keeps lo hi W wx ∧ Aside (L ++ (n.inputs.drop k ++ (n.latches.map PLatch.lv ++ (n.mems.flatMap PMem.data ++ n.ands.map PAnd.av))) = n.defs))
  case atStart => exact ⟨0, [], by omega, rfl, h0, Keeps.refl _ _ _, by simp [Aside, PNet.defs]⟩
  case round =>
    clear h0
    obtain ⟨k, L, hk, rfl, hJs, hK, HL⟩ := hrel
    generalize gk = m at *
    by_cases hlt : k < n.inputs.length
    · obtain ⟨x, hx⟩ := some_of_lt hlt
      have hltI : (k : Int) < (n.inputs.length : Int) := by omega
      obtain ⟨b, o, hS, hbg, hcell⟩ := (HN.out.1.kept (hK.kept (Nat.le_refl _))).inputs.at hx
      dsimp only at hS
      subst hS
      have hx0 := hcell k x hx
      have HX := Lib.hid (show L ++ x :: (n.inputs.drop (k + 1) ++ (n.latches.map PLatch.lv ++ (n.mems.flatMap PMem.data ++ n.ands.map PAnd.av))) = n.defs by
        rw [← HL.out, drop_some hx]; simp)
      obtain ⟨fn, tmps, assign, body, hy, hR⟩ := hY L x wr hJs (prefix_of HX.out).1
      clear hcell hx HL
      gi_wp2
      refine hR.mono ?_
      rintro e W3 (⟨rfl, hJ3, hk3⟩ | ⟨rfl, hJx3⟩)
      · gi_wp2
        gi_roundg (m - 1)
        case measure => omega
        case rel => exact ⟨k + 1, _, by omega, by first | rfl | simp, hJ3, hK.trans hk3, by show _ = _; rw [← HX.out]; simp⟩
      · gi_wp2
        refine bodyPost_ret (results_none rfl _ _ _) rfl ?_
        exact ⟨⟨_, rfl⟩, .inr ⟨_, (prefix_of HX.out).2, hJx3⟩⟩
    · have hltn : ¬ ((k : Int) < (n.inputs.length : Int)) := by omega
      have HL2 := Lib.hid (show L ++ (n.latches.map PLatch.lv ++ (n.mems.flatMap PMem.data ++ n.ands.map PAnd.av)) = n.defs by
        rw [← HL.out, List.drop_eq_nil_of_le (by omega)]; simp)
      obtain ⟨e0, e1, e2, e3, e4, e5, e6, e7, e8⟩ := hK.box hg HN.out.2.1
      dsimp only at e2
      clear HL e0 e1 e3 e4 e5 e6 e7 e8
      gi_wp2
      clear e2
      gi_loopg [29] n.latches.length (fun m s29 wx => ∃ (k : Nat) (L : List Int), k + m = n.latches.length ∧ s29 = .int .i64 k ∧ J L wx ∧ Keeps lo hi W wx ∧ Aside (L ++ ((n.latches.drop k).map PLatch.lv ++ (n.mems.flatMap PMem.data ++ n.ands.map PAnd.av)) = n.defs))
      case atStart => exact ⟨0, L, by omega, rfl, hJs, hK, HL2.out⟩
      case round =>
        clear hJs hK HL2 hltn hk hlt
        obtain ⟨k, L, hk, rfl, hJs, hK, HL⟩ := hrel
        generalize gk = m at *
        by_cases hlt : k < n.latches.length
        · obtain ⟨x, hx⟩ := some_of_lt hlt
          have hltI : (k : Int) < (n.latches.length : Int) := by omega
          obtain ⟨b, o, hS, hbg, hcell⟩ := (HN.out.1.kept (hK.kept (Nat.le_refl _))).latches.at hx
          dsimp only at hS
          subst hS
          obtain ⟨m0', m1', m2'⟩ := hcell k x hx
          have HX := Lib.hid (show L ++ x.lv :: ((n.latches.drop (k + 1)).map PLatch.lv ++ (n.mems.flatMap PMem.data ++ n.ands.map PAnd.av)) = n.defs by
            rw [← HL.out, drop_some hx]; simp)
          have hJa := HJ.out L wr _ hJs (below_box wr #[.int .i64 x.lv, .int .i64 x.ln, .int .i64 x.li] 50)
          have hKa := hK.trans (Keeps.alloc lo hi wr (.cells #[.int .i64 x.lv, .int .i64 x.ln, .int .i64 x.li] 50))
          obtain ⟨fn, tmps, assign, body, hy, hR⟩ := hY L x.lv _ hJa (prefix_of HX.out).1
          clear hcell hx HL hJs hJa
          gi_wp2
          refine hR.mono ?_
          rintro e W3 (⟨rfl, hJ3, hk3⟩ | ⟨rfl, hJx3⟩)
          · gi_wp2
            gi_roundg (m - 1)
            case measure => omega
            case rel => exact ⟨k + 1, _, by omega, by first | rfl | simp, hJ3, hKa.trans hk3, by show _ = _; rw [← HX.out]; simp⟩
          · gi_wp2
            refine bodyPost_ret (results_none rfl _ _ _) rfl ?_
            exact ⟨⟨_, rfl⟩, .inr ⟨_, (prefix_of HX.out).2, hJx3⟩⟩
        · have hltn : ¬ ((k : Int) < (n.latches.length : Int)) := by omega
          have HL2 := Lib.hid (show L ++ (n.mems.flatMap PMem.data ++ n.ands.map PAnd.av) = n.defs by
            rw [← HL.out, List.drop_eq_nil_of_le (by omega)]; simp)
          obtain ⟨e0, e1, e2, e3, e4, e5, e6, e7, e8⟩ := hK.box hg HN.out.2.1
          dsimp only at e6
          clear HL e0 e1 e2 e3 e4 e5 e7 e8
          gi_wp2
          clear e6
          gi_loopg [42] n.mems.length (fun m s42 wx => ∃ (k : Nat) (L : List Int), k + m = n.mems.length ∧ s42 = .int .i64 k ∧ J L wx ∧ Keeps lo hi W wx ∧ Aside (L ++ ((n.mems.drop k).flatMap PMem.data ++ n.ands.map PAnd.av) = n.defs))
          case atStart => exact ⟨0, L, by omega, rfl, hJs, hK, HL2.out⟩
          case round =>
            clear hJs hK HL2 hltn hk hlt
            obtain ⟨i, L, hi', rfl, hJs, hK, HL⟩ := hrel
            generalize gk = m2 at *
            by_cases hlt : i < n.mems.length
            · obtain ⟨x, hx⟩ := some_of_lt hlt
              have hltI : (i : Int) < (n.mems.length : Int) := by omega
              have HX := Lib.hid hx
              have HL2 := Lib.hid (show L ++ (x.mr.flatMap (fun r => dataL r.rv x.mw) ++ ((n.mems.drop (i + 1)).flatMap PMem.data ++ n.ands.map PAnd.av)) = n.defs by
                rw [← HL.out, drop_some hx]; simp [PMem.data])
              have hxt := HT.out x (mem_of_some hx)
              have hxl := (hp1.out x (mem_of_some hx)).1
              obtain ⟨b, o, hS, hbg, hcell⟩ := HN.out.1.mems.at hx
              dsimp only at hS
              subst hS
              obtain ⟨a, c, a2, c2, m0', m1', m2', m3', m4', hPo⟩ := hcell i x hx
              have q0 := hK.kept (Nat.le_refl _) _ _ _ hbg m0'
              have q1 := hK.kept (Nat.le_refl _) _ _ _ hbg m1'
              have q2 := hK.kept (Nat.le_refl _) _ _ _ hbg m2'
              have q3 := hK.kept (Nat.le_refl _) _ _ _ hbg m3'
              have q4 := hK.kept (Nat.le_refl _) _ _ _ hbg m4'
              have hJa := HJ.out L wr _ hJs (below_box wr #[.int .i64 x.ma, .int .i64 x.mw, .bool x.mn, .slice a x.mr.length c, .slice a2 x.mx.length c2] 56)
              have hKa := hK.trans (Keeps.alloc lo hi wr (.cells #[.int .i64 x.ma, .int .i64 x.mw, .bool x.mn, .slice a x.mr.length c, .slice a2 x.mx.length c2] 56))
              have hB := memBox_new wr x a c a2 c2 56
              have hgx : hi ≤ wr.heap.size := Nat.le_trans HN.out.2.2 hK.size
              have HP := Lib.hid hPo
              have HXT := Lib.hid hxt
              clear hcell hx HL hPo m0' m1' m2' m3' m4' hJs hK hxt
              gi_wp2
              clear q0 q1 q2 q3 q4
              generalize wr.alloc (.cells #[.int .i64 x.ma, .int .i64 x.mw, .bool x.mn, .slice a x.mr.length c, .slice a2 x.mx.length c2] 56) = w7 at hJa hKa hB ⊢
              generalize wr.heap.size = gx at hB hgx ⊢
              have HBx := Lib.hid hB
              clear hB
              gi_loopg [49] x.mr.length (fun m s49 wx => ∃ (j : Nat) (L : List Int), j + m = x.mr.length ∧ s49 = .int .i64 j ∧ J L wx ∧ Keeps lo hi w7 wx ∧ Aside (L ++ ((x.mr.drop j).flatMap (fun r => dataL r.rv x.mw) ++ ((n.mems.drop (i + 1)).flatMap PMem.data ++ n.ands.map PAnd.av)) = n.defs))
              case atStart => exact ⟨0, L, by omega, rfl, hJa, Keeps.refl _ _ _, HL2.out⟩
              case round =>
                clear hJa HL2
                obtain ⟨j, L, hj, rfl, hJs, hK, HL⟩ := hrel
                generalize gk = m3 at *
                by_cases hjl : j < x.mr.length
                · obtain ⟨r, hr⟩ := some_of_lt hjl
                  have hjI : (j : Int) < (x.mr.length : Int) := by omega
                  obtain ⟨e0, e1, e2, e3, e4, e5⟩ := hK.memBox hgx HBx.out
                  have HX2 := Lib.hid (show L ++ (dataL r.rv x.mw ++ ((x.mr.drop (j + 1)).flatMap (fun r => dataL r.rv x.mw) ++ ((n.mems.drop (i + 1)).flatMap PMem.data ++ n.ands.map PAnd.av))) = n.defs by
                    rw [← HL.out, drop_some hr]; simp)
                  have hKW := hKa.trans hK
                  have hloW : lo ≤ wr.heap.size := by have := hKW.size; have := HN.out.2.2; omega
                  have hhiW : hi ≤ wr.heap.size := by have := hKW.size; have := HN.out.2.2; omega
                  have HC := Lib.hid (data_any x a c a2 c2 j r wr (Ports.wider hloW (Ports.kept (hKW.kept (Nat.le_refl _)) HP.out)) hr hxl (by have := HXT.out.1; have := HXT.out.2.1; omega) (HXT.out.2.2 r (mem_of_some hr)))
                  have HJs := Lib.hid hJs
                  have hdl : (dataL r.rv x.mw).length ≤ 64 := by rw [dataL_len]; have := HXT.out.2.1; omega
                  clear hr HL hJs
                  gi_wp2_with (refine ⟨trivial, ?_⟩; gi_at_call 52; refine (callsIn_wide.2 HC.out).mono ?_; rintro e w8 ⟨v8, rfl, hO8⟩; obtain ⟨A8, c8, rfl, hH8⟩ := hO8.high hhiW)
                  have hJ8 := HJs.out
                  have hJ8 := HJ.out L wr w8 hJ8 hO8.2.1
                  have hK8 := hK.trans (Keeps.of_below hO8.2.1)
                  have HH8 := Lib.hid hH8
                  clear hO8 e0 e1 e2 e3 e4 e5 HC HJs hH8 hK hKW hloW hhiW
                  gi_loopg [56] (dataL r.rv x.mw).length (fun m s56 wx => ∃ (q : Nat) (L : List Int), q + m = (dataL r.rv x.mw).length ∧ s56 = .int .i64 q ∧ J L wx ∧ Keeps lo hi w8 wx ∧ Aside (L ++ ((dataL r.rv x.mw).drop q ++ ((x.mr.drop (j + 1)).flatMap (fun r => dataL r.rv x.mw) ++ ((n.mems.drop (i + 1)).flatMap PMem.data ++ n.ands.map PAnd.av))) = n.defs))
                  case atStart => exact ⟨0, L, by omega, rfl, hJ8, Keeps.refl _ _ _, HX2.out⟩
                  case round =>
                    clear hJ8 HX2
                    obtain ⟨q, L, hq, rfl, hJs, hK, HL⟩ := hrel
                    generalize gk = m4 at *
                    generalize hds : dataL r.rv x.mw = ds at *
                    have HDS := Lib.hid hds
                    clear hds
                    by_cases hql : q < ds.length
                    · obtain ⟨y, hy0⟩ := some_of_lt hql
                      have hqI : (q : Int) < (ds.length : Int) := by omega
                      obtain ⟨b5, o5, rfl, hb5, hcell⟩ := (HH8.out.keeps hK).at hy0
                      have hy1 := hcell q y hy0
                      have HX := Lib.hid (show L ++ y :: (ds.drop (q + 1) ++ ((x.mr.drop (j + 1)).flatMap (fun r => dataL r.rv x.mw) ++ ((n.mems.drop (i + 1)).flatMap PMem.data ++ n.ands.map PAnd.av))) = n.defs by
                        rw [← HL.out, drop_some hy0]; simp)
                      obtain ⟨fn, tmps, assign, body, hy, hR⟩ := hY L y wr hJs (prefix_of HX.out).1
                      clear hcell hy0 HL
                      gi_wp2
                      refine hR.mono ?_
                      rintro e W3 (⟨rfl, hJ3, hk3⟩ | ⟨rfl, hJx3⟩)
                      · gi_wp2
                        gi_roundg (m4 - 1)
                        case measure => omega
                        case rel => exact ⟨q + 1, _, by omega, by first | rfl | simp, hJ3, hK.trans hk3, by show _ = _; rw [← HX.out]; simp⟩
                      · gi_wp2
                        refine bodyPost_ret (results_none rfl _ _ _) rfl ?_
                        exact ⟨⟨_, rfl⟩, .inr ⟨_, (prefix_of HX.out).2, hJx3⟩⟩
                    · have hqn : ¬ ((q : Int) < (ds.length : Int)) := by omega
                      have HX := Lib.hid (show L ++ ((x.mr.drop (j + 1)).flatMap (fun r => dataL r.rv x.mw) ++ ((n.mems.drop (i + 1)).flatMap PMem.data ++ n.ands.map PAnd.av)) = n.defs by
                        rw [← HL.out, List.drop_eq_nil_of_le (show ds.length ≤ q by omega)]; simp)
                      clear HL
                      gi_wp2
                      gi_roundg (m3 - 1)
                      case measure => omega
                      case rel => exact ⟨j + 1, _, by omega, by first | rfl | simp, hJs, hK8.trans hK, HX.out⟩
                · have hjn : ¬ ((j : Int) < (x.mr.length : Int)) := by omega
                  have HX2 := Lib.hid (show L ++ ((n.mems.drop (i + 1)).flatMap PMem.data ++ n.ands.map PAnd.av) = n.defs by
                    rw [← HL.out, List.drop_eq_nil_of_le (show x.mr.length ≤ j by omega)]; simp)
                  clear HL
                  gi_wp2
                  gi_roundg (m2 - 1)
                  case measure => omega
                  case rel => exact ⟨i + 1, _, by omega, by first | rfl | simp, hJs, hKa.trans hK, HX2.out⟩
            · have hltn : ¬ ((i : Int) < (n.mems.length : Int)) := by omega
              have HL2 := Lib.hid (show L ++ n.ands.map PAnd.av = n.defs by
                rw [← HL.out, List.drop_eq_nil_of_le (show n.mems.length ≤ i by omega)]; simp)
              obtain ⟨e0, e1, e2, e3, e4, e5, e6, e7, e8⟩ := hK.box hg HN.out.2.1
              dsimp only at e7
              clear HL e0 e1 e2 e3 e4 e5 e6 e8
              gi_wp2
              clear e7
              gi_loopg [70] n.ands.length (fun m s70 wx => ∃ (k : Nat) (L : List Int), k + m = n.ands.length ∧ s70 = .int .i64 k ∧ J L wx ∧ Keeps lo hi W wx ∧ Aside (L ++ (n.ands.drop k).map PAnd.av = n.defs))
              case atStart => exact ⟨0, L, by omega, rfl, hJs, hK, HL2.out⟩
              case round =>
                clear hJs hK HL2 hltn hi' hlt
                obtain ⟨k, L, hk, rfl, hJs, hK, HL⟩ := hrel
                generalize gk = m at *
                by_cases hlt : k < n.ands.length
                · obtain ⟨x, hx⟩ := some_of_lt hlt
                  have hltI : (k : Int) < (n.ands.length : Int) := by omega
                  obtain ⟨b, o, hS, hbg, hcell⟩ := (HN.out.1.kept (hK.kept (Nat.le_refl _))).ands.at hx
                  dsimp only at hS
                  subst hS
                  obtain ⟨m0', m1', m2'⟩ := hcell k x hx
                  have HX := Lib.hid (show L ++ x.av :: (n.ands.drop (k + 1)).map PAnd.av = n.defs by
                    rw [← HL.out, drop_some hx]; simp)
                  have hJa := HJ.out L wr _ hJs (below_box wr #[.int .i64 x.av, .int .i64 x.aa, .int .i64 x.ab] 59)
                  have hKa := hK.trans (Keeps.alloc lo hi wr (.cells #[.int .i64 x.av, .int .i64 x.aa, .int .i64 x.ab] 59))
                  obtain ⟨fn, tmps, assign, body, hy, hR⟩ := hY L x.av _ hJa (prefix_of HX.out).1
                  clear hcell hx HL hJs hJa
                  gi_wp2
                  refine hR.mono ?_
                  rintro e W3 (⟨rfl, hJ3, hk3⟩ | ⟨rfl, hJx3⟩)
                  · gi_wp2
                    gi_roundg (m - 1)
                    case measure => omega
                    case rel => exact ⟨k + 1, _, by omega, by first | rfl | simp, hJ3, hKa.trans hk3, by show _ = _; rw [← HX.out]; simp⟩
                  · gi_wp2
                    refine bodyPost_ret (results_none rfl _ _ _) rfl ?_
                    exact ⟨⟨_, rfl⟩, .inr ⟨_, (prefix_of HX.out).2, hJx3⟩⟩
                · have hltn : ¬ ((k : Int) < (n.ands.length : Int)) := by omega
                  have HL2 := Lib.hid (show L = n.defs by
                    rw [← HL.out, List.drop_eq_nil_of_le (show n.ands.length ≤ k by omega)]; simp)
                  clear HL
                  gi_wp2
                  go_end0
                  exact ⟨⟨_, rfl⟩, .inl (by have := HL2.out; subst this; exact hJs)⟩
end Go.Proofs.Ytchnpooijaalnaa
