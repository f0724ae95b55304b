/- The lists of a netlist's definitions and literals by definition (conditions: the netlist lies where its value says; at most 1000000 of them; words of 0 to 64 bits, and ports' first variables no more than 2^61 from 0). -/
import Derived.Test.YtchnpooijaalnaaNetData
namespace Go.Proofs.Ytchnpooijaalnaa
open Go.ChangeShapes Go.WideShapes Go.RowKit
set_option linter.unusedVariables false

/-- Ports whose data can be told. -/
def PMem.told (m : PMem) : Prop := 0 ≤ m.mw ∧ m.mw ≤ 64 ∧ ∀ r ∈ m.mr, -2305843009213693952 ≤ r.rv ∧ r.rv ≤ 2305843009213693952
/-- A netlist of as many parts as may be gone through. -/
structure PNet.modest (n : PNet) : Prop where
  inputs : n.inputs.length ≤ 1000000
  latches : n.latches.length ≤ 1000000
  outs : n.outs.length ≤ 1000000
  bads : n.bads.length ≤ 1000000
  cons : n.cons.length ≤ 1000000
  mems : n.mems.length ≤ 1000000
  ands : n.ands.length ≤ 1000000
  ports : ∀ m ∈ n.mems, m.mr.length ≤ 1000000 ∧ m.mx.length ≤ 1000000

theorem len_of {L T D : List Int} (h : L ++ T = D) : L.length ≤ D.length := by
  have := congrArg List.length h
  simp at this
  omega
theorem Own.empty (w : World) (B : Nat) (hB : B ≤ w.heap.size) (g : Nat) (hg : g = w.heap.size) : Own B w (w.alloc (.cells #[] 3)) (.slice (some ⟨g, 0, none⟩) 0 0) [] := by
  subst hg
  exact ⟨World.ownsRow_made w #[] 0 hB (Nat.zero_le _) rfl, (Below.refl _ _).alloc hB _, by simp; omega⟩

set_option maxRecDepth 100000 in
set_option maxHeartbeats 2000000 in
theorem rdefined_any (n : PNet) (S : NetS) (w : World) (h : NetAt w w.heap.size S n) (hm : n.modest) (ht : ∀ m ∈ n.mems, m.told) (hd : n.defs.length ≤ 1000000) :
    Calls Try.prog 69 #[.agg #[.int .i64 n.vars, .slice S.i n.inputs.length S.ic, .slice S.l n.latches.length S.lc, .slice S.o n.outs.length S.oc, .slice S.b n.bads.length S.bc, .slice S.c n.cons.length S.cc, .slice S.m n.mems.length S.mc, .slice S.a n.ands.length S.ac]] w (Left w n.defs) := by
  have hbx := below_box w #[.int .i64 n.vars, .slice S.i n.inputs.length S.ic, .slice S.l n.latches.length S.lc, .slice S.o n.outs.length S.oc, .slice S.b n.bads.length S.bc, .slice S.c n.cons.length S.cc, .slice S.m n.mems.length S.mc, .slice S.a n.ands.length S.ac] 27
  have hM := netBox_new w n S 27
  have hN := NetAt.later h hbx (by simp)
  have hi1 := hm.inputs
  have hl1 := hm.latches
  have hm1 := hm.mems
  have ha1 := hm.ands
  have hp1 := Lib.hid hm.ports
  have HT := Lib.hid ht
  clear h hm ht
  have hO0 := Own.empty (w.alloc (.cells #[.int .i64 n.vars, .slice S.i n.inputs.length S.ic, .slice S.l n.latches.length S.lc, .slice S.o n.outs.length S.oc, .slice S.b n.bads.length S.bc, .slice S.c n.cons.length S.cc, .slice S.m n.mems.length S.mc, .slice S.a n.ands.length S.ac] 27)) _ (Nat.le_refl _) (w.heap.size + 1) (by simp)
  have hS0 : Src ((w.alloc (.cells #[.int .i64 n.vars, .slice S.i n.inputs.length S.ic, .slice S.l n.latches.length S.lc, .slice S.o n.outs.length S.oc, .slice S.b n.bads.length S.bc, .slice S.c n.cons.length S.cc, .slice S.m n.mems.length S.mc, .slice S.a n.ands.length S.ac] 27)).alloc (.cells #[] 3)) ((w.alloc (.cells #[.int .i64 n.vars, .slice S.i n.inputs.length S.ic, .slice S.l n.latches.length S.lc, .slice S.o n.outs.length S.oc, .slice S.b n.bads.length S.bc, .slice S.c n.cons.length S.cc, .slice S.m n.mems.length S.mc, .slice S.a n.ands.length S.ac] 27)).alloc (.cells #[] 3)).heap.size S.i n.inputs := (hN.inputs.below ((Below.refl _ _).alloc (Nat.le_refl _) _) (Nat.le_refl _)).wider (by simp)
  have hz : ([] : List Int).length ≤ 1000000 := Nat.zero_le _
  have HN := Lib.hid (And.intro hN (And.intro hM hbx))
  clear hbx hM hN
  go_enter Try.func69, Try.ntmps69
  go_wp2_with (at_builtin; refine wpl_app rfl _ _ rfl rfl hO0 rfl rfl hS0 hz hi1 ?_; intro v1 w1 hO1 hW1)
  clear hO0 hS0 hW1 hz
  generalize w.alloc (.cells #[.int .i64 n.vars, .slice S.i n.inputs.length S.ic, .slice S.l n.latches.length S.lc, .slice S.o n.outs.length S.oc, .slice S.b n.bads.length S.bc, .slice S.c n.cons.length S.cc, .slice S.m n.mems.length S.mc, .slice S.a n.ands.length S.ac] 27) = w2 at HN hO1 ⊢
  simp only [List.nil_append] at hO1
  have HB := Lib.hid HN.out.2.2
  go_loopg [3, 4] n.latches.length (fun m s3 s4 wx => ∃ (k : Nat) (L : List Int), k + m = n.latches.length ∧ s4 = .int .i64 k ∧ Own w2.heap.size w2 wx s3 L ∧ Aside (L ++ ((n.latches.drop k).map PLatch.lv ++ (n.mems.flatMap PMem.data ++ n.ands.map PAnd.av)) = n.defs))
  case atStart => exact ⟨0, n.inputs, by omega, rfl, hO1, by simp [Aside, PNet.defs]⟩
  case round =>
    obtain ⟨k, L, hk, rfl, hO, HL⟩ := hrel
    generalize gk = m at *
    have hL : L.length ≤ 1000000 := Nat.le_trans (len_of HL.out) hd
    obtain ⟨e0, e1, e2, e3, e4, e5, e6, e7, e8⟩ := HN.out.2.1.below hO.2.1 HN.out.2.1.lt
    have hNw := NetAt.below hO.2.1 (Nat.le_refl _) HN.out.1
    by_cases hlt : k < n.latches.length
    · obtain ⟨x, hx⟩ := some_of_lt hlt
      have hltI : (k : Int) < (n.latches.length : Int) := by omega
      obtain ⟨b, o, hS, hbg, hcell⟩ := hNw.latches.at hx
      obtain ⟨m0, m1, m2⟩ := hcell k x hx
      rw [hS] at e2
      have HX := Lib.hid (show L ++ [x.lv] ++ ((n.latches.drop (k + 1)).map PLatch.lv ++ (n.mems.flatMap PMem.data ++ n.ands.map PAnd.av)) = n.defs by
        rw [← HL.out, drop_some hx]; simp)
      clear hS hcell hNw hx HL
      go_wp2_with (at_builtin; refine wpl_one rfl _ _ rfl rfl hO rfl hL ?_; intro v2 w3 hO2 hW2)
      go_roundg (m - 1)
      case measure => omega
      case rel => exact ⟨k + 1, _, by omega, by first | rfl | simp, hO2, HX.out⟩
    · have hltn : ¬ ((k : Int) < (n.latches.length : Int)) := by omega
      have HL2 := Lib.hid (show L ++ (n.mems.flatMap PMem.data ++ n.ands.map PAnd.av) = n.defs by
        rw [← HL.out, List.drop_eq_nil_of_le (by omega)]; simp)
      clear HL hNw
      go_wp2
      go_loopg [3, 5] n.mems.length (fun m s3 s5 wx => ∃ (k : Nat) (L : List Int), k + m = n.mems.length ∧ s5 = .int .i64 k ∧ Own w2.heap.size w2 wx s3 L ∧ Aside (L ++ ((n.mems.drop k).flatMap PMem.data ++ n.ands.map PAnd.av) = n.defs))
      case atStart => exact ⟨0, L, by omega, rfl, hO, HL2.out⟩
      case round =>
        clear hO HL2 hL e0 e1 e2 e3 e4 e5 e6 e7 e8 hltn hk hlt
        obtain ⟨i, L, hi, rfl, hO, HL⟩ := hrel
        generalize gk = m2 at *
        have hL : L.length ≤ 1000000 := Nat.le_trans (len_of HL.out) hd
        obtain ⟨e0, e1, e2, e3, e4, e5, e6, e7, e8⟩ := HN.out.2.1.below hO.2.1 HN.out.2.1.lt
        have hNw := NetAt.below hO.2.1 (Nat.le_refl _) HN.out.1
        by_cases hlt : i < n.mems.length
        · obtain ⟨x, hx⟩ := some_of_lt hlt
          have hltI : (i : Int) < (n.mems.length : Int) := by omega
          have HX := Lib.hid hx
          have HL2 := Lib.hid (show L ++ (x.mr.flatMap (fun r => dataL r.rv x.mw) ++ ((n.mems.drop (i + 1)).flatMap PMem.data ++ n.ands.map PAnd.av)) = n.defs by
            rw [← HL.out, drop_some hx]; simp [PMem.data])
          have hxt := HT.out x (mem_of_some hx)
          have hxl := (hp1.out x (mem_of_some hx)).1
          obtain ⟨b, o, hS, hbg, hcell⟩ := hNw.mems.at hx
          obtain ⟨a1, c1, a2, c2, m0, m1, m2', m3, m4, hP⟩ := hcell i x hx
          rw [hS] at e6
          clear hS hcell hNw hx HL hP m0 m1 m2' m3 m4
          go_wp2
          go_loopg [3, 6] x.mr.length (fun m s3 s6 wx => ∃ (j : Nat) (L : List Int), j + m = x.mr.length ∧ s6 = .int .i64 j ∧ Own w2.heap.size w2 wx s3 L ∧ Aside (L ++ ((x.mr.drop j).flatMap (fun r => dataL r.rv x.mw) ++ ((n.mems.drop (i + 1)).flatMap PMem.data ++ n.ands.map PAnd.av)) = n.defs))
          case atStart => exact ⟨0, L, by omega, rfl, hO, HL2.out⟩
          case round =>
            clear hO HL2 hL e0 e1 e2 e3 e4 e5 e6 e7 e8
            obtain ⟨j, L, hj, rfl, hO, HL⟩ := hrel
            generalize gk = m3 at *
            have hL : L.length ≤ 1000000 := Nat.le_trans (len_of HL.out) hd
            obtain ⟨e0, e1, e2, e3, e4, e5, e6, e7, e8⟩ := HN.out.2.1.below hO.2.1 HN.out.2.1.lt
            have hNw := NetAt.below hO.2.1 (Nat.le_refl _) HN.out.1
            obtain ⟨b, o, hS, hbg, hcell⟩ := hNw.mems.at HX.out
            obtain ⟨a1, c1, a2, c2, q0, q1, q2, q3, q4, hP⟩ := hcell i x HX.out
            rw [hS] at e6
            clear hS hcell hNw
            by_cases hjl : j < x.mr.length
            · obtain ⟨r, hr⟩ := some_of_lt hjl
              have hjlI : (j : Int) < (x.mr.length : Int) := by omega
              have hrt := hxt.2.2 r (mem_of_some hr)
              have HC := Lib.hid (rdata_any x a1 c1 a2 c2 j r wr (Ports.wider hO.2.2 hP) hr hxl (by have := hxt.1; have := hxt.2.1; omega) hrt)
              have hLr : (dataL r.rv x.mw).length ≤ 1000000 := by rw [dataL_len]; have := hxt.2.1; omega
              have HX2 := Lib.hid (show L ++ dataL r.rv x.mw ++ ((x.mr.drop (j + 1)).flatMap (fun r => dataL r.rv x.mw) ++ ((n.mems.drop (i + 1)).flatMap PMem.data ++ n.ands.map PAnd.av)) = n.defs by
                rw [← HL.out, drop_some hr]; simp)
              have HXT := Lib.hid hxt
              clear hP hr hrt HL hxt
              go_wp2_with (first | (go_at_call 19; refine HC.out.mono ?_; rintro e w3 ⟨v3, rfl, hO3⟩; obtain ⟨A3, c3, rfl, hs3, hc3, hd3⟩ := hO3.form) | (at_builtin; refine wpl_app rfl _ _ rfl rfl (hO.call hO3.2.1) rfl rfl hs3 hL hLr ?_; intro v4 w4 hO4 hW4))
              go_roundg (m3 - 1)
              case measure => omega
              case rel => exact ⟨j + 1, _, by omega, by first | rfl | simp, hO4, HX2.out⟩
            · have hjn : ¬ ((j : Int) < (x.mr.length : Int)) := by omega
              have HX2 := Lib.hid (show L ++ ((n.mems.drop (i + 1)).flatMap PMem.data ++ n.ands.map PAnd.av) = n.defs by
                rw [← HL.out, List.drop_eq_nil_of_le (show x.mr.length ≤ j by omega)]; simp)
              clear HL hP
              go_wp2
              go_roundg (m2 - 1)
              case measure => omega
              case rel => exact ⟨i + 1, _, by omega, by first | rfl | simp, hO, HX2.out⟩
        · have hltn : ¬ ((i : Int) < (n.mems.length : Int)) := by omega
          have HL2 := Lib.hid (show L ++ n.ands.map PAnd.av = n.defs by
            rw [← HL.out, List.drop_eq_nil_of_le (show n.mems.length ≤ i by omega)]; simp)
          clear HL hNw
          go_wp2
          go_loopg [3, 7] n.ands.length (fun m s3 s7 wx => ∃ (k : Nat) (L : List Int), k + m = n.ands.length ∧ s7 = .int .i64 k ∧ Own w2.heap.size w2 wx s3 L ∧ Aside (L ++ (n.ands.drop k).map PAnd.av = n.defs))
          case atStart => exact ⟨0, L, by omega, rfl, hO, HL2.out⟩
          case round =>
            clear hO HL2 hL e0 e1 e2 e3 e4 e5 e6 e7 e8 hltn hi hlt
            obtain ⟨k, L, hk, rfl, hO, HL⟩ := hrel
            generalize gk = m at *
            have hL : L.length ≤ 1000000 := Nat.le_trans (len_of HL.out) hd
            obtain ⟨e0, e1, e2, e3, e4, e5, e6, e7, e8⟩ := HN.out.2.1.below hO.2.1 HN.out.2.1.lt
            have hNw := NetAt.below hO.2.1 (Nat.le_refl _) HN.out.1
            by_cases hlt : k < n.ands.length
            · obtain ⟨x, hx⟩ := some_of_lt hlt
              have hltI : (k : Int) < (n.ands.length : Int) := by omega
              obtain ⟨b, o, hS, hbg, hcell⟩ := hNw.ands.at hx
              obtain ⟨m0, m1, m2⟩ := hcell k x hx
              rw [hS] at e7
              have HX := Lib.hid (show L ++ [x.av] ++ (n.ands.drop (k + 1)).map PAnd.av = n.defs by
                rw [← HL.out, drop_some hx]; simp)
              clear hS hcell hNw hx HL
              go_wp2_with (at_builtin; refine wpl_one rfl _ _ rfl rfl hO rfl hL ?_; intro v2 w3 hO2 hW2)
              go_roundg (m - 1)
              case measure => omega
              case rel => exact ⟨k + 1, _, by omega, by first | rfl | simp, hO2, HX.out⟩
            · have hltn : ¬ ((k : Int) < (n.ands.length : Int)) := by omega
              have HL2 := Lib.hid (show L = n.defs by
                rw [← HL.out, List.drop_eq_nil_of_le (show n.ands.length ≤ k by omega)]; simp)
              clear HL hNw
              go_wp2
              go_ret
              exact ⟨_, rfl, own_cast (hO.down HB.out HB.out.size) HL2.out⟩
end Go.Proofs.Ytchnpooijaalnaa
