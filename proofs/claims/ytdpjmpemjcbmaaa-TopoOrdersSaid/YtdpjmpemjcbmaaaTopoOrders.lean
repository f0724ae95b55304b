/- The law TopoOrders returns true for every netlist (no condition). -/
import Derived.Test.YtdpjmpemjcbmaaaTSortB
import Derived.Test.YtdpjmpemjcbmaaaSame6
import Derived.Test.YtdpjmpemjcbmaaaLaw
import Derived.ProofKit
import Derived.OpenShut
import Derived.ChangeSlices
namespace Go.Proofs.Ytdpjmpemjcbmaaa.topoOrders
open Go.ChangeShapes Go.WideShapes Go.RowKit
set_option linter.unusedVariables false

theorem own : ownKnob Try.prog.godebug = none := by kernel_rfl

/-- The order by definition as it is answered. -/
def ROrder (w : World) (o : Option (List PNode)) (e : Ending) (w' : World) : Prop :=
  ∃ A c, e = .returned (.tuple #[.slice A (o.getD []).length c, .bool o.isSome]) ∧ NodesAt w' (fun b => b < w'.heap.size) A (o.getD []) ∧ Below w.heap.size w w'
theorem OrderLeft.told {B : Nat} {w : World} {o : Option (List PNode)} {e : Ending} {w' : World} (h : OrderLeft B w o e w') : ROrder w o e w' := by
  cases o with
  | none =>
    obtain ⟨rfl, hb⟩ := h
    exact ⟨none, 0, rfl, fun hn => absurd rfl hn, hb⟩
  | some l =>
    obtain ⟨A, c, rfl, hN, hb⟩ := h
    exact ⟨A, c, rfl, hN.mono fun b hb => hb.2, hb⟩
theorem levels_small {n : PNet} : (n.levels.getD []).length ≤ 1000000 := by
  cases hl : n.levels with
  | none => simp
  | some L =>
    obtain ⟨hs, hlen⟩ := levels_len hl
    have := (good6_of hs).1.vars
    simp
    omega
theorem order_small {n : PNet} (hn : n.nodes.length ≤ 900) : (n.order.getD []).length ≤ 1000000 := by
  unfold PNet.order
  cases hl : n.levels with
  | none => simp
  | some L =>
    have := orderTo_len n.nodes L n.nodes.length
    have := Nat.mul_le_mul hn hn
    simp
    omega

set_option maxRecDepth 100000 in
set_option maxHeartbeats 4000000 in
theorem walk_gen (ha : ∀ W, Calls Try.prog 8 #[] W fun e w' => e = .returned (.bool true) ∧ Below W.heap.size W w') (n : PNet) (S : NetS) (w : World) (La : List Int) (q1 q2 : Bool) (D : List PNode) (hls : La.length ≤ 1000000) (hos : D.length ≤ 1000000)
    (hli : Calls Try.prog 7 #[.agg #[.int .i64 n.vars, .slice S.i n.inputs.length S.ic, .slice S.l n.latches.length S.lc, .slice S.o n.outs.length S.oc, .slice S.b n.bads.length S.bc, .slice S.c n.cons.length S.cc, .slice S.m n.mems.length S.mc, .slice S.a n.ands.length S.ac]] (w.alloc (.cells #[.int .i64 n.vars, .slice S.i n.inputs.length S.ic, .slice S.l n.latches.length S.lc, .slice S.o n.outs.length S.oc, .slice S.b n.bads.length S.bc, .slice S.c n.cons.length S.cc, .slice S.m n.mems.length S.mc, .slice S.a n.ands.length S.ac] 27)) fun e w' => e = .returned (.bool true) ∧ Below (w.alloc (.cells #[.int .i64 n.vars, .slice S.i n.inputs.length S.ic, .slice S.l n.latches.length S.lc, .slice S.o n.outs.length S.oc, .slice S.b n.bads.length S.bc, .slice S.c n.cons.length S.cc, .slice S.m n.mems.length S.mc, .slice S.a n.ands.length S.ac] 27)).heap.size (w.alloc (.cells #[.int .i64 n.vars, .slice S.i n.inputs.length S.ic, .slice S.l n.latches.length S.lc, .slice S.o n.outs.length S.oc, .slice S.b n.bads.length S.bc, .slice S.c n.cons.length S.cc, .slice S.m n.mems.length S.mc, .slice S.a n.ands.length S.ac] 27)) w')
    (h1 : ∀ W, Below (w.alloc (.cells #[.int .i64 n.vars, .slice S.i n.inputs.length S.ic, .slice S.l n.latches.length S.lc, .slice S.o n.outs.length S.oc, .slice S.b n.bads.length S.bc, .slice S.c n.cons.length S.cc, .slice S.m n.mems.length S.mc, .slice S.a n.ands.length S.ac] 27)).heap.size (w.alloc (.cells #[.int .i64 n.vars, .slice S.i n.inputs.length S.ic, .slice S.l n.latches.length S.lc, .slice S.o n.outs.length S.oc, .slice S.b n.bads.length S.bc, .slice S.c n.cons.length S.cc, .slice S.m n.mems.length S.mc, .slice S.a n.ands.length S.ac] 27)) W → Calls Try.prog 11 #[.agg #[.int .i64 n.vars, .slice S.i n.inputs.length S.ic, .slice S.l n.latches.length S.lc, .slice S.o n.outs.length S.oc, .slice S.b n.bads.length S.bc, .slice S.c n.cons.length S.cc, .slice S.m n.mems.length S.mc, .slice S.a n.ands.length S.ac]] W fun e w' => ∃ A c, e = .returned (.tuple #[.slice A La.length c, .bool q1]) ∧ Src w' w'.heap.size A La ∧ Below W.heap.size W w')
    (h2 : ∀ W, Below (w.alloc (.cells #[.int .i64 n.vars, .slice S.i n.inputs.length S.ic, .slice S.l n.latches.length S.lc, .slice S.o n.outs.length S.oc, .slice S.b n.bads.length S.bc, .slice S.c n.cons.length S.cc, .slice S.m n.mems.length S.mc, .slice S.a n.ands.length S.ac] 27)).heap.size (w.alloc (.cells #[.int .i64 n.vars, .slice S.i n.inputs.length S.ic, .slice S.l n.latches.length S.lc, .slice S.o n.outs.length S.oc, .slice S.b n.bads.length S.bc, .slice S.c n.cons.length S.cc, .slice S.m n.mems.length S.mc, .slice S.a n.ands.length S.ac] 27)) W → Calls Try.prog 12 #[.agg #[.int .i64 n.vars, .slice S.i n.inputs.length S.ic, .slice S.l n.latches.length S.lc, .slice S.o n.outs.length S.oc, .slice S.b n.bads.length S.bc, .slice S.c n.cons.length S.cc, .slice S.m n.mems.length S.mc, .slice S.a n.ands.length S.ac]] W fun e w' => ∃ A c, e = .returned (.tuple #[.slice A La.length c, .bool q1]) ∧ Src w' w'.heap.size A La ∧ Below W.heap.size W w')
    (h3 : ∀ W, Below (w.alloc (.cells #[.int .i64 n.vars, .slice S.i n.inputs.length S.ic, .slice S.l n.latches.length S.lc, .slice S.o n.outs.length S.oc, .slice S.b n.bads.length S.bc, .slice S.c n.cons.length S.cc, .slice S.m n.mems.length S.mc, .slice S.a n.ands.length S.ac] 27)).heap.size (w.alloc (.cells #[.int .i64 n.vars, .slice S.i n.inputs.length S.ic, .slice S.l n.latches.length S.lc, .slice S.o n.outs.length S.oc, .slice S.b n.bads.length S.bc, .slice S.c n.cons.length S.cc, .slice S.m n.mems.length S.mc, .slice S.a n.ands.length S.ac] 27)) W → Calls Try.prog 13 #[.agg #[.int .i64 n.vars, .slice S.i n.inputs.length S.ic, .slice S.l n.latches.length S.lc, .slice S.o n.outs.length S.oc, .slice S.b n.bads.length S.bc, .slice S.c n.cons.length S.cc, .slice S.m n.mems.length S.mc, .slice S.a n.ands.length S.ac]] W fun e w' => ∃ A c, e = .returned (.tuple #[.slice A D.length c, .bool q2]) ∧ Row w'.heap.size 3 (TNodeAt w') A D ∧ Below W.heap.size W w')
    (h4 : ∀ W, Below (w.alloc (.cells #[.int .i64 n.vars, .slice S.i n.inputs.length S.ic, .slice S.l n.latches.length S.lc, .slice S.o n.outs.length S.oc, .slice S.b n.bads.length S.bc, .slice S.c n.cons.length S.cc, .slice S.m n.mems.length S.mc, .slice S.a n.ands.length S.ac] 27)).heap.size (w.alloc (.cells #[.int .i64 n.vars, .slice S.i n.inputs.length S.ic, .slice S.l n.latches.length S.lc, .slice S.o n.outs.length S.oc, .slice S.b n.bads.length S.bc, .slice S.c n.cons.length S.cc, .slice S.m n.mems.length S.mc, .slice S.a n.ands.length S.ac] 27)) W → Calls Try.prog 14 #[.agg #[.int .i64 n.vars, .slice S.i n.inputs.length S.ic, .slice S.l n.latches.length S.lc, .slice S.o n.outs.length S.oc, .slice S.b n.bads.length S.bc, .slice S.c n.cons.length S.cc, .slice S.m n.mems.length S.mc, .slice S.a n.ands.length S.ac]] W fun e w' => ∃ A c, e = .returned (.tuple #[.slice A D.length c, .bool q2]) ∧ NodesAt w' (fun b => b < w'.heap.size) A D ∧ Below W.heap.size W w') :
    Calls Try.prog 4 #[.agg #[.int .i64 n.vars, .slice S.i n.inputs.length S.ic, .slice S.l n.latches.length S.lc, .slice S.o n.outs.length S.oc, .slice S.b n.bads.length S.bc, .slice S.c n.cons.length S.cc, .slice S.m n.mems.length S.mc, .slice S.a n.ands.length S.ac]] w fun e w' => e = .returned (.bool true) ∧ Below w.heap.size w w' := by
  have hbx := below_box w #[.int .i64 n.vars, .slice S.i n.inputs.length S.ic, .slice S.l n.latches.length S.lc, .slice S.o n.outs.length S.oc, .slice S.b n.bads.length S.bc, .slice S.c n.cons.length S.cc, .slice S.m n.mems.length S.mc, .slice S.a n.ands.length S.ac] 27
  have hM := netBox_new w n S 27
  have HK := Lib.hid fun (W : World) (hW : Below (w.alloc (.cells #[.int .i64 n.vars, .slice S.i n.inputs.length S.ic, .slice S.l n.latches.length S.lc, .slice S.o n.outs.length S.oc, .slice S.b n.bads.length S.bc, .slice S.c n.cons.length S.cc, .slice S.m n.mems.length S.mc, .slice S.a n.ands.length S.ac] 27)).heap.size (w.alloc (.cells #[.int .i64 n.vars, .slice S.i n.inputs.length S.ic, .slice S.l n.latches.length S.lc, .slice S.o n.outs.length S.oc, .slice S.b n.bads.length S.bc, .slice S.c n.cons.length S.cc, .slice S.m n.mems.length S.mc, .slice S.a n.ands.length S.ac] 27)) W) => hM.below hW hM.lt
  have HL := Lib.hid hli
  have HA := Lib.hid ha
  have H1 := Lib.hid h1
  have H2 := Lib.hid h2
  have H3 := Lib.hid h3
  have H4 := Lib.hid h4
  have HB := Lib.hid hbx
  have HLS := Lib.hid hls
  obtain ⟨e0, e1, e2, e3, e4, e5, e6, e7, e8⟩ := hM
  have hq1 : (q1 != q1) = false := by simp
  have hq2 : (q2 != q2) = false := by simp
  have hdd : ((D.length : Int) != (D.length : Int)) = false := by simp
  clear ha hli h1 h2 h3 h4 hbx hls
  go_enter Try.func4, Try.ntmps4
  go_wp2_with (first
    | (go_at_call 7; refine HL.out.mono ?_; rintro e w2 ⟨rfl, hb2⟩; obtain ⟨e0, e1, e2, e3, e4, e5, e6, e7, e8⟩ := HK.out w2 hb2)
    | (go_at_call 11; refine (H1.out w2 hb2).mono ?_; rintro e w3 ⟨A3, c3, rfl, hs3, hb3⟩; have hB3 := below_on hb2 hb3; obtain ⟨e0, e1, e2, e3, e4, e5, e6, e7, e8⟩ := HK.out w3 hB3)
    | (go_at_call 12; refine (H2.out w3 hB3).mono ?_; rintro e w4 ⟨A4, c4, rfl, hs4, hb4⟩; have hB4 := below_on hB3 hb4; obtain ⟨e0, e1, e2, e3, e4, e5, e6, e7, e8⟩ := HK.out w4 hB4)
    | (go_at_call 13; refine (H3.out w4 hB4).mono ?_; rintro e w5 ⟨A5, c5, rfl, hs5, hb5⟩; have hB5 := below_on hB4 hb5; obtain ⟨e0, e1, e2, e3, e4, e5, e6, e7, e8⟩ := HK.out w5 hB5)
    | (go_at_call 14; refine (H4.out w5 hB5).mono ?_; rintro e w6 ⟨A6, c6, rfl, hs6, hb6⟩; have hB6 := below_on hB5 hb6)
    | (go_at_call 15; refine (same6_any La A3 c3 A4 c4 w6 (Src.wider (hs3.below (below_on hb4 (below_on hb5 hb6)) (Nat.le_refl _)) (Nat.le_trans hb4.size (Nat.le_trans hb5.size hb6.size))) (Src.wider (hs4.below (below_on hb5 hb6) (Nat.le_refl _)) (Nat.le_trans hb5.size hb6.size)) HLS.out).mono ?_; rintro e w7 ⟨rfl, hb7⟩))
  have HB7 := Lib.hid (below_on hB6 hb7)
  have HS5 := Lib.hid (fun (k : Nat) (x : PNode) (hx : D[k]? = some x) => show ∃ b o, A5 = some ⟨b, o, none⟩ ∧ TNodeAt w7 b (o + k * 3) x from by
    obtain ⟨b, o, e, hlt, hc⟩ := hs5.at hx
    obtain ⟨t0, t1, t2⟩ := hc k x hx
    have hb := below_on hb6 hb7
    exact ⟨b, o, e, (hb.cell (p := ⟨b, o + k * 3, none⟩) hlt).trans t0, (hb.cell (p := ⟨b, o + k * 3 + 1, none⟩) hlt).trans t1, (hb.cell (p := ⟨b, o + k * 3 + 2, none⟩) hlt).trans t2⟩)
  have HS6 := Lib.hid (fun (k : Nat) (x : PNode) (hx : D[k]? = some x) => show ∃ b o, A6 = some ⟨b, o, none⟩ ∧ TNodeAt w7 b (o + k * 5) x from by
    obtain ⟨b, o, e, hlt, a, c, a2, c2, t0, t1, t2, _⟩ := hs6.at hx
    exact ⟨b, o, e, (hb7.cell (p := ⟨b, o + k * 5, none⟩) hlt).trans t0, (hb7.cell (p := ⟨b, o + k * 5 + 1, none⟩) hlt).trans t1, (hb7.cell (p := ⟨b, o + k * 5 + 2, none⟩) hlt).trans t2⟩)
  clear hs3 hs4 hs5 hs6 hb2 hb3 hb4 hb5 hb6 hb7 hB3 hB4 hB5 hB6 e0 e1 e2 e3 e4 e5 e6 e7 e8
  go_loopg [11] D.length (fun m s11 wx => ∃ k q : Nat, k + m = D.length ∧ s11 = .int .i64 k ∧ wx = w7.drewN q)
  case atStart => exact ⟨0, 0, by omega, rfl, rfl⟩
  case round =>
    obtain ⟨k, q, hk, rfl, rfl⟩ := hrel
    generalize gk = m at *
    by_cases hlt : k < D.length
    · obtain ⟨x, hx⟩ := some_of_lt hlt
      obtain ⟨b5, o5, rfl, t0, t1, t2⟩ := HS5.out k x hx
      obtain ⟨b6, o6, rfl, u0, u1, u2⟩ := HS6.out k x hx
      have hltI : (k : Int) < (D.length : Int) := by omega
      have hk0 : (0 : Int) ≤ (k : Int) := by omega
      have x0 : (x.nr != x.nr) = false := by simp
      have x1 : (x.nm != x.nm) = false := by simp
      have x2 : (x.na != x.na) = false := by simp
      clear hx
      go_wp2
      go_quiet (fail)
      go_wp2
      go_roundg (m - 1)
      case measure => omega
      case rel => exact ⟨k + 1, _, by omega, by first | rfl | simp, rfl⟩
    · have hltn : ¬ ((k : Int) < (D.length : Int)) := by omega
      go_wp2_with (first | (go_at_call 8; refine (HA.out _).mono ?_; rintro e w8 ⟨rfl, hb8⟩))
      go_ret
      exact ⟨rfl, below_on HB.out (below_on (below_drewN HB7.out _) hb8)⟩
theorem walk_light (ha : ∀ W, Calls Try.prog 8 #[] W fun e w' => e = .returned (.bool true) ∧ Below W.heap.size W w') (n : PNet) (S : NetS) (w : World) (h : NetAt w w.heap.size S n) (hf : n.fits) (hl : n.light6 = true) :
    Calls Try.prog 4 #[netV n S] w fun e w' => e = .returned (.bool true) ∧ Below w.heap.size w w' := by
  have hbx := below_box w #[.int .i64 n.vars, .slice S.i n.inputs.length S.ic, .slice S.l n.latches.length S.lc, .slice S.o n.outs.length S.oc, .slice S.b n.bads.length S.bc, .slice S.c n.cons.length S.cc, .slice S.m n.mems.length S.mc, .slice S.a n.ands.length S.ac] 27
  have hN := NetAt.later h hbx (by simp)
  have hli := light6_any n S _ hN
  rw [hl] at hli
  have hmo := (fits_light6 hl).1
  have hne := (fits_light6 hl).2.1
  have hnn := (fits_light6 hl).2.2
  exact walk_gen ha n S w (n.levels.getD []) n.levels.isSome n.order.isSome (n.order.getD []) levels_small (order_small hnn) hli
    (fun W hW => levels_any n S W (NetAt.later hN hW hW.size) hf hmo hne hnn)
    (fun W hW => (rlevels_any n S W (NetAt.later hN hW hW.size) hf hmo hne).mono fun e w' h => LevelsLeft.told h)
    (fun W hW => order_any n S W (NetAt.later hN hW hW.size) hf hmo hne hnn)
    (fun W hW => (rorder_any n S W.heap.size W (NetAt.later hN hW hW.size) (Nat.le_refl _) hf hmo hne hnn).mono fun e w' h => OrderLeft.told h)
theorem walk_heavy (ha : ∀ W, Calls Try.prog 8 #[] W fun e w' => e = .returned (.bool true) ∧ Below W.heap.size W w') (n : PNet) (S : NetS) (w : World) (h : NetAt w w.heap.size S n) (hl : n.light6 = false) :
    Calls Try.prog 4 #[netV n S] w fun e w' => e = .returned (.bool true) ∧ Below w.heap.size w w' := by
  have hbx := below_box w #[.int .i64 n.vars, .slice S.i n.inputs.length S.ic, .slice S.l n.latches.length S.lc, .slice S.o n.outs.length S.oc, .slice S.b n.bads.length S.bc, .slice S.c n.cons.length S.cc, .slice S.m n.mems.length S.mc, .slice S.a n.ands.length S.ac] 27
  have hli := light6_any n S _ (NetAt.later h hbx (by simp))
  rw [hl] at hli
  unfold netV
  have HL := Lib.hid hli
  have HA := Lib.hid ha
  have HB := Lib.hid hbx
  clear hli ha hbx h
  go_enter Try.func4, Try.ntmps4
  go_wp2_with (first | (go_at_call 7; refine HL.out.mono ?_; rintro e w2 ⟨rfl, hb2⟩) | (go_at_call 8; refine (HA.out _).mono ?_; rintro e w3 ⟨rfl, hb3⟩))
  go_ret
  exact ⟨rfl, below_on HB.out (below_on hb2 hb3)⟩
set_option maxRecDepth 100000 in
theorem lifted (os : Os) (started : os.Started) (H : Type) (enc : TypeId × Value → H) :
    ReturnsInHanded {} Try.checked os 4 .any (Rows.topoOrdersSpec.pre6 enc Try.prog Try.f4 Rows.topoOrdersRow.domain false) (Rows.topoOrdersSpec.post enc Try.prog Try.f4 false true false false) := by
  refine returnsInHanded_of_change (C := Try.checked) own started (by kernel_rfl) Try.func4
    (ChangeSpec.witness6 (enc := enc) (C := Try.checked) false ⟨#[], #[.agg #[.int .i64 0, .slice none 0 0, .slice none 0 0, .slice none 0 0, .slice none 0 0, .slice none 0 0, .slice none 0 0, .slice none 0 0]], []⟩ 8 (by kernel_rfl) (by kernel_rfl) (by kernel_rfl) (by kernel_rfl)) ?_
  intro W base args ds gs before hval0 hW hcnd _
  have hval : ∀ (j : Nat) t v, Try.f4.params[j]? = some t → args[j]? = some v → Value.okWide Try.prog W .any base t v := hval0
  have hW' := hW
  obtain ⟨p, q, hA0, hV, rfl, hfz, hnd⟩ := hW
  have hA : DataW.TrodAll enc Try.prog W 0 (fun _ => true) true Try.f4.params.toList args.toList ds p := hA0
  rw [Try.params4] at hA hval
  have hAk := hA
  obtain ⟨v0, vs0, d0, ds0, p0, q0, hargs, rfl, rfl, h0, r0⟩ := trodAll_cons hA
  obtain ⟨rfl, rfl, rfl⟩ := trodAll_nil r0
  obtain rfl : args = #[v0] := by cases args; simp_all
  obtain ⟨rfl, rfl⟩ := trodVars_none hV
  obtain ⟨n0, S0, rfl, hn0, hf0⟩ := open_net (hval 0 27 v0 rfl rfl) h0
  clear hA0 hval0
  simp only [List.append_nil] at hW' hAk
  have go : ∀ e W', (e = Ending.returned (.bool true) ∧ Below W.heap.size W W') → ∃ v, e = Ending.returned v ∧ Rows.topoOrdersSpec.post enc Try.checked.prog Try.f4 false true false false W #[netV n0 S0] v W' :=
    fun e W' ⟨he, hb⟩ => ⟨_, he, _, _, _, [], _, [], hW', trodAll_cons_mk (shut_bool Try.underlying4 _) trodAll_mk0, all_stay Try.laidOut [27] (by kernel_rfl) hb _ _ _ hAk (fun x hx => hW'.lt x hx), rfl, hb.frame _, fun h => by cases h⟩
  cases hl : n0.light6 with
  | true => exact (walk_light alive6_any n0 S0 W hn0 hf0 hl).mono go
  | false => exact (walk_heavy alive6_any n0 S0 W hn0 hl).mono go

theorem over : Rows.topoOrdersRow.holds Try.pinned (OpenSpec.ofChange Rows.topoOrdersSpec) :=
  OpenClaim.holds_of_wide 4 Try.f4 rfl rfl rfl rfl rfl rfl rfl ⟨rfl, rfl, rfl, rfl, rfl⟩ rfl rfl rfl rfl rfl (by kernel_rfl) Try.func4 (by kernel_rfl)
    (of_decide_eq_true (by kernel_rfl)) (by unfold Func.isWrapper; first | (rw [if_pos (by decide +kernel)]; kernel_rfl) | (rw [if_neg (by decide +kernel)]; exact ⟨rfl, rfl⟩))
    (fun os started H enc _ => lifted os started H enc)

theorem proved : Rows.TopoOrdersSaid :=
  over
#print axioms proved
end Go.Proofs.Ytdpjmpemjcbmaaa.topoOrders
