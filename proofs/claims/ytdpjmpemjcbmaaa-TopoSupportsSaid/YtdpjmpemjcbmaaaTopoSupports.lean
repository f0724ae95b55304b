/- The law TopoSupports returns true for every netlist and every list of literals (no condition). -/
import Derived.Test.YtdpjmpemjcbmaaaTSupport
import Derived.Test.YtdpjmpemjcbmaaaTAlive
import Derived.Test.YtdpjmpemjcbmaaaSame6
import Derived.Test.YtdpjmpemjcbmaaaLaw
import Derived.Deep.RegionHeld3
import Derived.Deep.DrawnRows
import Derived.ProofKit
import Derived.OpenShut
import Derived.ChangeSlices
namespace Go.Proofs.Ytdpjmpemjcbmaaa.topoSupports
open Go.ChangeShapes Go.WideShapes Go.RowKit
set_option linter.unusedVariables false

theorem own : ownKnob Try.prog.godebug = none := by kernel_rfl

theorem support_len (n : PNet) (l : List Int) : (n.support l).length ≤ 1000000 := by
  unfold PNet.support
  split
  · rename_i hc
    split
    · simp
    · have := pickOf_len n.vars.toNat (backAll (by assumption) (seedOf n.vars.toNat l))
      have hs : n.sound = 0 := by
        unfold PNet.check at hc
        split at hc
        · assumption
        · exact hc
      have := (good6_of hs).1.vars
      show (pickOf _ _).length ≤ _
      omega
  · simp

set_option maxRecDepth 100000 in
set_option maxHeartbeats 4000000 in
theorem walk_light (ha : ∀ W, Calls Try.prog 8 #[] W fun e w' => e = .returned (.bool true) ∧ Below W.heap.size W w') (n : PNet) (S : NetS) (Al : Option Addr) (cl : Nat) (l : List Int) (w : World) (h : NetAt w w.heap.size S n) (hs : Src w w.heap.size Al l) (hf : n.fits) (hl : n.light6 = true) (h60 : l.length ≤ 60) :
    Calls Try.prog 5 #[netV n S, .slice Al l.length cl] w fun e w' => e = .returned (.bool true) ∧ Below w.heap.size w w' := by
  have hbx := below_box w #[.int .i64 n.vars, .slice S.i n.inputs.length S.ic, .slice S.l n.latches.length S.lc, .slice S.o n.outs.length S.oc, .slice S.b n.bads.length S.bc, .slice S.c n.cons.length S.cc, .slice S.m n.mems.length S.mc, .slice S.a n.ands.length S.ac] 27
  have hM := netBox_new w n S 27
  have hN := NetAt.later h hbx (by simp)
  have hli := light6_any n S _ hN
  rw [hl] at hli
  have hmo := (fits_light6 hl).1
  have hne := (fits_light6 hl).2.1
  have hnn := (fits_light6 hl).2.2
  unfold netV
  have HL := Lib.hid hli
  have HA := Lib.hid ha
  have h60I : ¬ (60 : Int) < (l.length : Int) := by omega
  have hsl := hs.below hbx (Nat.le_refl _)
  clear hli ha hs
  go_enter Try.func5, Try.ntmps5
  go_wp2_with (go_at_call 7; refine HL.out.mono ?_; rintro e w2 ⟨rfl, hb2⟩)
  have HB := Lib.hid (below_on hbx hb2)
  have hN2 := NetAt.later hN hb2 hb2.size
  have hM2 := hM.below hb2 hM.lt
  have HSL := Lib.hid (Src.wider (hsl.below hb2 (Nat.le_trans (Nat.le_of_lt (Nat.lt_succ_self _)) (by simp))) (Nat.le_trans (show w.heap.size ≤ (w.alloc (.cells #[.int .i64 n.vars, .slice S.i n.inputs.length S.ic, .slice S.l n.latches.length S.lc, .slice S.o n.outs.length S.oc, .slice S.b n.bads.length S.bc, .slice S.c n.cons.length S.cc, .slice S.m n.mems.length S.mc, .slice S.a n.ands.length S.ac] 27)).heap.size by simp) hb2.size))
  have hgl := hM2.lt
  have HM2 := Lib.hid hM2
  have HN2 := Lib.hid hN2
  clear hbx hM hN hN2 hM2 hb2 hsl h
  go_loopg [5] l.length (fun m s5 wx => ∃ k : Nat, k + m = l.length ∧ s5 = .int .i64 k ∧ Aside (∀ x ∈ l.take k, 0 ≤ x ∧ x ≤ 1099511627776) ∧ w2 = wx)
  case atStart => exact ⟨0, by omega, rfl, by simp [Aside], rfl⟩
  case round =>
    obtain ⟨k, hk, rfl, HI, rfl⟩ := hrel
    generalize gk = m at *
    by_cases hlt : k < l.length
    · obtain ⟨x, hx⟩ := some_of_lt hlt
      have hltI : (k : Int) < (l.length : Int) := by omega
      have hk0 : (0 : Int) ≤ (k : Int) := by omega
      obtain ⟨b, o, hS, hbg, hcell⟩ := HSL.out.at hx
      have hc := hcell k x hx
      by_cases h0 : x < 0
      · have HX := Lib.hid (And.intro hx hS)
        subst hS
        clear hcell hx
        go_wp2_with (first | (go_at_call 8; refine (HA.out _).mono ?_; rintro e w3 ⟨rfl, hb3⟩))
        go_ret
        exact ⟨rfl, below_on HB.out hb3⟩
      · by_cases h1 : (1099511627776 : Int) < x
        · subst hS
          clear hcell hx
          go_wp2_with (first | (go_at_call 8; refine (HA.out _).mono ?_; rintro e w3 ⟨rfl, hb3⟩))
          go_ret
          exact ⟨rfl, below_on HB.out hb3⟩
        · have HI2 := Lib.hid (show ∀ y ∈ l.take (k + 1), 0 ≤ y ∧ y ≤ 1099511627776 by
            intro y hy
            rw [take_some hx, List.mem_append] at hy
            rcases hy with hy | hy
            · exact HI.out y hy
            · simp at hy; subst hy; omega)
          subst hS
          clear hcell hx
          go_wp2
          go_roundg (m - 1)
          case measure => omega
          case rel => exact ⟨k + 1, by omega, by first | rfl | simp, HI2.out, rfl⟩
    · have hltn : ¬ ((k : Int) < (l.length : Int)) := by omega
      have hlr : ∀ x ∈ l, 0 ≤ x ∧ x ≤ 2199023255552 := fun x hx => by
        have := HI.out x (by rw [List.take_of_length_le (by omega)]; exact hx)
        omega
      have HK := Lib.hid fun (W : World) (hW : Below w2.heap.size w2 W) => HM2.out.below hW HM2.out.lt
      have HQ1 := Lib.hid fun (W : World) (hW : (W.cell? ⟨w.heap.size, 0, none⟩ = some (.int .i64 n.vars) ∧ W.cell? ⟨w.heap.size, 1, none⟩ = some (.slice S.i n.inputs.length S.ic) ∧ W.cell? ⟨w.heap.size, 2, none⟩ = some (.slice S.l n.latches.length S.lc) ∧ W.cell? ⟨w.heap.size, 3, none⟩ = some (.slice S.o n.outs.length S.oc) ∧ W.cell? ⟨w.heap.size, 4, none⟩ = some (.slice S.b n.bads.length S.bc) ∧ W.cell? ⟨w.heap.size, 5, none⟩ = some (.slice S.c n.cons.length S.cc) ∧ W.cell? ⟨w.heap.size, 6, none⟩ = some (.slice S.m n.mems.length S.mc) ∧ W.cell? ⟨w.heap.size, 7, none⟩ = some (.slice S.a n.ands.length S.ac)) ∧ Hid (Below w2.heap.size w2 W)) => support_any n S Al cl l W (NetAt.later HN2.out hW.2.out hW.2.out.size) (Src.wider (HSL.out.below hW.2.out (Nat.le_refl _)) hW.2.out.size) hf hmo hne hnn (by omega) hlr
      have HQ2 := Lib.hid fun (W : World) (hW : (W.cell? ⟨w.heap.size, 0, none⟩ = some (.int .i64 n.vars) ∧ W.cell? ⟨w.heap.size, 1, none⟩ = some (.slice S.i n.inputs.length S.ic) ∧ W.cell? ⟨w.heap.size, 2, none⟩ = some (.slice S.l n.latches.length S.lc) ∧ W.cell? ⟨w.heap.size, 3, none⟩ = some (.slice S.o n.outs.length S.oc) ∧ W.cell? ⟨w.heap.size, 4, none⟩ = some (.slice S.b n.bads.length S.bc) ∧ W.cell? ⟨w.heap.size, 5, none⟩ = some (.slice S.c n.cons.length S.cc) ∧ W.cell? ⟨w.heap.size, 6, none⟩ = some (.slice S.m n.mems.length S.mc) ∧ W.cell? ⟨w.heap.size, 7, none⟩ = some (.slice S.a n.ands.length S.ac)) ∧ Hid (Below w2.heap.size w2 W)) => rsupport_any n S Al cl l W (NetAt.later HN2.out hW.2.out hW.2.out.size) (Src.wider (HSL.out.below hW.2.out (Nat.le_refl _)) hW.2.out.size) hf hmo hne hnn (by omega) hlr
      have HS := Lib.hid fun (W V : World) (hW : (W.cell? ⟨w.heap.size, 0, none⟩ = some (.int .i64 n.vars) ∧ W.cell? ⟨w.heap.size, 1, none⟩ = some (.slice S.i n.inputs.length S.ic) ∧ W.cell? ⟨w.heap.size, 2, none⟩ = some (.slice S.l n.latches.length S.lc) ∧ W.cell? ⟨w.heap.size, 3, none⟩ = some (.slice S.o n.outs.length S.oc) ∧ W.cell? ⟨w.heap.size, 4, none⟩ = some (.slice S.b n.bads.length S.bc) ∧ W.cell? ⟨w.heap.size, 5, none⟩ = some (.slice S.c n.cons.length S.cc) ∧ W.cell? ⟨w.heap.size, 6, none⟩ = some (.slice S.m n.mems.length S.mc) ∧ W.cell? ⟨w.heap.size, 7, none⟩ = some (.slice S.a n.ands.length S.ac)) ∧ Hid (Below w2.heap.size w2 W)) (hV : Below W.heap.size W V) => show (V.cell? ⟨w.heap.size, 0, none⟩ = some (.int .i64 n.vars) ∧ V.cell? ⟨w.heap.size, 1, none⟩ = some (.slice S.i n.inputs.length S.ic) ∧ V.cell? ⟨w.heap.size, 2, none⟩ = some (.slice S.l n.latches.length S.lc) ∧ V.cell? ⟨w.heap.size, 3, none⟩ = some (.slice S.o n.outs.length S.oc) ∧ V.cell? ⟨w.heap.size, 4, none⟩ = some (.slice S.b n.bads.length S.bc) ∧ V.cell? ⟨w.heap.size, 5, none⟩ = some (.slice S.c n.cons.length S.cc) ∧ V.cell? ⟨w.heap.size, 6, none⟩ = some (.slice S.m n.mems.length S.mc) ∧ V.cell? ⟨w.heap.size, 7, none⟩ = some (.slice S.a n.ands.length S.ac)) ∧ Hid (Below w2.heap.size w2 V) from
        have k := HK.out V (below_on hW.2.out hV)
        ⟨⟨k.n0, k.n1, k.n2, k.n3, k.n4, k.n5, k.n6, k.n7⟩, Lib.hid (below_on hW.2.out hV)⟩
      have HS0 := Lib.hid fun (V : World) (hV : Below w2.heap.size w2 V) => show (V.cell? ⟨w.heap.size, 0, none⟩ = some (.int .i64 n.vars) ∧ V.cell? ⟨w.heap.size, 1, none⟩ = some (.slice S.i n.inputs.length S.ic) ∧ V.cell? ⟨w.heap.size, 2, none⟩ = some (.slice S.l n.latches.length S.lc) ∧ V.cell? ⟨w.heap.size, 3, none⟩ = some (.slice S.o n.outs.length S.oc) ∧ V.cell? ⟨w.heap.size, 4, none⟩ = some (.slice S.b n.bads.length S.bc) ∧ V.cell? ⟨w.heap.size, 5, none⟩ = some (.slice S.c n.cons.length S.cc) ∧ V.cell? ⟨w.heap.size, 6, none⟩ = some (.slice S.m n.mems.length S.mc) ∧ V.cell? ⟨w.heap.size, 7, none⟩ = some (.slice S.a n.ands.length S.ac)) ∧ Hid (Below w2.heap.size w2 V) from
        have k := HK.out V hV
        ⟨⟨k.n0, k.n1, k.n2, k.n3, k.n4, k.n5, k.n6, k.n7⟩, Lib.hid hV⟩
      have HLEN := Lib.hid (support_len n l)
      have e2 := HM2.out
      obtain ⟨e0, e1, e2', e3, e4, e5, e6, e7, e8⟩ := e2
      generalize hsp : n.support l = sp at HQ1 HQ2 HLEN
      clear hmo hne hnn hlr HI hsp
      go_wp2_with fail
      go_region_held3 (fun W => (W.cell? ⟨w.heap.size, 0, none⟩ = some (.int .i64 n.vars) ∧ W.cell? ⟨w.heap.size, 1, none⟩ = some (.slice S.i n.inputs.length S.ic) ∧ W.cell? ⟨w.heap.size, 2, none⟩ = some (.slice S.l n.latches.length S.lc) ∧ W.cell? ⟨w.heap.size, 3, none⟩ = some (.slice S.o n.outs.length S.oc) ∧ W.cell? ⟨w.heap.size, 4, none⟩ = some (.slice S.b n.bads.length S.bc) ∧ W.cell? ⟨w.heap.size, 5, none⟩ = some (.slice S.c n.cons.length S.cc) ∧ W.cell? ⟨w.heap.size, 6, none⟩ = some (.slice S.m n.mems.length S.mc) ∧ W.cell? ⟨w.heap.size, 7, none⟩ = some (.slice S.a n.ands.length S.ac)) ∧ Hid (Below w2.heap.size w2 W)) (first | exact HS0.out _ (Below.refl _ _).drew | exact HS.out _ _ (by assumption) (by assumption) | go_keep)
        (first
          | (go_at_call 16; refine (HQ1.out _ (by assumption)).mono ?_; rintro e w5 ⟨A5, c5, rfl, hs5, hb5⟩)
          | (go_at_call 17; refine (HQ2.out _ (by assumption)).mono ?_; intro e w6 hz6; obtain ⟨A6, c6, rfl, hs6, hb6⟩ := hz6.lists)
          | (go_at_call 15; refine (same6_any sp A5 c5 A6 c6 _ (by first | exact hs5 | exact Src.wider (hs5.below hb6 (Nat.le_refl _)) hb6.size) (by first | exact hs6 | exact Src.wider (hs6.below hb5 (Nat.le_refl _)) hb5.size) HLEN.out).mono ?_; rintro e w7 ⟨rfl, hb7⟩)
          | (go_at_call 8; refine (HA.out _).mono ?_; rintro e w8 ⟨rfl, hb8⟩)
          | fail)
      all_goals
        have HE := Lib.hid (show (w8.cell? ⟨w.heap.size, 0, none⟩ = some (.int .i64 n.vars) ∧ w8.cell? ⟨w.heap.size, 1, none⟩ = some (.slice S.i n.inputs.length S.ic) ∧ w8.cell? ⟨w.heap.size, 2, none⟩ = some (.slice S.l n.latches.length S.lc) ∧ w8.cell? ⟨w.heap.size, 3, none⟩ = some (.slice S.o n.outs.length S.oc) ∧ w8.cell? ⟨w.heap.size, 4, none⟩ = some (.slice S.b n.bads.length S.bc) ∧ w8.cell? ⟨w.heap.size, 5, none⟩ = some (.slice S.c n.cons.length S.cc) ∧ w8.cell? ⟨w.heap.size, 6, none⟩ = some (.slice S.m n.mems.length S.mc) ∧ w8.cell? ⟨w.heap.size, 7, none⟩ = some (.slice S.a n.ands.length S.ac)) ∧ Hid (Below w2.heap.size w2 w8) from by assumption).2
        go_wp2_with fail
        go_ret
        exact ⟨ret_bool (by first | rfl | simp), below_on HB.out HE.out.out⟩
theorem walk_heavy (ha : ∀ W, Calls Try.prog 8 #[] W fun e w' => e = .returned (.bool true) ∧ Below W.heap.size W w') (n : PNet) (S : NetS) (Al : Option Addr) (cl : Nat) (l : List Int) (w : World) (h : NetAt w w.heap.size S n) (hl : n.light6 = false ∨ 60 < l.length) :
    Calls Try.prog 5 #[netV n S, .slice Al l.length cl] w fun e w' => e = .returned (.bool true) ∧ Below w.heap.size w w' := by
  have hbx := below_box w #[.int .i64 n.vars, .slice S.i n.inputs.length S.ic, .slice S.l n.latches.length S.lc, .slice S.o n.outs.length S.oc, .slice S.b n.bads.length S.bc, .slice S.c n.cons.length S.cc, .slice S.m n.mems.length S.mc, .slice S.a n.ands.length S.ac] 27
  have hli := light6_any n S _ (NetAt.later h hbx (by simp))
  unfold netV
  have HL := Lib.hid hli
  have HA := Lib.hid ha
  have HB := Lib.hid hbx
  clear hli ha hbx h
  cases hq : n.light6 with
  | false =>
    rw [hq] at HL
    clear hl hq
    go_enter Try.func5, Try.ntmps5
    go_wp2_with (first | (go_at_call 7; refine HL.out.mono ?_; rintro e w2 ⟨rfl, hb2⟩) | (go_at_call 8; refine (HA.out _).mono ?_; rintro e w3 ⟨rfl, hb3⟩))
    go_ret
    exact ⟨rfl, below_on HB.out (below_on hb2 hb3)⟩
  | true =>
    rw [hq] at HL hl
    have h60 : (60 : Int) < (l.length : Int) := by
      rcases hl with hl | hl
      · cases hl
      · omega
    clear hl hq
    go_enter Try.func5, Try.ntmps5
    go_wp2_with (first | (go_at_call 7; refine HL.out.mono ?_; rintro e w2 ⟨rfl, hb2⟩) | (go_at_call 8; refine (HA.out _).mono ?_; rintro e w3 ⟨rfl, hb3⟩))
    go_ret
    exact ⟨rfl, below_on HB.out (below_on hb2 hb3)⟩
set_option maxRecDepth 100000 in
theorem lifted (os : Os) (started : os.Started) (H : Type) (enc : TypeId × Value → H) :
    ReturnsInHanded {} Try.checked os 5 .any (Rows.topoSupportsSpec.pre6 enc Try.prog Try.f5 Rows.topoSupportsRow.domain false) (Rows.topoSupportsSpec.post enc Try.prog Try.f5 false true false false) := by
  refine returnsInHanded_of_change (C := Try.checked) own started (by kernel_rfl) Try.func5
    (ChangeSpec.witness6 (enc := enc) (C := Try.checked) false ⟨#[], #[.agg #[.int .i64 0, .slice none 0 0, .slice none 0 0, .slice none 0 0, .slice none 0 0, .slice none 0 0, .slice none 0 0, .slice none 0 0], .slice none 0 0], []⟩ 8 (by kernel_rfl) (by kernel_rfl) (by kernel_rfl) (by kernel_rfl)) ?_
  intro W base args ds gs before hval0 hW hcnd _
  have hval : ∀ (j : Nat) t v, Try.f5.params[j]? = some t → args[j]? = some v → Value.okWide Try.prog W .any base t v := hval0
  have hW' := hW
  obtain ⟨p, q, hA0, hV, rfl, hfz, hnd⟩ := hW
  have hA : DataW.TrodAll enc Try.prog W 0 (fun _ => true) true Try.f5.params.toList args.toList ds p := hA0
  rw [Try.params5] at hA hval
  have hAk := hA
  obtain ⟨v0, vs0, d0, ds0, p0, q0, hargs, rfl, rfl, h0, r0⟩ := trodAll_cons hA
  obtain ⟨v1, vs1, d1, ds1, p1, q1, rfl, rfl, rfl, h1, r1⟩ := trodAll_cons r0
  obtain ⟨rfl, rfl, rfl⟩ := trodAll_nil r1
  obtain rfl : args = #[v0, v1] := by cases args; simp_all
  obtain ⟨rfl, rfl⟩ := trodVars_none hV
  obtain ⟨n0, S0, rfl, hn0, hf0⟩ := open_net (hval 0 27 v0 rfl rfl) h0
  obtain ⟨a1, c1, l1, rfl, hs1, hi1, _, _⟩ := open_islice (hval 1 22 v1 rfl rfl) h1
  clear hA0 hval0
  simp only [List.append_nil] at hW' hAk
  have go : ∀ e W', (e = Ending.returned (.bool true) ∧ Below W.heap.size W W') → ∃ v, e = Ending.returned v ∧ Rows.topoSupportsSpec.post enc Try.checked.prog Try.f5 false true false false W #[netV n0 S0, .slice a1 l1.length c1] v W' :=
    fun e W' ⟨he, hb⟩ => ⟨_, he, _, _, _, [], _, [], hW', trodAll_cons_mk (shut_bool Try.underlying4 _) trodAll_mk0, all_stay Try.laidOut [27, 22] (by kernel_rfl) hb _ _ _ hAk (fun x hx => hW'.lt x hx), rfl, hb.frame _, fun h => by cases h⟩
  by_cases hq : n0.light6 = true ∧ l1.length ≤ 60
  · exact (walk_light alive6_any n0 S0 a1 c1 l1 W hn0 hs1 hf0 hq.1 hq.2).mono go
  · refine (walk_heavy alive6_any n0 S0 a1 c1 l1 W hn0 ?_).mono go
    cases hl : n0.light6 with
    | true => exact .inr (by rw [hl] at hq; simp at hq; omega)
    | false => exact .inl rfl

theorem over : Rows.topoSupportsRow.holds Try.pinned (OpenSpec.ofChange Rows.topoSupportsSpec) :=
  OpenClaim.holds_of_wide 5 Try.f5 rfl rfl rfl rfl rfl rfl rfl ⟨rfl, rfl, rfl, rfl, rfl⟩ rfl rfl rfl rfl rfl (by kernel_rfl) Try.func5 (by kernel_rfl)
    (of_decide_eq_true (by kernel_rfl)) (by unfold Func.isWrapper; first | (rw [if_pos (by decide +kernel)]; kernel_rfl) | (rw [if_neg (by decide +kernel)]; exact ⟨rfl, rfl⟩))
    (fun os started H enc _ => lifted os started H enc)

theorem proved : Rows.TopoSupportsSaid :=
  over
#print axioms proved
end Go.Proofs.Ytdpjmpemjcbmaaa.topoSupports
