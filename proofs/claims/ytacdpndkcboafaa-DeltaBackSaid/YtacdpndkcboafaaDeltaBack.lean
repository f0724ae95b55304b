/- The statement DeltaBackSaid is proved: for every four numbers the law DeltaBack returns true. No condition. -/
import Derived.Test.YtacdpndkcboafaaAlive04
import Derived.Test.YtacdpndkcboafaaPair
import Derived.Test.YtacdpndkcboafaaGateGo
import Derived.Test.YtacdpndkcboafaaLaw
namespace Go.Proofs.Ytacdpndkcboafaa.deltaBack
open Go.ChangeShapes Go.WideShapes Go.RowKit
set_option linter.unusedVariables false

theorem own : ownKnob Try.prog.godebug = none := by kernel_rfl

set_option maxRecDepth 20000 in
theorem walk_out (n lhs a b : Int) (w : World) (h : n < 0 ∨ 1152921504606846976 < n ∨ lhs < 2 ∨ 1152921504606846976 < lhs) :
    Calls Try.prog 5 #[.int .i64 n, .int .i64 lhs, .int .i64 a, .int .i64 b] w fun e w' => e = .returned (.bool true) ∧ Below w.heap.size w w' := by
  have ha := Lib.hid alive_any
  by_cases h1 : n < 0
  · clear h
    go_enter Try.func5, Try.ntmps5
    go_wp2_with fail
    refine (ha.out _).mono ?_
    rintro e wz ⟨rfl, hbz⟩
    have HZ := Lib.hid hbz
    clear hbz
    go_wp2_with fail
    go_ret
    exact ⟨rfl, HZ.out⟩
  have h1I : 0 ≤ n := by omega
  by_cases h2 : 1152921504606846976 < n
  · clear h h1
    go_enter Try.func5, Try.ntmps5
    go_wp2_with fail
    refine (ha.out _).mono ?_
    rintro e wz ⟨rfl, hbz⟩
    have HZ := Lib.hid hbz
    clear hbz
    go_wp2_with fail
    go_ret
    exact ⟨rfl, HZ.out⟩
  have h2I : n ≤ 1152921504606846976 := by omega
  by_cases h3 : lhs < 2
  · clear h h1 h2
    go_enter Try.func5, Try.ntmps5
    go_wp2_with fail
    refine (ha.out _).mono ?_
    rintro e wz ⟨rfl, hbz⟩
    have HZ := Lib.hid hbz
    clear hbz
    go_wp2_with fail
    go_ret
    exact ⟨rfl, HZ.out⟩
  have h3I : 2 ≤ lhs := by omega
  have h4 : 1152921504606846976 < lhs := by omega
  clear h h1 h2 h3
  go_enter Try.func5, Try.ntmps5
  go_wp2_with fail
  refine (ha.out _).mono ?_
  rintro e wz ⟨rfl, hbz⟩
  have HZ := Lib.hid hbz
  clear hbz
  go_wp2_with fail
  go_ret
  exact ⟨rfl, HZ.out⟩

set_option maxRecDepth 100000 in
set_option maxHeartbeats 4000000 in
theorem walk_in (m : Nat) (lhs a b : Int) (w : World) (hm : m ≤ 1152921504606846976) (hlo : 2 ≤ lhs) (hhi : lhs ≤ 1152921504606846976) :
    Calls Try.prog 5 #[.int .i64 (m : Int), .int .i64 lhs, .int .i64 a, .int .i64 b] w fun e w' => e = .returned (.bool true) ∧ Below w.heap.size w w' := by
  have ha := Lib.hid alive_any
  have hp := Lib.hid (put_nat m (by omega))
  have hpr := Lib.hid (pair_any lhs a b (by omega))
  have hm0 : (0 : Int) ≤ (m : Int) := by omega
  have hm1 : (m : Int) ≤ 1152921504606846976 := by omega
  have l1 := put_pos m
  have l2 := put_len 9 m (by omega) (by rw [pw_nine]; omega)
  have e1 := take_put m m [] (by omega) (by omega)
  rw [List.append_nil] at e1
  have e2 := take_short m m (by omega)
  have e3 := take_above m ((m : Int) - 1) [] (by omega) (by omega)
  rw [List.append_nil] at e3
  have by0 := put_byte m
  generalize put m = P at *
  have t1 := Lib.hid (fun (A : Option Addr) (c : Nat) (w' : World) (hs : Src w' w'.heap.size A P) (hc : P.length ≤ c) => take_any A c P 0 m w' w'.heap.size hs hc (by omega) by0)
  have t3 := Lib.hid (fun (A : Option Addr) (c : Nat) (w' : World) (hs : Src w' w'.heap.size A P) (hc : P.length ≤ c) => take_any A c P 0 ((m : Int) - 1) w' w'.heap.size hs hc (by omega) by0)
  have t2 := Lib.hid (fun (A : Option Addr) (c : Nat) (w' : World) (hs : Src w' w'.heap.size A P) (hc : P.length ≤ c) => take_any A c (P.take (P.length - 1)) 0 m w' w'.heap.size (hs.take _) (by rw [List.length_take]; omega) (by rw [List.length_take]; omega) (fun x hx => by0 x (List.mem_of_mem_take hx)))
  rw [e1] at t1
  rw [e2, show (P.take (P.length - 1)).length = P.length - 1 by rw [List.length_take]; omega] at t2
  rw [e3] at t3
  unfold three at t1 t2 t3
  clear e1 e2 e3 by0
  generalize hL : P.length = L at *
  have HL := Lib.hid hL
  clear hL
  have hLI : (1 : Int) ≤ (L : Int) := by omega
  have hLJ : (L : Int) ≤ 9 := by omega
  have hLz : ((L : Int) == 0) = false := by rw [beq_eq_false_iff_ne]; omega
  go_enter Try.func5, Try.ntmps5
  go_wp2_with fail
  refine (hp.out _).mono ?_
  rintro e w1 ⟨a1, c1, rfl, hown1, hb1⟩
  rw [HL.out] at hown1 ⊢
  obtain ⟨hs1, hc1, _⟩ := src_own hown1
  have X1 := Lib.hid (And.intro hs1 hb1)
  have Hc := Lib.hid hc1
  have T1 := Lib.hid (t1.out a1 c1 w1 hs1 hc1)
  have T2 := Lib.hid (t2.out a1 c1 w1 hs1 hc1)
  have T3 := Lib.hid (t3.out a1 c1 w1 hs1 hc1)
  clear hown1 hs1 hb1 t1 t2 t3
  go_wp2_with fail
  refine T1.out.mono ?_
  rintro e w' ⟨rfl, rfl⟩
  go_wp2_with fail
  refine T2.out.mono ?_
  rintro e w' ⟨rfl, rfl⟩
  go_wp2_with fail
  refine T3.out.mono ?_
  rintro e w' ⟨rfl, rfl⟩
  go_wp2_with fail
  by_cases b1 : b < 0
  · have hbad : lhs ≤ a ∨ a < b ∨ b < 0 := .inr (.inr b1)
    have hpb := hpr.out w1
    rw [pairA_bad hbad] at hpb
    clear hbad
    refine hpb.mono ?_
    rintro e w2 ⟨a2, c2, rfl, _, hb2⟩
    have X2 : Hid (Below w.heap.size w w2) := Lib.hid (X1.out.2.trans (hb2.mono X1.out.2.size))
    clear hb2 hpb
    simp only [List.length_nil]
    go_wp2_with fail
    refine (ha.out _).mono ?_
    rintro e wz ⟨rfl, hbz⟩
    have HZ := Lib.hid hbz
    clear hbz
    go_wp2_with fail
    go_ret
    exact ⟨rfl, X2.out.trans (HZ.out.mono X2.out.size)⟩
  have b1I : 0 ≤ b := by omega
  by_cases b2 : a < b
  · have hbad : lhs ≤ a ∨ a < b ∨ b < 0 := .inr (.inl b2)
    have hpb := hpr.out w1
    rw [pairA_bad hbad] at hpb
    clear hbad
    clear b1
    refine hpb.mono ?_
    rintro e w2 ⟨a2, c2, rfl, _, hb2⟩
    have X2 : Hid (Below w.heap.size w w2) := Lib.hid (X1.out.2.trans (hb2.mono X1.out.2.size))
    clear hb2 hpb
    simp only [List.length_nil]
    go_wp2_with fail
    refine (ha.out _).mono ?_
    rintro e wz ⟨rfl, hbz⟩
    have HZ := Lib.hid hbz
    clear hbz
    go_wp2_with fail
    go_ret
    exact ⟨rfl, X2.out.trans (HZ.out.mono X2.out.size)⟩
  have b2I : b ≤ a := by omega
  by_cases b3 : lhs ≤ a
  · have hbad : lhs ≤ a ∨ a < b ∨ b < 0 := .inl b3
    have hpb := hpr.out w1
    rw [pairA_bad hbad] at hpb
    clear hbad
    clear b1 b2
    refine hpb.mono ?_
    rintro e w2 ⟨a2, c2, rfl, _, hb2⟩
    have X2 : Hid (Below w.heap.size w w2) := Lib.hid (X1.out.2.trans (hb2.mono X1.out.2.size))
    clear hb2 hpb
    simp only [List.length_nil]
    go_wp2_with fail
    refine (ha.out _).mono ?_
    rintro e wz ⟨rfl, hbz⟩
    have HZ := Lib.hid hbz
    clear hbz
    go_wp2_with fail
    go_ret
    exact ⟨rfl, X2.out.trans (HZ.out.mono X2.out.size)⟩
  have hgood : ¬ (lhs ≤ a ∨ a < b ∨ b < 0) := by omega
  have hpo := hpr.out w1
  have hgp := gate_pair lhs a b hhi hgood
  have hpe := pairA_ok hgood
  have hz : (pairA lhs a b).2 = 0 := by rw [hpe]
  have hlen : (pairA lhs a b).1.length ≤ 18 := by
    rw [hpe]
    have h1 := puts_len (lhs - a) (by omega)
    have h2 := puts_len (a - b) (by omega)
    simp only [List.length_append]
    omega
  have hby : ∀ x ∈ (pairA lhs a b).1, 0 ≤ x ∧ x < 256 := by
    rw [hpe]
    intro x hx
    rcases List.mem_append.1 hx with h | h
    · exact puts_byte _ x h
    · exact puts_byte _ x h
  clear hpe hgood b1 b2
  generalize pairA lhs a b = Q at *
  obtain ⟨Q, q⟩ := Q
  simp only [] at hz hlen hby hgp
  subst hz
  have hg := Lib.hid (fun (A : Option Addr) (c : Nat) (w' : World) (hs : Src w' w'.heap.size A Q) (hc : Q.length ≤ c) => gate_any A c Q 0 lhs w' hs hc (by omega) hby hlo hhi)
  rw [hgp] at hg
  unfold four at hg
  clear hgp hby
  have HPO := Lib.hid hpo
  clear hpo
  refine HPO.out.mono ?_
  rintro e w2 ⟨a2, c2, rfl, hown2, hb2⟩
  obtain ⟨hs2, hc2, _⟩ := src_own hown2
  have X2 : Hid (Below w.heap.size w w2) := Lib.hid (X1.out.2.trans (hb2.mono X1.out.2.size))
  have G := Lib.hid (hg.out a2 c2 w2 hs2 hc2)
  clear hown2 hs2 hb2 hg
  go_wp2_with fail
  refine G.out.mono ?_
  rintro e w3 ⟨rfl, hb3⟩
  have X3 : Hid (Below w.heap.size w w3) := Lib.hid (X2.out.trans (hb3.mono X2.out.size))
  clear hb3
  go_wp2_with fail
  refine (ha.out _).mono ?_
  rintro e wz ⟨rfl, hbz⟩
  have HZ := Lib.hid hbz
  clear hbz
  go_wp2_with fail
  go_ret
  exact ⟨rfl, X3.out.trans (HZ.out.mono X3.out.size)⟩

set_option maxRecDepth 100000 in
theorem lifted (os : Os) (started : os.Started) (H : Type) (enc : TypeId × Value → H) :
    ReturnsInHanded {} Try.checked os 5 .any (Rows.deltaBackSpec.pre6 enc Try.prog Try.f5 Rows.deltaBackRow.domain false) (Rows.deltaBackSpec.post enc Try.prog Try.f5 false true false false) := by
  refine returnsInHanded_of_change (C := Try.checked) own started (by kernel_rfl) Try.func5
    (ChangeSpec.witness6 (enc := enc) (C := Try.checked) false ⟨#[], #[.int .i64 0, .int .i64 0, .int .i64 0, .int .i64 0], []⟩ 8 (by kernel_rfl) (by kernel_rfl) (by kernel_rfl) (by kernel_rfl)) ?_
  intro W base args ds gs before hval0 hW hcnd _
  have hval : ∀ (j : Nat) t v, Try.f5.params[j]? = some t → args[j]? = some v → Value.okWide Try.prog W .any base t v := hval0
  have hW' := hW
  obtain ⟨p, q, hA0, hV, rfl, hfz, hnd⟩ := hW
  have hA : DataW.TrodAll enc Try.prog W 0 (fun _ => true) true Try.f5.params.toList args.toList ds p := hA0
  rw [Try.params5] at hA hval
  have hAk := hA
  obtain ⟨v0, vs0, d0, ds0, p0, q0, hargs, rfl, rfl, h0, r0⟩ := trodAll_cons hA
  obtain ⟨v1, vs1, d1, ds1, p1, q1, rfl, rfl, rfl, h1, r1⟩ := trodAll_cons r0
  obtain ⟨v2, vs2, d2, ds2, p2, q2, rfl, rfl, rfl, h2, r2⟩ := trodAll_cons r1
  obtain ⟨v3, vs3, d3, ds3, p3, q3, rfl, rfl, rfl, h3, r3⟩ := trodAll_cons r2
  obtain ⟨rfl, rfl, rfl⟩ := trodAll_nil r3
  obtain rfl : args = #[v0, v1, v2, v3] := by cases args; simp_all
  obtain ⟨rfl, rfl⟩ := trodVars_none hV
  obtain ⟨a0, rfl, rfl, rfl, w0⟩ := open_int Try.underlying3 (hval 0 3 v0 rfl rfl) h0
  obtain ⟨a1, rfl, rfl, rfl, w1⟩ := open_int Try.underlying3 (hval 1 3 v1 rfl rfl) h1
  obtain ⟨a2, rfl, rfl, rfl, w2⟩ := open_int Try.underlying3 (hval 2 3 v2 rfl rfl) h2
  obtain ⟨a3, rfl, rfl, rfl, w3⟩ := open_int Try.underlying3 (hval 3 3 v3 rfl rfl) h3
  clear hA0 hval0
  simp only [List.append_nil] at hW' hAk
  have go : ∀ e W', (e = Ending.returned (.bool true) ∧ Below W.heap.size W W') → ∃ v, e = Ending.returned v ∧ Rows.deltaBackSpec.post enc Try.checked.prog Try.f5 false true false false W #[.int .i64 a0, .int .i64 a1, .int .i64 a2, .int .i64 a3] v W' :=
    fun e W' ⟨he, hb⟩ => ⟨_, he, _, _, _, [], _, [], hW', trodAll_cons_mk (shut_bool Try.underlying4 _) trodAll_mk0, all_stay Try.laidOut [3, 3, 3, 3] (by kernel_rfl) hb _ _ _ hAk (fun x hx => hW'.lt x hx), rfl, hb.frame _, fun h => by cases h⟩
  by_cases hlong : a0 < 0 ∨ 1152921504606846976 < a0 ∨ a1 < 2 ∨ 1152921504606846976 < a1
  · exact (walk_out a0 a1 a2 a3 W hlong).mono go
  · obtain ⟨m, rfl⟩ := Int.eq_ofNat_of_zero_le (show 0 ≤ a0 by omega)
    exact (walk_in m a1 a2 a3 W (by omega) (by omega) (by omega)).mono go

theorem over : Rows.deltaBackRow.holds Try.pinned (OpenSpec.ofChange Rows.deltaBackSpec) :=
  OpenClaim.holds_of_wide 5 Try.f5 rfl rfl rfl rfl rfl rfl rfl ⟨rfl, rfl, rfl, rfl, rfl⟩ rfl rfl rfl rfl rfl (by kernel_rfl) Try.func5 (by kernel_rfl)
    (of_decide_eq_true (by kernel_rfl)) (by unfold Func.isWrapper; first | (rw [if_pos (by decide +kernel)]; kernel_rfl) | (rw [if_neg (by decide +kernel)]; exact ⟨rfl, rfl⟩))
    (fun os started H enc _ => lifted os started H enc)

theorem proved : Rows.DeltaBackSaid :=
  over
#print axioms proved
end Go.Proofs.Ytacdpndkcboafaa.deltaBack
