/- The statement DeltaGatesSaid is proved: for all bytes and all four numbers the law DeltaGates returns true. No condition. -/
import Derived.Test.YtacdpndkcboafaaAlive04
import Derived.Test.YtacdpndkcboafaaPair
import Derived.Test.YtacdpndkcboafaaGateGo
import Derived.Test.YtacdpndkcboafaaLaw
namespace Go.Proofs.Ytacdpndkcboafaa.deltaGates
open Go.ChangeShapes Go.WideShapes Go.RowKit
set_option linter.unusedVariables false

theorem own : ownKnob Try.prog.godebug = none := by kernel_rfl

/-- A slice's text. -/
def Txt (W : World) (a : Option Addr) (n c : Nat) (T : ByteArray) : Prop := (convert 22 9 (.slice a n c)).run Try.prog W = .ok (.string T) W
theorem txt_of {W : World} {B c : Nat} {a : Option Addr} {l : List Int} (h : Src W B a l) : Txt W a l.length c (strOfNums l) := conv_src h

set_option maxRecDepth 20000 in
theorem walk_out (A : Option Addr) (n c : Nat) (at_ lhs x y : Int) (w : World) (h : 200 < n ∨ lhs < 2 ∨ 1152921504606846976 < lhs) :
    Calls Try.prog 4 #[.slice A n c, .int .i64 at_, .int .i64 lhs, .int .i64 x, .int .i64 y] w fun e w' => e = .returned (.bool true) ∧ Below w.heap.size w w' := by
  have ha := Lib.hid alive_any
  by_cases h1 : 200 < n
  · have h1I : (200 : Int) < (n : Int) := by omega
    clear h
    go_enter Try.func4, Try.ntmps4
    go_wp2_with fail
    refine (ha.out _).mono ?_
    rintro e wz ⟨rfl, hbz⟩
    have HZ := Lib.hid hbz
    clear hbz
    go_wp2_with fail
    go_ret
    exact ⟨rfl, HZ.out⟩
  have h1I : ¬ (200 : Int) < (n : Int) := by omega
  by_cases h2 : lhs < 2
  · clear h h1
    go_enter Try.func4, Try.ntmps4
    go_wp2_with fail
    refine (ha.out _).mono ?_
    rintro e wz ⟨rfl, hbz⟩
    have HZ := Lib.hid hbz
    clear hbz
    go_wp2_with fail
    go_ret
    exact ⟨rfl, HZ.out⟩
  have h2I : 2 ≤ lhs := by omega
  have h3 : 1152921504606846976 < lhs := by omega
  clear h h1 h2
  go_enter Try.func4, Try.ntmps4
  go_wp2_with fail
  refine (ha.out _).mono ?_
  rintro e wz ⟨rfl, hbz⟩
  have HZ := Lib.hid hbz
  clear hbz
  go_wp2_with fail
  go_ret
  exact ⟨rfl, HZ.out⟩

set_option maxRecDepth 20000 in
set_option maxHeartbeats 2000000 in
theorem walk_in (A : Option Addr) (c : Nat) (l : List Int) (at_ lhs x y : Int) (w : World) (hB : Bytes w A c l) (hb : ∀ x ∈ l, 0 ≤ x ∧ x < 256) (hn : l.length ≤ 200) (hlo : 2 ≤ lhs) (hhi : lhs ≤ 1152921504606846976) :
    Calls Try.prog 4 #[.slice A l.length c, .int .i64 at_, .int .i64 lhs, .int .i64 x, .int .i64 y] w fun e w' => e = .returned (.bool true) ∧ Below w.heap.size w w' := by
  have ha := Lib.hid alive_any
  have HS := Lib.hid hB.src
  have hp := Lib.hid (pair_any lhs x y (by omega))
  have hq := Lib.hid (rpair_any lhs x y (by omega))
  have hg := Lib.hid (fun (w' : World) (hs : Src w' w'.heap.size A l) => gate_any A c l at_ lhs w' hs HS.out.2 (by omega) hb hlo hhi)
  have hr := Lib.hid (fun (w' : World) (hs : Src w' w'.heap.size A l) => rgate_any A c l at_ lhs w' w'.heap.size hs HS.out.2 (by omega) hb hlo hhi)
  have hnI : ¬ (200 : Int) < (l.length : Int) := by omega
  have hnJ : (l.length : Int) ≤ 200 := by omega
  unfold four at hg hr
  generalize gateA l at_ lhs = G at *
  obtain ⟨g1, g2, g3, g4⟩ := G
  generalize pairA lhs x y = P at *
  obtain ⟨P, f⟩ := P
  clear hB hb
  go_enter Try.func4, Try.ntmps4
  go_wp2_with fail
  refine (hp.out _).mono ?_
  rintro e w1 ⟨a1, c1, rfl, hown1, hb1⟩
  have X1 := Lib.hid (And.intro (src_own hown1).1 hb1)
  clear hown1 hb1
  go_wp2_with fail
  refine (hq.out _).mono ?_
  rintro e w2 ⟨a2, c2, rfl, hown2, hb2⟩
  have X2 := Lib.hid (And.intro (And.intro (X1.out.1.below hb2) (src_own hown2).1) (And.intro (hb2) (X1.out.2.trans (hb2.mono X1.out.2.size))))
  clear hown2 hb2
  go_wp2_with fail
  refine (hg.out _ ((HS.out.1.below X2.out.2.2).mono X2.out.2.2.size)).mono ?_
  rintro e w3 ⟨rfl, hb3⟩
  have hb3' := X2.out.2.2.trans (hb3.mono X2.out.2.2.size)
  have T1 : Txt w3 a1 P.length c1 (strOfNums P) := txt_of ((X2.out.1.1.mono X2.out.2.1.size).below hb3)
  have T2 : Txt w3 a2 P.length c2 (strOfNums P) := txt_of (X2.out.1.2.below hb3)
  have X3 := Lib.hid (And.intro hb3' ((HS.out.1.below hb3').mono hb3'.size))
  unfold Txt at T1 T2
  have K1 := Lib.hid T1
  have K2 := Lib.hid T2
  clear hb3 hb3' T1 T2
  go_wp2_with fail
  refine (hr.out _ X3.out.2).mono ?_
  rintro e w' ⟨rfl, rfl⟩
  have k1 := K1.out
  have k2 := K2.out
  generalize strOfNums P = T at *
  go_wp2_with fail
  refine (ha.out _).mono ?_
  rintro e wz ⟨rfl, hbz⟩
  have HZ := Lib.hid hbz
  clear hbz
  go_wp2_with fail
  go_ret
  exact ⟨rfl, X3.out.1.trans (HZ.out.mono X3.out.1.size)⟩

set_option maxRecDepth 100000 in
theorem lifted (os : Os) (started : os.Started) (H : Type) (enc : TypeId × Value → H) :
    ReturnsInHanded {} Try.checked os 4 .any (Rows.deltaGatesSpec.pre6 enc Try.prog Try.f4 Rows.deltaGatesRow.domain false) (Rows.deltaGatesSpec.post enc Try.prog Try.f4 false true false false) := by
  refine returnsInHanded_of_change (C := Try.checked) own started (by kernel_rfl) Try.func4
    (ChangeSpec.witness6 (enc := enc) (C := Try.checked) false ⟨#[], #[.slice none 0 0, .int .i64 0, .int .i64 0, .int .i64 0, .int .i64 0], []⟩ 8 (by kernel_rfl) (by kernel_rfl) (by kernel_rfl) (by kernel_rfl)) ?_
  intro W base args ds gs before hval0 hW hcnd _
  have hval : ∀ (j : Nat) t v, Try.f4.params[j]? = some t → args[j]? = some v → Value.okWide Try.prog W .any base t v := hval0
  have hW' := hW
  obtain ⟨p, q, hA0, hV, rfl, hfz, hnd⟩ := hW
  have hA : DataW.TrodAll enc Try.prog W 0 (fun _ => true) true Try.f4.params.toList args.toList ds p := hA0
  rw [Try.params4] at hA hval
  have hAk := hA
  obtain ⟨v0, vs0, d0, ds0, p0, q0, hargs, rfl, rfl, h0, r0⟩ := trodAll_cons hA
  obtain ⟨v1, vs1, d1, ds1, p1, q1, rfl, rfl, rfl, h1, r1⟩ := trodAll_cons r0
  obtain ⟨v2, vs2, d2, ds2, p2, q2, rfl, rfl, rfl, h2, r2⟩ := trodAll_cons r1
  obtain ⟨v3, vs3, d3, ds3, p3, q3, rfl, rfl, rfl, h3, r3⟩ := trodAll_cons r2
  obtain ⟨v4, vs4, d4, ds4, p4, q4, rfl, rfl, rfl, h4, r4⟩ := trodAll_cons r3
  obtain ⟨rfl, rfl, rfl⟩ := trodAll_nil r4
  obtain rfl : args = #[v0, v1, v2, v3, v4] := by cases args; simp_all
  obtain ⟨rfl, rfl⟩ := trodVars_none hV
  obtain ⟨a0, n0, c0, rfl⟩ := okWide_slice Try.underlying22 (hval 0 22 v0 rfl rfl)
  obtain ⟨a1, rfl, rfl, rfl, w1⟩ := open_int Try.underlying3 (hval 1 3 v1 rfl rfl) h1
  obtain ⟨a2, rfl, rfl, rfl, w2⟩ := open_int Try.underlying3 (hval 2 3 v2 rfl rfl) h2
  obtain ⟨a3, rfl, rfl, rfl, w3⟩ := open_int Try.underlying3 (hval 3 3 v3 rfl rfl) h3
  obtain ⟨a4, rfl, rfl, rfl, w4⟩ := open_int Try.underlying3 (hval 4 3 v4 rfl rfl) h4
  clear hA0 hval0
  simp only [List.append_nil] at hW' hAk
  have go : ∀ e W', (e = Ending.returned (.bool true) ∧ Below W.heap.size W W') → ∃ v, e = Ending.returned v ∧ Rows.deltaGatesSpec.post enc Try.checked.prog Try.f4 false true false false W #[.slice a0 n0 c0, .int .i64 a1, .int .i64 a2, .int .i64 a3, .int .i64 a4] v W' :=
    fun e W' ⟨he, hb⟩ => ⟨_, he, _, _, _, [], _, [], hW', trodAll_cons_mk (shut_bool Try.underlying4 _) trodAll_mk0, all_stay Try.laidOut [22, 3, 3, 3, 3] (by kernel_rfl) hb _ _ _ hAk (fun x hx => hW'.lt x hx), rfl, hb.frame _, fun h => by cases h⟩
  obtain ⟨fuel0, hf0⟩ := h0
  obtain ⟨xs0, rfl, hBy0, hbt0⟩ := open_bytes (by simpa [Value.cells] using hf0)
  by_cases hlong : 200 < xs0.length ∨ a2 < 2 ∨ 1152921504606846976 < a2
  · exact (walk_out a0 xs0.length c0 a1 a2 a3 a4 W hlong).mono go
  · exact (walk_in a0 c0 xs0 a1 a2 a3 a4 W hBy0 hbt0 (by omega) (by omega) (by omega)).mono go

theorem over : Rows.deltaGatesRow.holds Try.pinned (OpenSpec.ofChange Rows.deltaGatesSpec) :=
  OpenClaim.holds_of_wide 4 Try.f4 rfl rfl rfl rfl rfl rfl rfl ⟨rfl, rfl, rfl, rfl, rfl⟩ rfl rfl rfl rfl rfl (by kernel_rfl) Try.func4 (by kernel_rfl)
    (of_decide_eq_true (by kernel_rfl)) (by unfold Func.isWrapper; first | (rw [if_pos (by decide +kernel)]; kernel_rfl) | (rw [if_neg (by decide +kernel)]; exact ⟨rfl, rfl⟩))
    (fun os started H enc _ => lifted os started H enc)

theorem proved : Rows.DeltaGatesSaid :=
  over
#print axioms proved
end Go.Proofs.Ytacdpndkcboafaa.deltaGates
