/- The contracts of Gate, of the program and by definition: what 'gateA' says of the bytes (conditions: the slice reads as the bytes, at most 1000 of them; the gate's literal is from 2 to 2^60). -/
import Derived.Test.YtacdpndkcboafaaRTake
import Derived.Deep.QuietTactic
import Derived.BigQuiet
import Derived.Laws.Rows
namespace Go.Proofs.Ytacdpndkcboafaa
open Go.ChangeShapes Go.WideShapes Go.RowKit
set_option linter.unusedVariables false

/-- Four numbers as a result. -/
def four (p : Int × Int × Int × Int) : Value := .tuple #[.int .i64 p.1, .int .i64 p.2.1, .int .i64 p.2.2.1, .int .i64 p.2.2.2]

theorem results_tmp4 {fn : Func} {t u v x : Tmp} (h : fn.results = #[.tmp t, .tmp u, .tmp v, .tmp x]) (tmps : Array Value) (P : Program) (w : World) :
    (results fn tmps).run P w = .ok (.tuple #[tmps.getD t undef, tmps.getD u undef, tmps.getD v undef, tmps.getD x undef]) w := by
  simp [results, h]

theorem gate_f1 {l : List Int} {at_ lhs x i f : Int} (h : takeA l at_ 1152921504606846976 = (x, i, f)) (hf : f ≠ 0) : gateA l at_ lhs = (0, 0, 0, f) := by
  unfold gateA; rw [h, if_pos hf]
theorem gate_f2 {l : List Int} {at_ lhs x i y k g : Int} (h : takeA l at_ 1152921504606846976 = (x, i, 0)) (h2 : takeA l i 1152921504606846976 = (y, k, g)) (hf : g ≠ 0) : gateA l at_ lhs = (0, 0, 0, g) := by
  unfold gateA; rw [h]; simp only []; rw [h2]; simp [hf]
theorem gate_no {l : List Int} {at_ lhs x i y k : Int} (h : takeA l at_ 1152921504606846976 = (x, i, 0)) (h2 : takeA l i 1152921504606846976 = (y, k, 0)) (hb : x = 0 ∨ lhs < x ∨ lhs - x < y) : gateA l at_ lhs = (0, 0, 0, 11) := by
  unfold gateA; rw [h]; simp only []; rw [h2]; unfold gateB; simp [hb]
theorem gate_yes {l : List Int} {at_ lhs x i y k : Int} (h : takeA l at_ 1152921504606846976 = (x, i, 0)) (h2 : takeA l i 1152921504606846976 = (y, k, 0)) (hb : ¬ (x = 0 ∨ lhs < x ∨ lhs - x < y)) : gateA l at_ lhs = (lhs - x, lhs - x - y, k, 0) := by
  unfold gateA; rw [h]; simp only []; rw [h2]; unfold gateB; simp only [ne_eq, not_true_eq_false, if_false]; rw [if_neg hb]

set_option maxRecDepth 20000 in
theorem rgate_any (A : Option Addr) (c : Nat) (l : List Int) (at_ lhs : Int) (w : World) (B : Nat) (hs : Src w B A l) (hc : l.length ≤ c) (hl : l.length ≤ 1000) (hb : ∀ x ∈ l, 0 ≤ x ∧ x < 256) (hlo : 2 ≤ lhs) (hhi : lhs ≤ 1152921504606846976) :
    Calls Try.prog 12 #[.slice A l.length c, .int .i64 at_, .int .i64 lhs] w fun e w' => e = .returned (four (gateA l at_ lhs)) ∧ w = w' := by
  have t1 := rtake_any A c l at_ 1152921504606846976 w B hs hc hl hb
  have o1 := takeA_ok (l := l) (at_ := at_) (most := 1152921504606846976)
  obtain ⟨⟨x, i, f⟩, hp⟩ : ∃ p, takeA l at_ 1152921504606846976 = p := ⟨_, rfl⟩
  rw [hp] at t1 o1
  unfold three at t1
  have T1 := Lib.hid t1
  have HP := Lib.hid hp
  clear t1 hp
  by_cases hf : f = 0
  · subst hf
    obtain ⟨x0, x1, _, _⟩ := o1 rfl
    simp only [] at x0 x1
    clear o1
    have t2 := rtake_any A c l i 1152921504606846976 w B hs hc hl hb
    have o2 := takeA_ok (l := l) (at_ := i) (most := 1152921504606846976)
    obtain ⟨⟨y, k, g⟩, hq⟩ : ∃ p, takeA l i 1152921504606846976 = p := ⟨_, rfl⟩
    rw [hq] at t2 o2
    unfold three at t2
    have T2 := Lib.hid t2
    have HQ := Lib.hid hq
    clear t2 hq hs hb
    by_cases hg : g = 0
    · subst hg
      obtain ⟨y0, y1, _, _⟩ := o2 rfl
      simp only [] at y0 y1
      clear o2
      by_cases z1 : x = 0
      · subst z1
        have HG : Hid (gateA l at_ lhs = (0, 0, 0, 11)) := Lib.hid (gate_no HP.out HQ.out (.inl rfl))
        go_enter Try.func12, Try.ntmps12
        go_wp2_with fail
        refine T1.out.mono ?_
        rintro e w' ⟨rfl, rfl⟩
        go_wp2_with fail
        refine T2.out.mono ?_
        rintro e w' ⟨rfl, rfl⟩
        go_wp2_with fail
        (try simp only [Exit.inBlock, Exit.then]); refine bodyPost_ret (results_tmp4 rfl _ _ _) rfl ?_
        exact ⟨by rw [HG.out]; rfl, rfl⟩
      by_cases z2 : lhs < x
      · have HG : Hid (gateA l at_ lhs = (0, 0, 0, 11)) := Lib.hid (gate_no HP.out HQ.out (.inr (.inl z2)))
        have z1' : (x == 0) = false := beq_eq_false_iff_ne.2 z1
        clear z1
        go_enter Try.func12, Try.ntmps12
        go_wp2_with fail
        refine T1.out.mono ?_
        rintro e w' ⟨rfl, rfl⟩
        go_wp2_with fail
        refine T2.out.mono ?_
        rintro e w' ⟨rfl, rfl⟩
        go_wp2_with fail
        (try simp only [Exit.inBlock, Exit.then]); refine bodyPost_ret (results_tmp4 rfl _ _ _) rfl ?_
        exact ⟨by rw [HG.out]; rfl, rfl⟩
      by_cases z3 : lhs - x < y
      · have HG : Hid (gateA l at_ lhs = (0, 0, 0, 11)) := Lib.hid (gate_no HP.out HQ.out (.inr (.inr z3)))
        have z1' : (x == 0) = false := beq_eq_false_iff_ne.2 z1
        have z2' : x ≤ lhs := by omega
        clear z1 z2
        go_enter Try.func12, Try.ntmps12
        go_wp2_with fail
        refine T1.out.mono ?_
        rintro e w' ⟨rfl, rfl⟩
        go_wp2_with fail
        refine T2.out.mono ?_
        rintro e w' ⟨rfl, rfl⟩
        go_wp2_with fail
        (try simp only [Exit.inBlock, Exit.then]); refine bodyPost_ret (results_tmp4 rfl _ _ _) rfl ?_
        exact ⟨by rw [HG.out]; rfl, rfl⟩
      have HG : Hid (gateA l at_ lhs = (lhs - x, lhs - x - y, k, 0)) := Lib.hid (gate_yes HP.out HQ.out (by omega))
      have z1' : (x == 0) = false := beq_eq_false_iff_ne.2 z1
      have z2' : x ≤ lhs := by omega
      have z3' : y ≤ lhs - x := by omega
      clear z1 z2 z3
      go_enter Try.func12, Try.ntmps12
      go_wp2_with fail
      refine T1.out.mono ?_
      rintro e w' ⟨rfl, rfl⟩
      go_wp2_with fail
      refine T2.out.mono ?_
      rintro e w' ⟨rfl, rfl⟩
      go_wp2_with fail
      (try simp only [Exit.inBlock, Exit.then]); refine bodyPost_ret (results_tmp4 rfl _ _ _) rfl ?_
      exact ⟨by rw [HG.out]; rfl, rfl⟩
    · have HG : Hid (gateA l at_ lhs = (0, 0, 0, g)) := Lib.hid (gate_f2 HP.out HQ.out hg)
      have g1 : (g != 0) = true := by rw [bne_iff_ne]; exact hg
      have g2 : (g == 0) = false := beq_eq_false_iff_ne.2 hg
      clear hg o2
      go_enter Try.func12, Try.ntmps12
      go_wp2_with fail
      refine T1.out.mono ?_
      rintro e w' ⟨rfl, rfl⟩
      go_wp2_with fail
      refine T2.out.mono ?_
      rintro e w' ⟨rfl, rfl⟩
      go_wp2_with fail
      (try simp only [Exit.inBlock, Exit.then]); refine bodyPost_ret (results_tmp4 rfl _ _ _) rfl ?_
      exact ⟨by rw [HG.out]; rfl, rfl⟩
  · have HG : Hid (gateA l at_ lhs = (0, 0, 0, f)) := Lib.hid (gate_f1 HP.out hf)
    have g1 : (f != 0) = true := by rw [bne_iff_ne]; exact hf
    have g2 : (f == 0) = false := beq_eq_false_iff_ne.2 hf
    clear hf o1 hs hb
    go_enter Try.func12, Try.ntmps12
    go_wp2_with fail
    refine T1.out.mono ?_
    rintro e w' ⟨rfl, rfl⟩
    go_wp2_with fail
    (try simp only [Exit.inBlock, Exit.then]); refine bodyPost_ret (results_tmp4 rfl _ _ _) rfl ?_
    exact ⟨by rw [HG.out]; rfl, rfl⟩
end Go.Proofs.Ytacdpndkcboafaa
