/- The statement LitsSortsSaid is proved: for every list of numbers the law LitsSorts returns true and leaves its argument as it was. No condition. -/
import Derived.Test.YtcaaicodnkdclaaEmpty
import Derived.Test.YtcaaicodnkdclaaMax
import Derived.Test.YtcaaicodnkdclaaLaw
import Derived.ChangeSlices
import Derived.ProofKit
import Derived.OpenShut
namespace Go.Proofs.Ytcaaicodnkdclaa.litsSorts
open Go.ChangeShapes Go.WideShapes Go.RowKit
set_option linter.unusedVariables false

theorem own : ownKnob Try.prog.godebug = none := by kernel_rfl
theorem cells_int : Try.prog.cellsOf 3 = 1 := by kernel_rfl

/-- A row of numbers that the call made, as two facts: where it lies, and its cells. -/
theorem row_cells {w : World} {base e n : Nat} {v : Value} {ys : List Int} (h : w.ownsRow base e 1 v n (ys.map (Value.int .i64))) (h0 : 0 < n) :
    ∃ g cap, v = .slice (some ⟨g, 0, none⟩) n cap ∧ base ≤ g ∧ g < w.heap.size ∧ ∀ j, j < ys.length → w.cell? ⟨g, 0 + j, none⟩ = some (.int .i64 (ys.getD j 0)) := by
  obtain ⟨g, cap, rfl, hg, hgl⟩ := h.form h0
  have hl : ys.length = n := by simpa using h.1
  refine ⟨g, cap, rfl, hg, hgl, fun j hj => ?_⟩
  rw [Nat.zero_add, h.cellAt j (by omega), List.getElem?_map, List.getElem?_eq_getElem hj]
  simp [List.getD, List.getElem?_eq_getElem hj]
theorem isort_pos (xs : List Int) (h : 0 < xs.length) : 0 < (isort xs).length := by
  cases xs with
  | nil => simp at h
  | cons x l =>
    have := (isort_mem (x :: l) x).2 (by simp)
    exact List.length_pos_of_mem this

def Fine (x : Int) : Prop := 0 ≤ x ∧ x ≤ 2305843009213693952

set_option maxHeartbeats 1000000 in
theorem walk_full (b off c : Nat) (xs : List Int) (w : World) (h0 : 0 < xs.length) (hn : xs.length ≤ 100) (hb : b < w.heap.size)
    (hc : ∀ j, j < xs.length → w.cell? ⟨b, off + j, none⟩ = some (.int .i64 (xs.getD j 0))) :
    Calls Try.prog 5 #[.slice (some ⟨b, off, none⟩) xs.length c] w fun e w' => e = .returned (.bool true) ∧ Below w.heap.size w w' := by
  have HC := Lib.hid hc
  clear hc
  have hl := isort_len xs
  have hp := isort_pos xs h0
  go_enter Try.func5, Try.ntmps5
  go_wp2_with fail
  go_loopg [3] xs.length (fun m s3 wx => ∃ k : Nat, k + m = xs.length ∧ s3 = .int .i64 k ∧ Aside (∀ j, j < k → Fine (xs.getD j 0)) ∧ w = wx)
  case atStart => exact ⟨0, by omega, rfl, fun j hj => by omega, rfl⟩
  case round =>
    obtain ⟨k, hk, rfl, HF, rfl⟩ := hrel
    generalize gk = m at *
    by_cases hlt : k < xs.length
    · have hx0 := HC.out k hlt
      by_cases hf : Fine (xs.getD k 0)
      · have HF2 := Lib.hid (show ∀ j, j < k + 1 → Fine (xs.getD j 0) from fun j hj => by
          by_cases e : j = k
          · subst e; exact hf
          · exact HF.out j (by omega))
        have hf1 := hf.1
        have hf2 := hf.2
        clear hf
        generalize xs.getD k 0 = x at hx0 hf1 hf2
        go_wp2_with (first | (go_at_call 7; refine (fine_yes _ (by omega) (by omega) _).mono ?_; rintro e w' ⟨rfl, rfl⟩))
        go_roundg (m - 1)
        case measure => omega
        case rel => exact ⟨k + 1, by omega, by first | rfl | simp, HF2.out, rfl⟩
      · have hf3 : xs.getD k 0 < 0 ∨ 2305843009213693952 < xs.getD k 0 := by unfold Fine at hf; omega
        have HX := Lib.hid hf3
        clear hf hf3
        generalize xs.getD k 0 = x at hx0 HX
        go_wp2_with (first | (go_at_call 7; refine (fine_no _ HX.out _).mono ?_; rintro e w' ⟨rfl, rfl⟩) | (go_at_call 8; refine (alive_any _).mono ?_; rintro e w' ⟨rfl, rfl⟩))
        go_ret
        exact ⟨rfl, Below.refl _ _⟩
    · have hkn : k = xs.length := by omega
      have HF3 := Lib.hid (show ∀ j, j < xs.length → 0 ≤ xs.getD j 0 ∧ xs.getD j 0 ≤ 2305843009213693953 from fun j hj => by
        have := HF.out j (by omega); unfold Fine at this; omega)
      clear HF hkn
      go_wp2_with fail
      refine (sort_any b off c xs w h0 (by omega) HC.out).mono ?_
      rintro e w1 ⟨v1, rfl, hown1, hb1⟩
      have hlt1 : w.heap.size ≤ w1.heap.size := hb1.size
      obtain ⟨g1, cap1, rfl, hg1, hgl1, hcell1⟩ := row_cells hown1 hp
      have HC1 := Lib.hid (show ∀ j, j < xs.length → w1.cell? ⟨b, off + j, none⟩ = some (.int .i64 (xs.getD j 0)) from fun j hj => (hb1.cell (p := ⟨b, off + j, none⟩) hb).trans (HC.out j hj))
      have X1 := Lib.hid (And.intro hcell1 hb1)
      clear hown1 hcell1 hb1
      go_wp2_with fail
      refine (rsort_any b off c xs w1 (by omega) (by omega) HC1.out).mono ?_
      rintro e w2 ⟨v2, rfl, hown2, hb2⟩
      obtain ⟨g2, cap2, rfl, hg2, hgl2, hcell2⟩ := row_cells hown2 hp
      have X2 := Lib.hid (And.intro hcell2 hb2)
      have HS1 := Lib.hid (show ∀ j, j < (isort xs).length → w2.cell? ⟨g1, 0 + j, none⟩ = some (.int .i64 ((isort xs).getD j 0)) from fun j hj => (hb2.cell (p := ⟨g1, 0 + j, none⟩) hgl1).trans (X1.out.1 j hj))
      have HC2 := Lib.hid (show ∀ j, j < xs.length → w2.cell? ⟨b, off + j, none⟩ = some (.int .i64 (xs.getD j 0)) from fun j hj => (hb2.cell (p := ⟨b, off + j, none⟩) (show b < w1.heap.size by omega)).trans (HC1.out j hj))
      clear hown2 hcell2 hb2
      go_wp2_with fail
      refine (same_any g1 0 cap1 g2 0 cap2 (isort xs) w2 (by omega) HS1.out X2.out.1).mono ?_
      rintro e w3 ⟨rfl, q, rfl⟩
      have HC3 := Lib.hid (show ∀ j, j < xs.length → (w2.drewN q).cell? ⟨b, off + j, none⟩ = some (.int .i64 (xs.getD j 0)) from HC2.out)
      go_wp2_with fail
      refine (max_any b off c xs _ (by omega) HF3.out HC3.out).mono ?_
      rintro e w4 ⟨rfl, rfl⟩
      go_wp2_with fail
      refine (rmax_any b off c xs _ (by omega) HF3.out HC3.out).mono ?_
      rintro e w4 ⟨rfl, rfl⟩
      go_wp2_with (first | (go_at_call 8; refine (alive_any _).mono ?_; rintro e w' ⟨rfl, rfl⟩))
      go_ret
      exact ⟨rfl, below_drewN (X1.out.2.trans (X2.out.2.mono hlt1)) _⟩

theorem walk_empty (a : Option Addr) (c : Nat) (w : World) :
    Calls Try.prog 5 #[.slice a 0 c] w fun e w' => e = .returned (.bool true) ∧ Below w.heap.size w w' := by
  go_enter Try.func5, Try.ntmps5
  go_wp2_with fail
  refine wp_loop_rounds 1 ?_
  rw [rounds_succ]
  go_wp2_with fail
  refine (sort_empty a c w).mono ?_
  rintro e w1 ⟨v1, rfl, hown1, hb1⟩
  have hlt1 : w.heap.size ≤ w1.heap.size := hb1.size
  obtain ⟨A1, c1, rfl, _⟩ := own_form hown1
  have X1 := Lib.hid hb1
  clear hown1 hb1
  go_wp2_with fail
  refine (rsort_empty a c w1).mono ?_
  rintro e w2 ⟨v2, rfl, hown2, hb2⟩
  obtain ⟨A2, c2, rfl, _⟩ := own_form hown2
  have X2 := Lib.hid hb2
  clear hown2 hb2
  go_wp2_with fail
  refine (same_empty A1 A2 c1 c2 w2).mono ?_
  rintro e w3 ⟨rfl, q, rfl⟩
  go_wp2_with fail
  refine (max_empty a c _).mono ?_
  rintro e w4 ⟨rfl, rfl⟩
  go_wp2_with fail
  refine (rmax_empty a c _).mono ?_
  rintro e w4 ⟨rfl, rfl⟩
  go_wp2_with (first | (go_at_call 8; refine (alive_any _).mono ?_; rintro e w' ⟨rfl, rfl⟩))
  go_ret
  exact ⟨rfl, below_drewN (X1.out.trans (X2.out.mono hlt1)) _⟩

theorem walk_long (a : Option Addr) (n c : Nat) (w : World) (hn : 100 < n) (hm : n ≤ 9223372036854775807) :
    Calls Try.prog 5 #[.slice a n c] w fun e w' => e = .returned (.bool true) ∧ Below w.heap.size w w' := by
  go_enter Try.func5, Try.ntmps5
  go_wp2_with (first | (go_at_call 8; refine (alive_any _).mono ?_; rintro e w' ⟨rfl, rfl⟩))
  go_ret
  exact ⟨rfl, Below.refl _ _⟩

set_option maxRecDepth 100000 in
theorem lifted (os : Os) (started : os.Started) (H : Type) (enc : TypeId × Value → H) :
    ReturnsInHanded {} Try.checked os 5 .any (Rows.litsSortsSpec.pre6 enc Try.prog Try.f5 Rows.litsSortsRow.domain false) (Rows.litsSortsSpec.post enc Try.prog Try.f5 false true false false) := by
  refine returnsInHanded_of_change (C := Try.checked) own started (by kernel_rfl) Try.func5
    (ChangeSpec.witness6 (enc := enc) (C := Try.checked) false ⟨#[], #[.slice none 0 0], []⟩ 8 (by kernel_rfl) (by kernel_rfl) (by kernel_rfl) (by kernel_rfl)) ?_
  intro W base args ds gs before hval0 hW hcnd _
  have hval : ∀ (j : Nat) t v, Try.f5.params[j]? = some t → args[j]? = some v → Value.okWide Try.prog W .any base t v := hval0
  have hW' := hW
  obtain ⟨p, q, hA0, hV, rfl, hfz, hnd⟩ := hW
  have hA : DataW.TrodAll enc Try.prog W 0 (fun _ => true) true Try.f5.params.toList args.toList ds p := hA0
  rw [Try.params5] at hA hval
  have hAk := hA
  obtain ⟨v0, vs0, d0, ds0, p0, q0, hargs, rfl, rfl, h0, r0⟩ := trodAll_cons hA
  obtain ⟨rfl, rfl, rfl⟩ := trodAll_nil r0
  obtain rfl : args = #[v0] := by cases args; simp_all
  obtain ⟨rfl, rfl⟩ := trodVars_none hV
  obtain ⟨a0, len, cap, rfl⟩ := okWide_slice Try.underlying28 (hval 0 28 v0 rfl rfl)
  clear hA0 hval0
  simp only [List.append_nil] at hW' hAk
  have fin : ∀ W' : World, Below W.heap.size W W' → Rows.litsSortsSpec.post enc Try.prog Try.f5 false true false false W #[.slice a0 len cap] (.bool true) W' := fun W' hb =>
    ⟨_, _, _, [], p0, [], hW', trodAll_cons_mk (shut_bool Try.underlying4 _) trodAll_mk0, all_stay Try.laidOut [28] (by kernel_rfl) hb _ _ _ hAk (fun x hx => hW'.lt x hx), rfl, hb.frame _, fun h => by cases h⟩
  have go : ∀ e W', (e = Ending.returned (.bool true) ∧ Below W.heap.size W W') → ∃ v, e = Ending.returned v ∧ Rows.litsSortsSpec.post enc Try.checked.prog Try.f5 false true false false W #[.slice a0 len cap] v W' :=
    fun e W' ⟨he, hb⟩ => ⟨_, he, fin W' hb⟩
  obtain ⟨fuel, hf⟩ := h0
  rcases open_ints Try.underlying28 Try.underlying3 cells_int hf with ⟨hcs, hx⟩ | ⟨a, len', cap', zs, hcs, _, hl, hm, hz, hx, hcell, hwz⟩
  · simp [Value.cells] at hcs
    obtain ⟨rfl, rfl, rfl⟩ := hcs
    exact (walk_empty none 0 W).mono go
  · simp [Value.cells] at hcs
    obtain ⟨rfl, rfl, rfl⟩ := hcs
    simp only [if_true] at hz
    by_cases hbig : 100 < len
    · exact (walk_long (some a) len cap W hbig (by unfold maxLen at hm; omega)).mono go
    by_cases hl0 : len = 0
    · subst hl0
      exact (walk_empty (some a) cap W).mono go
    · obtain ⟨b, off, spot⟩ := a
      have hspot : spot = none := by simpa [Addr.add] using World.cell?_spot (hcell 0 (by omega))
      subst hspot
      have hb : b < W.heap.size := by
        have := World.block_lt_of_cell? W _ (hcell 0 (by omega))
        simpa [Addr.add] using this
      have hlen : (zs.take len).length = len := by rw [List.length_take]; omega
      have hc : ∀ j, j < (zs.take len).length → W.cell? ⟨b, off + j, none⟩ = some (.int .i64 ((zs.take len).getD j 0)) := fun j hj => by
        have h1 := hcell j (by omega)
        rw [add_plain] at h1
        rw [h1]
        simp [List.getD, show j < len by omega]
      have hw := walk_full b off cap (zs.take len) W (by omega) (by omega) hb hc
      rw [hlen] at hw
      exact hw.mono go

theorem over : Rows.litsSortsRow.holds Try.pinned (OpenSpec.ofChange Rows.litsSortsSpec) :=
  OpenClaim.holds_of_wide 5 Try.f5 rfl rfl rfl rfl rfl rfl rfl ⟨rfl, rfl, rfl, rfl, rfl⟩ rfl rfl rfl rfl rfl (by kernel_rfl) Try.func5 (by kernel_rfl)
    (of_decide_eq_true (by kernel_rfl)) (by unfold Func.isWrapper; first | (rw [if_pos (by decide +kernel)]; kernel_rfl) | (rw [if_neg (by decide +kernel)]; exact ⟨rfl, rfl⟩))
    (fun os started H enc _ => lifted os started H enc)

theorem proved : Rows.LitsSortsSaid :=
  over
#print axioms proved
end Go.Proofs.Ytcaaicodnkdclaa.litsSorts
