/- The contract of the sort by definition: of a list that is not empty it makes, in memory of its own, the list of its numbers by insertion, each once (conditions: the slice reads as the list; at most 1000000 numbers). -/
import Derived.Test.YtcaaicodnkdclaaAppend
import Derived.Test.YtcaaicodnkdclaaMax
import Derived.Test.YtcaaicodnkdclaaSort
import Derived.Deep.QuietTactic
import Derived.BigQuiet
import Derived.Deep.RegionHeld3
import Derived.Deep.DrawnRows
namespace Go.Proofs.Ytcaaicodnkdclaa
open Go.ChangeShapes Go.WideShapes Go.RowKit
set_option linter.unusedVariables false
attribute [local go_sem ↓] Go.wp_at_zero Go.wp_at_succ

/-- What a value that owns its numbers looks like. -/
theorem own_form {w : World} {base e n : Nat} {v : Value} {ys : List Int} (h : w.ownsRow base e 1 v n (ys.map (Value.int .i64))) :
    ∃ A c, v = .slice A n c ∧ n ≤ c ∧ c ≤ maxLen ∧ ((A = none ∧ n = 0 ∧ c = 0) ∨ ∃ g, A = some ⟨g, 0, none⟩ ∧ g < w.heap.size) := by
  rcases h.2 with ⟨rfl, rfl⟩ | ⟨g, cap, cur, rfl, hb, hg, hnc, hcm, _⟩
  · exact ⟨none, 0, rfl, Nat.le_refl _, by unfold maxLen; omega, .inl ⟨rfl, rfl, rfl⟩⟩
  · refine ⟨_, cap, rfl, hnc, hcm, .inr ⟨g, rfl, ?_⟩⟩
    rcases Nat.lt_or_ge g w.heap.size with hlt | hge
    · exact hlt
    · rw [Array.getElem?_eq_none hge] at hg; cases hg
theorem own_one (w : World) (B : Nat) (h : B ≤ w.heap.size) : (w.alloc (.cells #[] 3)).ownsRow B 3 1 (.slice (some ⟨w.heap.size, 0, none⟩) 0 0) 0 (([] : List Int).map (Value.int .i64)) :=
  World.ownsRow_made w #[] 0 h (Nat.zero_le _) rfl
theorem own_two (w : World) (B : Nat) (o : Obj) (h : B ≤ w.heap.size) : ((w.alloc (.cells #[] 3)).alloc o).ownsRow B 3 1 (.slice (some ⟨w.heap.size, 0, none⟩) 0 0) 0 (([] : List Int).map (Value.int .i64)) :=
  (own_one w B h).alloc o
theorem own_late (w : World) (B : Nat) (o : Obj) (h : B ≤ w.heap.size) : ((w.alloc o).alloc (.cells #[] 3)).ownsRow B 3 1 (.slice (some ⟨w.heap.size + 1, 0, none⟩) 0 0) 0 (([] : List Int).map (Value.int .i64)) := by
  have h2 := own_one (w.alloc o) B (by simp; omega)
  simpa using h2
theorem own_cast {w : World} {B e n n' : Nat} {v : Value} {xs ys : List Int} (h : w.ownsRow B e 1 v n (xs.map (Value.int .i64))) (hn : n = n') (hx : xs = ys) : w.ownsRow B e 1 v n' (ys.map (Value.int .i64)) := by
  subst hn; subst hx; exact h
theorem heap_two (w : World) (o o' : Obj) : ((w.alloc o).alloc o').heap[w.heap.size + 1]? = some o' := by
  have h := heap_alloc_new (w.alloc o) o'
  simpa using h
theorem heap_one (w : World) (o o' : Obj) : ((w.alloc o).alloc o').heap[w.heap.size]? = some o :=
  (Below.heap_alloc (w.alloc o) o' w.heap.size (by simp)).trans (heap_alloc_new w o)
theorem below_drewN {B : Nat} {w w' : World} (h : Below B w w') (n : Nat) : Below B w (w'.drewN n) := ⟨h.os, h.tape, h.output, h.size, h.block⟩

set_option maxHeartbeats 2000000 in
theorem rsort_any (b off c : Nat) (xs : List Int) (w : World) (hn : xs.length ≤ 1000000) (hb : b < w.heap.size)
    (hc : ∀ j, j < xs.length → w.cell? ⟨b, off + j, none⟩ = some (.int .i64 (xs.getD j 0))) :
    Calls Try.prog 24 #[.slice (some ⟨b, off, none⟩) xs.length c] w (SortLeft w (isort xs)) := by
  obtain ⟨i0, hi, hz0, hz1, hz2⟩ := info_parts int_info
  have HC := Lib.hid hc
  clear hc
  go_enter Try.func24, Try.ntmps24
  go_wp2_with fail
  go_loopg [3, 4] xs.length (fun m s3 s4 wx => ∃ i : Nat, i + m = xs.length ∧ s4 = .int .i64 i ∧
    wx.ownsRow w.heap.size 3 1 s3 (isort (xs.take i)).length ((isort (xs.take i)).map (Value.int .i64)) ∧ Below w.heap.size w wx)
  case atStart => exact ⟨0, by omega, rfl, by simpa [isort] using World.ownsRow_nil _ _ _ _, Below.refl _ _⟩
  case round =>
    obtain ⟨i, him, rfl, hrow, hbx⟩ := hrel
    generalize gk = m at *
    by_cases hil : i < xs.length
    · have hx0 : wr.cell? ⟨b, off + i, none⟩ = some (.int .i64 (xs.getD i 0)) := (hbx.cell (p := ⟨b, off + i, none⟩) hb).trans (HC.out i hil)
      have hsn : isort (xs.take (i + 1)) = ins (xs.getD i 0) (isort (xs.take i)) := by rw [take_snoc' xs i hil, isort_snoc]
      have hll := isort_len (xs.take i)
      have hlt2 : (xs.take i).length ≤ i := List.length_take_le _ _
      generalize hxe : xs.getD i 0 = x at hx0 hsn
      generalize isort (xs.take i) = C at hrow hsn hll
      have HSN := Lib.hid hsn
      obtain ⟨A, cc, rfl, hcc, hcm, hform⟩ := own_form hrow
      have hsrc : Src wr wr.heap.size A C := Src.of_own hrow
      clear hsn hxe
      have hbl : b < wr.heap.size := by have := hbx.size; omega
      have hCL : C.length ≤ 1000000 := by omega
      clear hll hlt2
      rcases hform with ⟨rfl, hL, rfl⟩ | ⟨g, rfl, hgl⟩
      · have hC : C = [] := List.eq_nil_of_length_eq_zero hL
        subst hC
        have HF := Lib.hid (show ins x [] = [] ++ x :: [] from rfl)
        clear hL hrow
        have g3 : (0 : Int) ≤ (i : Int) := Int.natCast_nonneg _
        have g4 : (i : Int) < (xs.length : Int) := by omega
        go_wp2_with fail
        go_loopg [5] 0 (fun m5 s5 wy => ∃ n : Nat, s5 = .int .i64 0 ∧ wy = wr.drewN n)
        case atStart => exact ⟨0, rfl, rfl⟩
        case round =>
          obtain ⟨nd, rfl, rfl⟩ := hrel
          go_wp2_with fail
          go_quiet (fail)
          go_wp2_with fail
          go_quiet (fail)
          go_wp2_with fail
          go_region_held3 (fun w' => w'.cell? ⟨b, off + i, none⟩ = some (.int .i64 x)) (first | go_keep | (exact (Below.cell (p := ⟨b, off + i, none⟩) (by assumption) hbl).trans hx0))
            (first
              | (refine step_app _ (by rfl) (.tmp 44) (.tmp 47) 28 (by rfl) wr.heap.size 3 i0 Try.underlying28 hi hz0 hz1 hz2 (.slice (some ⟨_, 0, none⟩) 0 0) 0 [] (by rfl) ?_ (none) (0) (0) (([] : List Int)) (by rfl) ?_ ⟨wr.heap.size, ?_⟩ (by omega) ?_ ?_
                 · first | exact own_one _ _ (by simp) | exact own_two _ _ _ (by simp) | exact own_late _ _ _ (by simp)
                 · first | rfl | (rw [List.length_take]; omega)
                 · exact Src.nil
                 · first | (simp; done) | (simp; omega)
                 intro v1 w1 hown1 hgrow1 hat1
                 have hb1 : Below wr.heap.size wr w1 := by
                   refine Below.grown ?_ hgrow1 (by first | (simp; done) | (simp; omega)) (fun j hj => ?_)
                   · repeat (first | exact below_drewN (Below.refl _ _) _ | refine Below.alloc ?_ (by first | (simp; done) | (simp; omega)) _)
                   · simp [Value.ownBlock] at hj; omega)
              | (refine step_app _ ?_ (.tmp 48) (.tmp 53) 28 ?_ wr.heap.size 3 i0 Try.underlying28 hi hz0 hz1 hz2 v1 (0 + 0) ([] ++ ([] : List Int)) ?_ ?_ (some ⟨w1.heap.size, 0, none⟩) 1 1 [x] ?_ ?_ ⟨_, Src.one (t := 3) (fr := (0, 0)) ?_ (Nat.lt_succ_self _)⟩ ?_ ?_ ?_
                 · rfl
                 · rfl
                 · rfl
                 · exact hown1.alloc _
                 · rfl
                 · rfl
                 · exact heap_alloc_new w1 _
                 · omega
                 · have := hb1.size; simp; omega
                 intro v2 w2 hown2 hgrow2 hat2
                 have hb2 : Below wr.heap.size wr w2 := by
                   refine Below.grown ?_ hgrow2 (by have := hb1.size; simp; omega) (fun j hj => (hown1.lt j hj).1)
                   repeat (first | exact hb1 | refine Below.alloc ?_ hb1.size _))
              | (refine step_app _ ?_ (.tmp 48) (.tmp 53) 28 ?_ wr.heap.size 3 i0 Try.underlying28 hi hz0 hz1 hz2 v1 (0 + 0) ([] ++ ([] : List Int)) ?_ ?_ (some ⟨wr.heap.size + 1, 0, none⟩) 1 1 [x] ?_ ?_ ⟨_, Src.one (t := 3) (fr := (0, 0)) ?_ (Nat.lt_succ_self _)⟩ ?_ ?_ ?_
                 · rfl
                 · rfl
                 · rfl
                 · exact hown1
                 · rfl
                 · rfl
                 · exact (hgrow1.block (wr.heap.size + 1) (by simp) (by simp [Value.ownBlock])).trans (heap_two _ _ _)
                 · omega
                 · have := hb1.size; simp; omega
                 intro v2 w2 hown2 hgrow2 hat2
                 have hb2 : Below wr.heap.size wr w2 := by
                   refine Below.grown ?_ hgrow2 (by have := hb1.size; simp; omega) (fun j hj => (hown1.lt j hj).1)
                   repeat (first | exact hb1 | refine Below.alloc ?_ hb1.size _))
              | (refine step_app _ ?_ (.tmp 48) (.tmp 53) 28 ?_ wr.heap.size 3 i0 Try.underlying28 hi hz0 hz1 hz2 v1 (0 + 0) ([] ++ ([] : List Int)) ?_ ?_ (some ⟨wr.heap.size, 0, none⟩) 1 1 [x] ?_ ?_ ⟨_, Src.one (t := 3) (fr := (0, 0)) ?_ (Nat.lt_succ_self _)⟩ ?_ ?_ ?_
                 · rfl
                 · rfl
                 · rfl
                 · exact hown1
                 · rfl
                 · rfl
                 · exact (hgrow1.block wr.heap.size (by simp; omega) (by simp [Value.ownBlock])).trans (heap_one _ _ _)
                 · omega
                 · have := hb1.size; simp; omega
                 intro v2 w2 hown2 hgrow2 hat2
                 have hb2 : Below wr.heap.size wr w2 := by
                   refine Below.grown ?_ hgrow2 (by have := hb1.size; simp; omega) (fun j hj => (hown1.lt j hj).1)
                   repeat (first | exact hb1 | refine Below.alloc ?_ hb1.size _))
              | (refine step_app _ ?_ (.tmp 54) (.tmp 57) 28 ?_ wr.heap.size 3 i0 Try.underlying28 hi hz0 hz1 hz2 v2 (0 + 0 + 1) ([] ++ ([] : List Int) ++ [x]) ?_ hown2 (none) (0) (0) (([] : List Int)) ?_ ?_ ⟨wr.heap.size, ?_⟩ ?_ ?_ ?_
                 · rfl
                 · rfl
                 · rfl
                 · rfl
                 · first | rfl | (simp; done)
                 · exact Src.nil
                 · omega
                 · have := hb2.size; omega
                 intro v3 w3 hown3 hgrow3 hat3
                 have hb3 : Below wr.heap.size wr w3 := hb2.grown hgrow3 hb2.size (fun j hj => (hown2.lt j hj).1))
              | fail)
          all_goals
            go_wp2_with fail
            go_roundg (m - 1)
            case measure => omega
            case rel =>
              refine ⟨i + 1, by omega, by first | rfl | simp, ?_, hbx.trans ((by assumption : Below wr.heap.size wr _).mono hbx.size)⟩
              rw [HSN.out, HF.out]
              exact own_base (own_cast hown3 (by simp <;> omega) (by simp)) hbx.size

      · have hgl2 := hgl
        clear hgl2
        go_wp2_with fail
        go_loopg [5] C.length (fun m5 s5 wy => ∃ k n : Nat, k + m5 = C.length ∧ s5 = .int .i64 k ∧ Aside (ins x C = C.take k ++ ins x (C.drop k)) ∧ wy = wr.drewN n)
        case atStart => exact ⟨0, 0, by omega, rfl, by simp [Aside], rfl⟩
        case round =>
          obtain ⟨k, nd, hk, rfl, HK, rfl⟩ := hrel
          generalize gk = m5 at *
          by_cases hkl : k < C.length
          · have hy0 : wr.cell? ⟨g, k, none⟩ = some (.int .i64 (C.getD k 0)) := by
              obtain ⟨b', o', e, _, hcell⟩ := hsrc (by rintro rfl; simp at hkl)
              injection e with e; injection e with e1 e2; subst e1; subst e2
              simpa using hcell k hkl
            by_cases hyx : C.getD k 0 < x
            · have hst := ins_step x C k hkl hyx
              have HS := Lib.hid hst
              clear hst
              generalize C.getD k 0 = y at hy0 hyx
              have g1 : (0 : Int) ≤ (k : Int) := Int.natCast_nonneg _
              have g2 : (k : Int) < (C.length : Int) := by omega
              have g3 : (0 : Int) ≤ (i : Int) := Int.natCast_nonneg _
              have g4 : (i : Int) < (xs.length : Int) := by omega
              go_wp2_with fail
              go_quiet (fail)
              go_wp2_with fail
              go_roundg (m5 - 1)
              case measure => omega
              case rel => exact ⟨k + 1, _, by omega, by first | rfl | simp, by show _ = _; rw [HK.out, HS.out], rfl⟩
            · have hyx2 : decide (C.getD k 0 < x) = false := by rw [decide_eq_false_iff_not]; exact hyx
              have g1 : (0 : Int) ≤ (k : Int) := Int.natCast_nonneg _
              have g2 : (k : Int) < (C.length : Int) := by omega
              have g3 : (0 : Int) ≤ (i : Int) := Int.natCast_nonneg _
              have g4 : (i : Int) < (xs.length : Int) := by omega
              have g7 : (C.length : Int) ≤ (cc : Int) := by omega
              have g8 : (k : Int) ≤ (cc : Int) := by omega
              have g9 : (k : Int) ≤ (C.length : Int) := by omega
              have g10 : (k : Int) < (cc : Int) := by omega
              have g11 : ¬ cc = k := by omega
              have g5 : ((k : Int) == (C.length : Int)) = false := beq_eq_false_iff_ne.2 (by omega)
              by_cases hey : C.getD k 0 = x
              · have hst := ins_there x C k hkl hey
                have HS := Lib.hid hst
                rw [hey] at hy0 hyx2
                clear hst hey hyx
                have g6 : (x != x) = false := by simp
                go_wp2_with fail
                go_quiet (fail)
                go_wp2_with fail
                go_quiet (fail)
                go_wp2_with fail
                go_roundg (m - 1)
                case measure => omega
                case rel =>
                  refine ⟨i + 1, by omega, by first | rfl | simp, ?_, ?_⟩
                  · rw [HSN.out, HK.out, HS.out]; exact hrow
                  · exact below_drewN hbx _
              · have hst := ins_here x C k hkl hyx hey
                have g6 : (C.getD k 0 != x) = true := by rw [bne_iff_ne]; exact hey
                have HF := Lib.hid (show ins x C = C.take k ++ x :: C.drop k from HK.out.trans hst)
                clear hst hey hyx
                generalize C.getD k 0 = y at hy0 hyx2 g6
                go_wp2_with fail
                go_quiet (fail)
                go_wp2_with fail
                go_quiet (fail)
                go_wp2_with fail
                go_region_held3 (fun w' => w'.cell? ⟨b, off + i, none⟩ = some (.int .i64 x)) (first | go_keep | (exact (Below.cell (p := ⟨b, off + i, none⟩) (by assumption) hbl).trans hx0))
                  (first
                    | (refine step_app _ (by rfl) (.tmp 44) (.tmp 47) 28 (by rfl) wr.heap.size 3 i0 Try.underlying28 hi hz0 hz1 hz2 (.slice (some ⟨_, 0, none⟩) 0 0) 0 [] (by rfl) ?_ (some ⟨g, 0, none⟩) (k) (cc) (C.take k) (by rfl) ?_ ⟨wr.heap.size, ?_⟩ (by omega) ?_ ?_
                       · first | exact own_one _ _ (by simp) | exact own_two _ _ _ (by simp) | exact own_late _ _ _ (by simp)
                       · first | rfl | (rw [List.length_take]; omega)
                       · refine (hsrc.below ?_).take k; repeat (first | exact below_drewN (Below.refl _ _) _ | refine Below.alloc ?_ (by first | (simp; done) | (simp; omega)) _)
                       · first | (simp; done) | (simp; omega)
                       intro v1 w1 hown1 hgrow1 hat1
                       have hb1 : Below wr.heap.size wr w1 := by
                         refine Below.grown ?_ hgrow1 (by first | (simp; done) | (simp; omega)) (fun j hj => ?_)
                         · repeat (first | exact below_drewN (Below.refl _ _) _ | refine Below.alloc ?_ (by first | (simp; done) | (simp; omega)) _)
                         · simp [Value.ownBlock] at hj; omega)
                    | (refine step_app _ ?_ (.tmp 48) (.tmp 53) 28 ?_ wr.heap.size 3 i0 Try.underlying28 hi hz0 hz1 hz2 v1 (0 + k) ([] ++ C.take k) ?_ ?_ (some ⟨w1.heap.size, 0, none⟩) 1 1 [x] ?_ ?_ ⟨_, Src.one (t := 3) (fr := (0, 0)) ?_ (Nat.lt_succ_self _)⟩ ?_ ?_ ?_
                       · rfl
                       · rfl
                       · rfl
                       · exact hown1.alloc _
                       · rfl
                       · rfl
                       · exact heap_alloc_new w1 _
                       · omega
                       · have := hb1.size; simp; omega
                       intro v2 w2 hown2 hgrow2 hat2
                       have hb2 : Below wr.heap.size wr w2 := by
                         refine Below.grown ?_ hgrow2 (by have := hb1.size; simp; omega) (fun j hj => (hown1.lt j hj).1)
                         repeat (first | exact hb1 | refine Below.alloc ?_ hb1.size _))
                    | (refine step_app _ ?_ (.tmp 48) (.tmp 53) 28 ?_ wr.heap.size 3 i0 Try.underlying28 hi hz0 hz1 hz2 v1 (0 + k) ([] ++ C.take k) ?_ ?_ (some ⟨wr.heap.size + 1, 0, none⟩) 1 1 [x] ?_ ?_ ⟨_, Src.one (t := 3) (fr := (0, 0)) ?_ (Nat.lt_succ_self _)⟩ ?_ ?_ ?_
                       · rfl
                       · rfl
                       · rfl
                       · exact hown1
                       · rfl
                       · rfl
                       · exact (hgrow1.block (wr.heap.size + 1) (by simp) (by simp [Value.ownBlock])).trans (heap_two _ _ _)
                       · omega
                       · have := hb1.size; simp; omega
                       intro v2 w2 hown2 hgrow2 hat2
                       have hb2 : Below wr.heap.size wr w2 := by
                         refine Below.grown ?_ hgrow2 (by have := hb1.size; simp; omega) (fun j hj => (hown1.lt j hj).1)
                         repeat (first | exact hb1 | refine Below.alloc ?_ hb1.size _))
                    | (refine step_app _ ?_ (.tmp 48) (.tmp 53) 28 ?_ wr.heap.size 3 i0 Try.underlying28 hi hz0 hz1 hz2 v1 (0 + k) ([] ++ C.take k) ?_ ?_ (some ⟨wr.heap.size, 0, none⟩) 1 1 [x] ?_ ?_ ⟨_, Src.one (t := 3) (fr := (0, 0)) ?_ (Nat.lt_succ_self _)⟩ ?_ ?_ ?_
                       · rfl
                       · rfl
                       · rfl
                       · exact hown1
                       · rfl
                       · rfl
                       · exact (hgrow1.block wr.heap.size (by simp; omega) (by simp [Value.ownBlock])).trans (heap_one _ _ _)
                       · omega
                       · have := hb1.size; simp; omega
                       intro v2 w2 hown2 hgrow2 hat2
                       have hb2 : Below wr.heap.size wr w2 := by
                         refine Below.grown ?_ hgrow2 (by have := hb1.size; simp; omega) (fun j hj => (hown1.lt j hj).1)
                         repeat (first | exact hb1 | refine Below.alloc ?_ hb1.size _))
                    | (refine step_app _ ?_ (.tmp 54) (.tmp 57) 28 ?_ wr.heap.size 3 i0 Try.underlying28 hi hz0 hz1 hz2 v2 (0 + k + 1) ([] ++ C.take k ++ [x]) ?_ hown2 (some ⟨g, k, none⟩) (C.length - k) (cc - k) (C.drop k) ?_ ?_ ⟨wr.heap.size, ?_⟩ ?_ ?_ ?_
                       · rfl
                       · rfl
                       · rfl
                       · rfl
                       · first | rfl | (simp; done)
                       · have := (hsrc.below hb2).drop k; simpa using this
                       · omega
                       · have := hb2.size; omega
                       intro v3 w3 hown3 hgrow3 hat3
                       have hb3 : Below wr.heap.size wr w3 := hb2.grown hgrow3 hb2.size (fun j hj => (hown2.lt j hj).1))
                    | fail)
                all_goals
                  go_wp2_with fail
                  go_roundg (m - 1)
                  case measure => omega
                  case rel =>
                    refine ⟨i + 1, by omega, by first | rfl | simp, ?_, hbx.trans ((by assumption : Below wr.heap.size wr _).mono hbx.size)⟩
                    rw [HSN.out, HF.out]
                    exact own_base (own_cast hown3 (by simp <;> omega) (by simp)) hbx.size
          · have hst : C.take k ++ ins x (C.drop k) = C.take k ++ x :: C.drop k := by
              have hd : C.drop k = [] := List.drop_eq_nil_of_le (by omega)
              rw [hd]; rfl
            have HF := Lib.hid (show ins x C = C.take k ++ x :: C.drop k from HK.out.trans hst)
            have HN := Lib.hid (show C.drop k = [] from List.drop_eq_nil_of_le (by omega))
            clear hst
            have g1 : (0 : Int) ≤ (k : Int) := Int.natCast_nonneg _
            have g2 : decide ((k : Int) < (C.length : Int)) = false := by rw [decide_eq_false_iff_not]; omega
            have g3 : (0 : Int) ≤ (i : Int) := Int.natCast_nonneg _
            have g4 : (i : Int) < (xs.length : Int) := by omega
            have g7 : (C.length : Int) ≤ (cc : Int) := by omega
            have g8 : (k : Int) ≤ (cc : Int) := by omega
            have g9 : (k : Int) ≤ (C.length : Int) := by omega
            have g5 : ((k : Int) == (C.length : Int)) = true := beq_iff_eq.2 (by omega)
            by_cases hck : cc = k
            · subst hck
              have HF2 := Lib.hid (show ins x C = C.take cc ++ x :: [] from by rw [HF.out, HN.out])
              go_wp2_with fail
              go_quiet (fail)
              go_wp2_with fail
              go_quiet (fail)
              go_wp2_with fail
              go_region_held3 (fun w' => w'.cell? ⟨b, off + i, none⟩ = some (.int .i64 x)) (first | go_keep | (exact (Below.cell (p := ⟨b, off + i, none⟩) (by assumption) hbl).trans hx0))
                (first
                  | (refine step_app _ (by rfl) (.tmp 44) (.tmp 47) 28 (by rfl) wr.heap.size 3 i0 Try.underlying28 hi hz0 hz1 hz2 (.slice (some ⟨_, 0, none⟩) 0 0) 0 [] (by rfl) ?_ (some ⟨g, 0, none⟩) (cc) (cc) (C.take cc) (by rfl) ?_ ⟨wr.heap.size, ?_⟩ (by omega) ?_ ?_
                     · first | exact own_one _ _ (by simp) | exact own_two _ _ _ (by simp) | exact own_late _ _ _ (by simp)
                     · first | rfl | (rw [List.length_take]; omega)
                     · refine (hsrc.below ?_).take cc; repeat (first | exact below_drewN (Below.refl _ _) _ | refine Below.alloc ?_ (by first | (simp; done) | (simp; omega)) _)
                     · first | (simp; done) | (simp; omega)
                     intro v1 w1 hown1 hgrow1 hat1
                     have hb1 : Below wr.heap.size wr w1 := by
                       refine Below.grown ?_ hgrow1 (by first | (simp; done) | (simp; omega)) (fun j hj => ?_)
                       · repeat (first | exact below_drewN (Below.refl _ _) _ | refine Below.alloc ?_ (by first | (simp; done) | (simp; omega)) _)
                       · simp [Value.ownBlock] at hj; omega)
                  | (refine step_app _ ?_ (.tmp 48) (.tmp 53) 28 ?_ wr.heap.size 3 i0 Try.underlying28 hi hz0 hz1 hz2 v1 (0 + cc) ([] ++ C.take cc) ?_ ?_ (some ⟨w1.heap.size, 0, none⟩) 1 1 [x] ?_ ?_ ⟨_, Src.one (t := 3) (fr := (0, 0)) ?_ (Nat.lt_succ_self _)⟩ ?_ ?_ ?_
                     · rfl
                     · rfl
                     · rfl
                     · exact hown1.alloc _
                     · rfl
                     · rfl
                     · exact heap_alloc_new w1 _
                     · omega
                     · have := hb1.size; simp; omega
                     intro v2 w2 hown2 hgrow2 hat2
                     have hb2 : Below wr.heap.size wr w2 := by
                       refine Below.grown ?_ hgrow2 (by have := hb1.size; simp; omega) (fun j hj => (hown1.lt j hj).1)
                       repeat (first | exact hb1 | refine Below.alloc ?_ hb1.size _))
                  | (refine step_app _ ?_ (.tmp 48) (.tmp 53) 28 ?_ wr.heap.size 3 i0 Try.underlying28 hi hz0 hz1 hz2 v1 (0 + cc) ([] ++ C.take cc) ?_ ?_ (some ⟨wr.heap.size + 1, 0, none⟩) 1 1 [x] ?_ ?_ ⟨_, Src.one (t := 3) (fr := (0, 0)) ?_ (Nat.lt_succ_self _)⟩ ?_ ?_ ?_
                     · rfl
                     · rfl
                     · rfl
                     · exact hown1
                     · rfl
                     · rfl
                     · exact (hgrow1.block (wr.heap.size + 1) (by simp) (by simp [Value.ownBlock])).trans (heap_two _ _ _)
                     · omega
                     · have := hb1.size; simp; omega
                     intro v2 w2 hown2 hgrow2 hat2
                     have hb2 : Below wr.heap.size wr w2 := by
                       refine Below.grown ?_ hgrow2 (by have := hb1.size; simp; omega) (fun j hj => (hown1.lt j hj).1)
                       repeat (first | exact hb1 | refine Below.alloc ?_ hb1.size _))
                  | (refine step_app _ ?_ (.tmp 48) (.tmp 53) 28 ?_ wr.heap.size 3 i0 Try.underlying28 hi hz0 hz1 hz2 v1 (0 + cc) ([] ++ C.take cc) ?_ ?_ (some ⟨wr.heap.size, 0, none⟩) 1 1 [x] ?_ ?_ ⟨_, Src.one (t := 3) (fr := (0, 0)) ?_ (Nat.lt_succ_self _)⟩ ?_ ?_ ?_
                     · rfl
                     · rfl
                     · rfl
                     · exact hown1
                     · rfl
                     · rfl
                     · exact (hgrow1.block wr.heap.size (by simp; omega) (by simp [Value.ownBlock])).trans (heap_one _ _ _)
                     · omega
                     · have := hb1.size; simp; omega
                     intro v2 w2 hown2 hgrow2 hat2
                     have hb2 : Below wr.heap.size wr w2 := by
                       refine Below.grown ?_ hgrow2 (by have := hb1.size; simp; omega) (fun j hj => (hown1.lt j hj).1)
                       repeat (first | exact hb1 | refine Below.alloc ?_ hb1.size _))
                  | (refine step_app _ ?_ (.tmp 54) (.tmp 57) 28 ?_ wr.heap.size 3 i0 Try.underlying28 hi hz0 hz1 hz2 v2 (0 + cc + 1) ([] ++ C.take cc ++ [x]) ?_ hown2 (some ⟨g, 0, none⟩) (0) (0) (([] : List Int)) ?_ ?_ ⟨wr.heap.size, ?_⟩ ?_ ?_ ?_
                     · rfl
                     · rfl
                     · rfl
                     · rfl
                     · first | rfl | (simp; done)
                     · exact Src.nil
                     · omega
                     · have := hb2.size; omega
                     intro v3 w3 hown3 hgrow3 hat3
                     have hb3 : Below wr.heap.size wr w3 := hb2.grown hgrow3 hb2.size (fun j hj => (hown2.lt j hj).1))
                  | fail)
              all_goals
                go_wp2_with fail
                go_roundg (m - 1)
                case measure => omega
                case rel =>
                  refine ⟨i + 1, by omega, by first | rfl | simp, ?_, hbx.trans ((by assumption : Below wr.heap.size wr _).mono hbx.size)⟩
                  rw [HSN.out, HF2.out]
                  exact own_base (own_cast hown3 (by simp <;> omega) (by simp)) hbx.size

            · have g10 : (k : Int) < (cc : Int) := by omega
              go_wp2_with fail
              go_quiet (fail)
              go_wp2_with fail
              go_quiet (fail)
              go_wp2_with fail
              go_region_held3 (fun w' => w'.cell? ⟨b, off + i, none⟩ = some (.int .i64 x)) (first | go_keep | (exact (Below.cell (p := ⟨b, off + i, none⟩) (by assumption) hbl).trans hx0))
                (first
                  | (refine step_app _ (by rfl) (.tmp 44) (.tmp 47) 28 (by rfl) wr.heap.size 3 i0 Try.underlying28 hi hz0 hz1 hz2 (.slice (some ⟨_, 0, none⟩) 0 0) 0 [] (by rfl) ?_ (some ⟨g, 0, none⟩) (k) (cc) (C.take k) (by rfl) ?_ ⟨wr.heap.size, ?_⟩ (by omega) ?_ ?_
                     · first | exact own_one _ _ (by simp) | exact own_two _ _ _ (by simp) | exact own_late _ _ _ (by simp)
                     · first | rfl | (rw [List.length_take]; omega)
                     · refine (hsrc.below ?_).take k; repeat (first | exact below_drewN (Below.refl _ _) _ | refine Below.alloc ?_ (by first | (simp; done) | (simp; omega)) _)
                     · first | (simp; done) | (simp; omega)
                     intro v1 w1 hown1 hgrow1 hat1
                     have hb1 : Below wr.heap.size wr w1 := by
                       refine Below.grown ?_ hgrow1 (by first | (simp; done) | (simp; omega)) (fun j hj => ?_)
                       · repeat (first | exact below_drewN (Below.refl _ _) _ | refine Below.alloc ?_ (by first | (simp; done) | (simp; omega)) _)
                       · simp [Value.ownBlock] at hj; omega)
                  | (refine step_app _ ?_ (.tmp 48) (.tmp 53) 28 ?_ wr.heap.size 3 i0 Try.underlying28 hi hz0 hz1 hz2 v1 (0 + k) ([] ++ C.take k) ?_ ?_ (some ⟨w1.heap.size, 0, none⟩) 1 1 [x] ?_ ?_ ⟨_, Src.one (t := 3) (fr := (0, 0)) ?_ (Nat.lt_succ_self _)⟩ ?_ ?_ ?_
                     · rfl
                     · rfl
                     · rfl
                     · exact hown1.alloc _
                     · rfl
                     · rfl
                     · exact heap_alloc_new w1 _
                     · omega
                     · have := hb1.size; simp; omega
                     intro v2 w2 hown2 hgrow2 hat2
                     have hb2 : Below wr.heap.size wr w2 := by
                       refine Below.grown ?_ hgrow2 (by have := hb1.size; simp; omega) (fun j hj => (hown1.lt j hj).1)
                       repeat (first | exact hb1 | refine Below.alloc ?_ hb1.size _))
                  | (refine step_app _ ?_ (.tmp 48) (.tmp 53) 28 ?_ wr.heap.size 3 i0 Try.underlying28 hi hz0 hz1 hz2 v1 (0 + k) ([] ++ C.take k) ?_ ?_ (some ⟨wr.heap.size + 1, 0, none⟩) 1 1 [x] ?_ ?_ ⟨_, Src.one (t := 3) (fr := (0, 0)) ?_ (Nat.lt_succ_self _)⟩ ?_ ?_ ?_
                     · rfl
                     · rfl
                     · rfl
                     · exact hown1
                     · rfl
                     · rfl
                     · exact (hgrow1.block (wr.heap.size + 1) (by simp) (by simp [Value.ownBlock])).trans (heap_two _ _ _)
                     · omega
                     · have := hb1.size; simp; omega
                     intro v2 w2 hown2 hgrow2 hat2
                     have hb2 : Below wr.heap.size wr w2 := by
                       refine Below.grown ?_ hgrow2 (by have := hb1.size; simp; omega) (fun j hj => (hown1.lt j hj).1)
                       repeat (first | exact hb1 | refine Below.alloc ?_ hb1.size _))
                  | (refine step_app _ ?_ (.tmp 48) (.tmp 53) 28 ?_ wr.heap.size 3 i0 Try.underlying28 hi hz0 hz1 hz2 v1 (0 + k) ([] ++ C.take k) ?_ ?_ (some ⟨wr.heap.size, 0, none⟩) 1 1 [x] ?_ ?_ ⟨_, Src.one (t := 3) (fr := (0, 0)) ?_ (Nat.lt_succ_self _)⟩ ?_ ?_ ?_
                     · rfl
                     · rfl
                     · rfl
                     · exact hown1
                     · rfl
                     · rfl
                     · exact (hgrow1.block wr.heap.size (by simp; omega) (by simp [Value.ownBlock])).trans (heap_one _ _ _)
                     · omega
                     · have := hb1.size; simp; omega
                     intro v2 w2 hown2 hgrow2 hat2
                     have hb2 : Below wr.heap.size wr w2 := by
                       refine Below.grown ?_ hgrow2 (by have := hb1.size; simp; omega) (fun j hj => (hown1.lt j hj).1)
                       repeat (first | exact hb1 | refine Below.alloc ?_ hb1.size _))
                  | (refine step_app _ ?_ (.tmp 54) (.tmp 57) 28 ?_ wr.heap.size 3 i0 Try.underlying28 hi hz0 hz1 hz2 v2 (0 + k + 1) ([] ++ C.take k ++ [x]) ?_ hown2 (some ⟨g, k, none⟩) (C.length - k) (cc - k) (C.drop k) ?_ ?_ ⟨wr.heap.size, ?_⟩ ?_ ?_ ?_
                     · rfl
                     · rfl
                     · rfl
                     · rfl
                     · first | rfl | (simp; done)
                     · have := (hsrc.below hb2).drop k; simpa using this
                     · omega
                     · have := hb2.size; omega
                     intro v3 w3 hown3 hgrow3 hat3
                     have hb3 : Below wr.heap.size wr w3 := hb2.grown hgrow3 hb2.size (fun j hj => (hown2.lt j hj).1))
                  | fail)
              all_goals
                go_wp2_with fail
                go_roundg (m - 1)
                case measure => omega
                case rel =>
                  refine ⟨i + 1, by omega, by first | rfl | simp, ?_, hbx.trans ((by assumption : Below wr.heap.size wr _).mono hbx.size)⟩
                  rw [HSN.out, HF.out]
                  exact own_base (own_cast hown3 (by simp <;> omega) (by simp)) hbx.size

    · have hi2 : i = xs.length := by omega
      have hrow2 := hrow
      rw [hi2, List.take_length] at hrow2
      have X := Lib.hid hrow2
      clear hrow hrow2 hi2
      go_wp2_with fail
      go_ret
      exact ⟨_, rfl, X.out, hbx⟩
end Go.Proofs.Ytcaaicodnkdclaa
