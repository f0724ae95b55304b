/- The contracts of lits.Max and of the answer by definition: both are the greatest variable of the list, 0 of none (conditions: the slice reads as the list, its literals lie from 0 to 2^61 + 1). -/
import Derived.Test.YtcaaicodnkdclaaCalls
import Derived.WalkLawsBesides
import Derived.Lib.Hide
import Derived.Outline
namespace Go.Proofs.Ytcaaicodnkdclaa
open Go.ChangeShapes Go.WideShapes Go.RowKit
set_option linter.unusedVariables false

def gmx (l : List Int) : Int := l.foldl (fun m x => if m < x / 2 then x / 2 else m) 0

theorem gmx_snoc (l : List Int) (x : Int) : gmx (l ++ [x]) = if gmx l < x / 2 then x / 2 else gmx l := by
  unfold gmx; rw [List.foldl_append]; rfl
theorem take_snoc' (l : List Int) (k : Nat) (h : k < l.length) : l.take (k + 1) = l.take k ++ [l.getD k 0] := by
  rw [List.take_add_one, List.getElem?_eq_getElem h]; simp [List.getD, List.getElem?_eq_getElem h]

theorem rmax_any (b off c : Nat) (xs : List Int) (w : World) (hn : xs.length ≤ 1000000) (hx : ∀ j, j < xs.length → 0 ≤ xs.getD j 0 ∧ xs.getD j 0 ≤ 2305843009213693953)
    (hc : ∀ j, j < xs.length → w.cell? ⟨b, off + j, none⟩ = some (.int .i64 (xs.getD j 0))) :
    Calls Try.prog 26 #[.slice (some ⟨b, off, none⟩) xs.length c] w fun e w' => e = .returned (.int .i64 (gmx xs)) ∧ w = w' := by
  go_enter Try.func26, Try.ntmps26
  go_wp2
  go_loop [3, 4] (fun m i => ∃ k : Nat, k ≤ xs.length ∧ i = .int .i64 k ∧ m = .int .i64 (gmx (xs.take k))) (fun _ i => xs.length - (intOf i).toNat)
  case atStart => exact ⟨0, Nat.zero_le _, rfl, rfl⟩
  case round =>
    obtain ⟨k, hk, rfl, rfl⟩ := hrel
    by_cases hlt : k < xs.length
    · have hcell := hc k hlt
      have hx1 := (hx k hlt).1
      have hx2 := (hx k hlt).2
      have hs : gmx (xs.take (k + 1)) = if gmx (xs.take k) < xs.getD k 0 / 2 then xs.getD k 0 / 2 else gmx (xs.take k) := by rw [take_snoc' xs k hlt, gmx_snoc]
      generalize xs.getD k 0 = x at hcell hx1 hx2 hs
      have HS := Lib.hid hs
      clear hs hc hx
      go_wp2_with (first | (go_at_call 13; refine (rvar_any _ (by omega) (by omega) _).mono ?_; rintro e w' ⟨rfl, rfl⟩))
      go_round
      case rel => exact ⟨k + 1, by omega, by go_num, by rw [HS.out]⟩
      case measure => simp [intOf]; omega
    · clear hc hx
      go_wp2
      go_ret
      exact ⟨ret_int (by rw [List.take_of_length_le (by omega)]), rfl⟩
theorem rmax_empty (a : Option Addr) (c : Nat) (w : World) : Calls Try.prog 26 #[.slice a 0 c] w fun e w' => e = .returned (.int .i64 0) ∧ w = w' := by
  go_enter Try.func26, Try.ntmps26
  go_wp2
  refine wp_loop_rounds 1 ?_
  rw [rounds_succ]
  go_wp2
  go_ret
  exact ⟨rfl, rfl⟩

theorem max_any (b off c : Nat) (xs : List Int) (w : World) (hn : xs.length ≤ 1000000) (hx : ∀ j, j < xs.length → 0 ≤ xs.getD j 0 ∧ xs.getD j 0 ≤ 2305843009213693953)
    (hc : ∀ j, j < xs.length → w.cell? ⟨b, off + j, none⟩ = some (.int .i64 (xs.getD j 0))) :
    Calls Try.prog 25 #[.slice (some ⟨b, off, none⟩) xs.length c] w fun e w' => e = .returned (.int .i64 (gmx xs)) ∧ w = w' := by
  go_enter Try.func25, Try.ntmps25
  go_wp2
  go_loop [3, 8] (fun m i => ∃ k : Nat, k ≤ xs.length ∧ i = .int .i64 k ∧ m = .int .i64 (gmx (xs.take k))) (fun _ i => xs.length - (intOf i).toNat)
  case atStart => exact ⟨0, Nat.zero_le _, rfl, rfl⟩
  case round =>
    obtain ⟨k, hk, rfl, rfl⟩ := hrel
    by_cases hlt : k < xs.length
    · have hcell := hc k hlt
      have hx1 := (hx k hlt).1
      have hx2 := (hx k hlt).2
      have hs : gmx (xs.take (k + 1)) = if gmx (xs.take k) < xs.getD k 0 / 2 then xs.getD k 0 / 2 else gmx (xs.take k) := by rw [take_snoc' xs k hlt, gmx_snoc]
      generalize xs.getD k 0 = x at hcell hx1 hx2 hs
      have HS := Lib.hid hs
      clear hs hc hx
      go_wp2_with (first | (go_at_call 12; refine (var_any _ _).mono ?_; rintro e w' ⟨rfl, rfl⟩))
      go_round
      case rel => exact ⟨k + 1, by omega, by go_num, by rw [HS.out]⟩
      case measure => simp [intOf]; omega
    · clear hc hx
      go_wp2
      go_ret
      exact ⟨ret_int (by rw [List.take_of_length_le (by omega)]), rfl⟩
theorem max_empty (a : Option Addr) (c : Nat) (w : World) : Calls Try.prog 25 #[.slice a 0 c] w fun e w' => e = .returned (.int .i64 0) ∧ w = w' := by
  go_enter Try.func25, Try.ntmps25
  go_wp2
  refine wp_loop_rounds 1 ?_
  rw [rounds_succ]
  go_wp2
  go_ret
  exact ⟨rfl, rfl⟩

end Go.Proofs.Ytcaaicodnkdclaa
