/- The contract of the chapter's example: the law's 'alive' returns true. No condition. -/
import Derived.Test.YtacdpndkcboafaaRTake
namespace Go.Proofs.Ytacdpndkcboafaa
open Go.ChangeShapes Go.WideShapes Go.RowKit
set_option linter.unusedVariables false

theorem put_300 : puts 300 = [172, 2] := by
  have h : puts ((300 : Nat) : Int) = [172, 2] := by rw [puts_nat, put_hi (by omega), put_lo (by omega)]; rfl
  exact h
theorem take_300 : takeA [172, 2] 0 300 = (300, 2, 0) := by decide

/-- What Put leaves of 300. -/
def Two (w : World) (e : Ending) (w' : World) : Prop :=
  ∃ b o c, e = .returned (.slice (some ⟨b, o, none⟩) 2 c) ∧ w'.cell? ⟨b, o, none⟩ = some (.int .u8 172) ∧ w'.cell? ⟨b, o + 1, none⟩ = some (.int .u8 2) ∧ Src w' w'.heap.size (some ⟨b, o, none⟩) [172, 2] ∧ 2 ≤ c ∧ Below w.heap.size w w'

theorem two_any (w : World) : Calls Try.prog 6 #[.int .i64 300] w (Two w) := by
  refine (put_any 300 (by omega) w).mono ?_
  rintro e w' ⟨a, c, rfl, hown, hb⟩
  rw [put_300] at hown ⊢
  obtain ⟨hs, hc, _⟩ := src_own hown
  obtain ⟨b, o, rfl, h2, h3, h4⟩ := hs (by simp)
  exact ⟨b, o, c, rfl, h4 0 (by decide), h4 1 (by decide), hs, hc, hb⟩

theorem alive_any (w : World) : Calls Try.prog 8 #[] w fun e w' => e = .returned (.bool true) ∧ Below w.heap.size w w' := by
  go_enter Try.func8, Try.ntmps8
  go_wp2_with fail
  refine (two_any _).mono ?_
  rintro e w1 ⟨b, o, c, rfl, k0, k1, hs, hc, hb⟩
  have HS := Lib.hid hs
  have HB := Lib.hid hb
  have ht := take_any (some ⟨b, o, none⟩) c [172, 2] 0 300 w1 _ hs hc (by decide) (by decide)
  rw [take_300] at ht
  unfold three at ht
  have HT := Lib.hid ht
  clear hs hb ht
  go_wp2_with (first | (go_at_call 13; refine (HT.out).mono ?_; rintro e w' ⟨rfl, rfl⟩))

  go_ret
  exact ⟨rfl, HB.out⟩
end Go.Proofs.Ytacdpndkcboafaa
