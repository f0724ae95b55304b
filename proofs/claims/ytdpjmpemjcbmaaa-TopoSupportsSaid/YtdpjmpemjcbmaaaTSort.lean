/- The contract of slices.Sort at a list of the call's own (condition: at most 1000000 numbers). -/
import Derived.Test.YtdpjmpemjcbmaaaShelf
import Derived.Test.YtdpjmpemjcbmaaaTSup1
import Derived.Lib.OwnBridge
namespace Go.Proofs.Ytdpjmpemjcbmaaa
open Go.ChangeShapes Go.WideShapes Go.RowKit Go.Sort
set_option linter.unusedVariables false

theorem grow_grown (w : World) (os : Array Obj) : w.grownBy (grow w os) none :=
  ⟨rfl, rfl, rfl, by simp [grow], fun k hk _ => by simp [grow, Array.getElem?_append, hk]⟩
theorem below_grow {B : Nat} {w0 w : World} (h : Below B w0 w) (hB : B ≤ w.heap.size) (os : Array Obj) : Below B w0 (grow w os) :=
  h.grown (grow_grown w os) hB (by simp)
theorem sort_own {W : World} {base : Nat} {v : Value} {xs : List Int} (h : W.ownsRow base 3 1 v xs.length (xs.map (Value.int .i64))) (hB : base ≤ W.heap.size) (hl : xs.length ≤ 1000000) :
    Calls Try.prog 36 #[v] W fun e w' => e = .returned (.tuple #[]) ∧ Below base W w' ∧ w'.ownsRow base 3 1 v xs.length ((xs.mergeSort fun x y => decide (x ≤ y)).map (Value.int .i64)) := by
  have hls : (xs.mergeSort fun x y => decide (x ≤ y)).length = xs.length := List.length_mergeSort xs
  by_cases hx : xs = []
  · subst hx
    rcases h.2 with ⟨rfl, _⟩ | ⟨g, cap, cur, rfl, h2, h3, h4⟩
    · refine Calls.mono (Try.slices_Sort_int_none none 0 W) ?_
      rintro e w' ⟨rfl, rfl⟩
      exact ⟨rfl, Below.refl _ _, by simpa using h⟩
    · refine Calls.mono (Try.slices_Sort_int_none _ cap W) ?_
      rintro e w' ⟨rfl, rfl⟩
      exact ⟨rfl, Below.refl _ _, by simpa using h⟩
  · obtain ⟨g, cap, rfl, hg, hgl, hcap, hcm, hlen, hH⟩ := Lib.holds_of_ownsRow h (fun e => by
      rcases h.2 with ⟨_, h0⟩ | ⟨g, cap, cur, hv, _⟩
      · exact hx (List.eq_nil_of_length_eq_zero h0)
      · rw [e] at hv; cases hv)
    refine Calls.mono (Try.slices_Sort_int g 0 cap xs W hH hgl (by omega)) ?_
    rintro e w' ⟨rfl, q, os, rfl⟩
    have hp := Lib.ownsRow_putRow (q := q) (k := xs.length) (ys := xs.mergeSort fun x y => decide (x ≤ y)) h (by omega) (Nat.le_refl _)
    have hk := hp.kept (grow_grown _ os) (.inr (by simp [Value.ownBlock]))
    refine ⟨rfl, below_grow (Lib.below_putRow (Below.refl base W) hg) ?_ os, ?_⟩
    · simpa [putRow, mapBlock, Sort.ahead] using hB
    · rw [List.take_of_length_le (by omega)] at hk
      exact hk
end Go.Proofs.Ytdpjmpemjcbmaaa
