/- Contracts of New (a reader of a copy of the bytes), of Number as a whole, and of the chapter's example (conditions: the bytes can be read; at most 1000 of them). -/
import Derived.Test.YtffidpbhlfbmhaaNum
import Derived.Test.YtffidpbhlfbmhaaShelf
import Derived.Lib.SlBytesConst
namespace Go.Proofs.Ytffidpbhlfbmhaa
open Go.ChangeShapes Go.WideShapes Go.RowKit
set_option linter.unusedVariables false

/-- What New leaves. -/
def Made (w : World) (xs : List Int) (e : Ending) (w' : World) : Prop := ∃ r, e = .returned (.pointer (some ⟨r, 0, none⟩)) ∧ w.heap.size ≤ r ∧ Rd w' r xs 0 ∧ Below w.heap.size w w'

theorem made_of {w w1 : World} {xs : List Int} {a : Option Addr} {c : Nat} (hb : Below w.heap.size w w1) (hn : xs.length ≤ 1000) (h1 : xs.length ≤ c) (h2 : c ≤ 9223372036854775807) (hs : Src w1 w1.heap.size a xs) :
    Made w xs (.returned (.pointer (some ⟨w1.heap.size, 0, none⟩))) (w1.alloc (.cells #[.slice a xs.length c, .int .i64 0] 45)) := by
  refine ⟨w1.heap.size, rfl, hb.size, ⟨a, c, by rw [heap_alloc_new]; rfl, h1, h2, by omega, by omega, ?_⟩, hb.alloc hb.size _⟩
  exact hs.keep (r := w1.heap.size) (fun k hk _ => Below.heap_alloc _ _ _ hk) (by simp) (Nat.le_refl _)

theorem src_own {w : World} {base n c : Nat} {A : Option Addr} {xs : List Int} (h : w.ownsRow base 5 1 (.slice A n c) n (xs.map (Value.int .u8))) : Src w w.heap.size A xs ∧ n ≤ c ∧ c ≤ 9223372036854775807 := by
  have hl : xs.length = n := by simpa using h.1
  rcases h.2 with ⟨h1, h2⟩ | ⟨g, cap, cur, hv, hb, hg, hnc, hcm, hs, ht⟩
  · injection h1 with e1 e2 e3
    subst e3
    subst h2
    exact ⟨fun hne => absurd (List.eq_nil_of_length_eq_zero hl) hne, by omega, by omega⟩
  · injection hv with e1 e2 e3
    subst e1
    subst e3
    have hgl : g < w.heap.size := lt_of_row hg
    refine ⟨fun _ => ⟨g, 0, rfl, hgl, hgl, fun j hj => ?_⟩, hnc, by unfold maxLen at hcm; omega⟩
    rw [Nat.zero_add, h.cellAt j (by omega), List.getElem?_map, List.getElem?_eq_getElem hj]
    simp [List.getD, List.getElem?_eq_getElem hj]

theorem new_at (a : Addr) (c : Nat) (xs : List Int) (w : World) (hn : xs.length ≤ 1000) (hc : ∀ i, i < xs.length → w.cell? (a.add i) = some (.int .u8 (xs.getD i 0))) :
    Calls Try.prog 7 #[.slice (some a) xs.length c] w (Made w xs) := by
  have h1 := Lib.hid (Try.bytes_Clone_at a xs.length c xs w rfl (by omega) hc)
  clear hc
  go_enter Try.func7, Try.ntmps7
  go_wp2_with fail
  refine h1.out.mono ?_
  rintro e w1 ⟨v, rfl, hown, hne, hb⟩
  obtain ⟨A, c', rfl⟩ : ∃ A c', v = .slice A xs.length c' := by
    rcases hown.2 with ⟨h, _⟩ | ⟨g, cap, cur, hv, _⟩
    · exact absurd h hne
    · exact ⟨_, _, hv⟩
  have hs := src_own hown
  have HS := Lib.hid (And.intro hb hs)
  clear hown hne hb hs
  go_wp2_with fail
  go_ret
  exact made_of HS.out.1 hn HS.out.2.2.1 HS.out.2.2.2 HS.out.2.1

theorem new_nil (w : World) : Calls Try.prog 7 #[.slice none 0 0] w (Made w []) := by
  have h1 := Lib.hid (Try.bytes_Clone_nil 0 0 w)
  go_enter Try.func7, Try.ntmps7
  go_wp2_with fail
  refine h1.out.mono ?_
  rintro e w1 ⟨rfl, hw⟩
  have hw2 := hw.symm
  subst hw2
  go_wp2_with fail
  go_ret
  exact made_of (Below.refl _ _) (by simp) (by simp) (by omega) (fun h => absurd rfl h)

theorem num_any (r i : Nat) (l : List Int) (most : Int) (w : World) (h : Rd w r l i) (hi : i + l.length ≤ 1000) (hm : -9223372036854775808 ≤ most) (hm2 : most < 9223372036854775808)
    (hbt : ∀ x ∈ l, 0 ≤ x ∧ x < 256) :
    Calls Try.prog 14 #[.pointer (some ⟨r, 0, none⟩), .int .i64 most] w (Reads r w (two (numA l most)) (l.drop (numN l most)) (i + numN l most)) := by
  cases l with
  | nil => exact num_none r i most w h
  | cons x l =>
    cases hx : isDig x with
    | false =>
      have h1 : numA (x :: l) most = (0, 2) := by unfold numA; rw [if_neg (by simp), if_pos (by simpa using hx)]
      have h2 : numN (x :: l) most = 0 := by unfold numN; rw [if_neg (by simp), if_pos (by simpa using hx)]
      rw [h1, h2]
      exact num_no r i x l most w h hx
    | true =>
      refine num_dig r i (x :: l) most w h (by simp) (by simpa using hx) hi hm hm2 (fun j hj => ?_)
      have : (x :: l).getD j 0 ∈ x :: l := by
        simp only [List.getD, List.getElem?_eq_getElem hj, Option.getD_some]
        exact List.getElem_mem hj
      exact hbt _ this

theorem alive_any (w : World) : Calls Try.prog 6 #[] w fun e w' => e = .returned (.bool true) ∧ Below w.heap.size w w' := by
  have kc := fun (w : World) (C : Array Value) (n c : Nat) => Lib.run_convert_bytes_const (P := Try.prog) w 22 5 C n c Try.underlying22 Try.underlying5
  go_enter Try.func6, Try.ntmps6
  go_wp2_with fail
  refine (new_at ⟨w.heap.size, 0, none⟩ 2 [49, 50] _ (by simp) (fun i hi => ?_)).mono ?_
  · have hi2 : i = 0 ∨ i = 1 := by simp at hi; omega
    rcases hi2 with rfl | rfl
    all_goals
      rw [Addr.add_lit, cell_of_row _ _ _ _ _ _ (heap_alloc_new _ _)]
      rfl
  rintro e w1 ⟨r, rfl, hr, hR, hB⟩
  have hr2 : w.heap.size ≤ r := by simp at hr; omega
  have B1 := Lib.hid (show Below w.heap.size w w1 from ((Below.refl _ w).alloc (Nat.le_refl _) _).trans (hB.mono (by simp)))
  have h1 := Lib.hid (num_any r 0 [49, 50] 9 w1 hR (by simp) (by omega) (by omega) (by decide))
  have h2 := Lib.hid (fun W (h : Rd W r [49, 50] 0) => num_any r 0 [49, 50] 99 W h (by simp) (by omega) (by omega) (by decide))
  have h3 := Lib.hid (fun W (h : Rd W r [] 2) => at_any r [] 2 W h)
  have e1 : numA [49, 50] 9 = (0, 4) := by decide
  have e2 : numN [49, 50] 9 = 0 := by decide
  have e3 : numA [49, 50] 99 = (12, 0) := by decide
  have e4 : numN [49, 50] 99 = 2 := by decide
  rw [e1, e2] at h1
  rw [e3, e4] at h2
  unfold two at h1 h2
  clear hB hR hr
  go_wp2_with fail
  refine h1.out.mono ?_
  rintro e w2 ⟨rfl, hR, hO⟩
  have HR := Lib.hid (And.intro hR hO)
  clear hR hO
  go_wp2_with fail
  refine (h2.out _ HR.out.1).mono ?_
  rintro e w3 ⟨rfl, hR, hO⟩
  have HR2 := Lib.hid (And.intro hR hO)
  clear hR hO
  go_wp2_with fail
  refine (h3.out _ HR2.out.1).mono ?_
  rintro e w4 ⟨rfl, rfl⟩
  go_wp2_with fail
  go_ret
  have hb1 := B1.out
  have hb2 := (HR.out.2.trans HR2.out.2).below (n := w.heap.size) hb1.size hr2
  exact ⟨rfl, hb1.trans hb2⟩
end Go.Proofs.Ytffidpbhlfbmhaa
