/- Lists of bytes where they lie: an argument's, a row of the call's own, what a slice leaves of them, and their text (conditions: the cells hold the bytes). -/
import Derived.Test.YtacdpndkcboafaaPutGo
import Derived.Laws.BytesArg
import Derived.Laws.BytesString
import Derived.Deep.Slices
import Derived.ChangeSlices
namespace Go.Proofs.Ytacdpndkcboafaa
open Go.ChangeShapes Go.WideShapes Go.RowKit
set_option linter.unusedVariables false

theorem lt_of_row {w : World} {b : Nat} {o : Obj} (h : w.heap[b]? = some o) : b < w.heap.size := by
  rcases Nat.lt_or_ge b w.heap.size with h1 | h1
  · exact h1
  · simp [Array.getElem?_eq_none h1] at h

/-- The bytes l lie where a slice's address says, in a row below B. -/
def Src (w : World) (B : Nat) (a : Option Addr) (l : List Int) : Prop := l ≠ [] → ∃ b o, a = some ⟨b, o, none⟩ ∧ b < B ∧ b < w.heap.size ∧ ∀ j, j < l.length → w.cell? ⟨b, o + j, none⟩ = some (.int .u8 (l.getD j 0))

theorem Src.below {w w' : World} {a : Option Addr} {l : List Int} {B : Nat} (h : Src w B a l) (hb : Below B w w') : Src w' B a l := fun hl => by
  obtain ⟨b, o, h1, h2, h3, h4⟩ := h hl
  exact ⟨b, o, h1, h2, by have := hb.size; omega, fun j hj => (hb.cell (p := ⟨b, o + j, none⟩) h2).trans (h4 j hj)⟩
theorem Src.mono {w : World} {B B' : Nat} {a : Option Addr} {l : List Int} (h : Src w B a l) (hB : B ≤ B') : Src w B' a l := fun hl => by
  obtain ⟨b, o, h1, h2, h3, h4⟩ := h hl
  exact ⟨b, o, h1, by omega, h3, h4⟩
theorem Src.nil (w : World) (B : Nat) (a : Option Addr) : Src w B a [] := fun h => absurd rfl h
theorem Src.take {w : World} {B : Nat} {a : Option Addr} {l : List Int} (h : Src w B a l) (k : Nat) : Src w B a (l.take k) := fun hn => by
  obtain ⟨b, o, h1, h2, h3, h4⟩ := h (by rintro rfl; simp at hn)
  refine ⟨b, o, h1, h2, h3, fun j hj => ?_⟩
  have hj2 : j < l.length ∧ j < k := by simp at hj; omega
  rw [h4 j hj2.1]
  simp [List.getD, hj2.2]

theorem src_own {w : World} {base n c : Nat} {A : Option Addr} {xs : List Int} (h : w.ownsRow base 5 1 (.slice A n c) n (xs.map (Value.int .u8))) : Src w w.heap.size A xs ∧ n ≤ c ∧ c ≤ 9223372036854775807 := by
  have hl : xs.length = n := by simpa using h.1
  rcases h.2 with ⟨h1, h2⟩ | ⟨g, cap, cur, hv, hb, hg, hnc, hcm, hs, ht⟩
  · injection h1 with e1 e2 e3
    subst e3
    subst h2
    exact ⟨fun hne => absurd (List.eq_nil_of_length_eq_zero hl) hne, by omega, by omega⟩
  · injection hv with e1 e2 e3
    subst e1
    subst e3
    have hgl : g < w.heap.size := lt_of_row hg
    refine ⟨fun _ => ⟨g, 0, rfl, hgl, hgl, fun j hj => ?_⟩, hnc, by unfold maxLen at hcm; omega⟩
    rw [Nat.zero_add, h.cellAt j (by omega), List.getElem?_map, List.getElem?_eq_getElem hj]
    simp [List.getD, List.getElem?_eq_getElem hj]

theorem size_u8 (w : World) : (Go.sizeOf 5).run Try.prog w = .ok 1 w := by kernel_rfl
theorem cells_u8 : Try.prog.cellsOf 5 = 1 := by kernel_rfl

/-- Where 'b[k:]' begins. -/
def taddr (a : Option Addr) (c k : Nat) : Option Addr := if c = k then a else a.map (·.add k)

theorem run_tail (w : World) (a : Option Addr) (n c k : Nat) (hk : k ≤ n) : (Instr.slice 22 (.slice a n c) (some (.int .i64 (k : Int))) none none).run Try.prog w = .ok (.slice (taddr a c k) (n - k) (c - k)) w := by
  have ht' : Try.prog.underlying 22 = some (.slice (Try.prog.elem 22)) := by kernel_rfl
  have he : Try.prog.elem 22 = 5 := by kernel_rfl
  rw [run_slice_l w 22 a n c ht' .i64 _ (by omega) (by omega), he, size_u8]
  simp [Result.andThen, sliced, taddr]

theorem Src.tail {w : World} {B c : Nat} {a : Option Addr} {l : List Int} (h : Src w B a l) (hc : l.length ≤ c) (k : Nat) : Src w B (taddr a c k) (l.drop k) := fun hne => by
  have hkl : k < l.length := by
    rcases Nat.lt_or_ge k l.length with h | h
    · exact h
    · exact absurd (List.drop_eq_nil_of_le h) hne
  obtain ⟨b, o, rfl, hb, hb2, hcell⟩ := h (by intro e; subst e; simp at hkl)
  refine ⟨b, o + k, ?_, hb, hb2, fun j hj => ?_⟩
  · unfold taddr; rw [if_neg (by omega)]; simp [Addr.add_lit]
  · rw [List.length_drop] at hj
    have := hcell (k + j) (by omega)
    rw [Nat.add_assoc, this]
    simp [List.getD]

/-- No byte is no text, wherever it lies. -/
theorem conv_zero (w : World) (p : Option Addr) (c : Nat) : (convert 22 9 (.slice p 0 c)).run Try.prog w = .ok (.string (strOfNums [])) w := by
  rw [run_convert_bytes_string w 22 9 5 _ 0 c Try.underlying22 Try.underlying5 Try.underlying9]
  cases p <;> simp [Conv.bytesToString, loadCells]
  all_goals rfl

/-- A text of a slice's bytes. -/
theorem conv_src {w : World} {B c : Nat} {a : Option Addr} {l : List Int} (h : Src w B a l) : (convert 22 9 (.slice a l.length c)).run Try.prog w = .ok (.string (strOfNums l)) w := by
  by_cases h0 : l = []
  · subst h0
    exact conv_zero w a c
  · obtain ⟨b, o, rfl, _, _, hc⟩ := h h0
    exact run_convert_bytes_arg w 22 5 Try.underlying22 Try.underlying5 b o l.length c l rfl hc 9 Try.underlying9

/-- The bytes xs as an argument. -/
def Bytes (w : World) (a : Option Addr) (c : Nat) (xs : List Int) : Prop := (a = none ∧ xs = [] ∧ c = 0) ∨ ∃ ad, a = some ad ∧ xs.length ≤ c ∧ c ≤ 9223372036854775807 ∧ ∀ i, i < xs.length → w.cell? (ad.add i) = some (.int .u8 (xs.getD i 0))

theorem Bytes.src {w : World} {a : Option Addr} {c : Nat} {xs : List Int} (h : Bytes w a c xs) : Src w w.heap.size a xs ∧ xs.length ≤ c := by
  rcases h with ⟨rfl, rfl, rfl⟩ | ⟨ad, rfl, h1, _, hc⟩
  · exact ⟨fun h => absurd rfl h, by simp⟩
  · refine ⟨fun hne => ?_, h1⟩
    have h0 : 0 < xs.length := by cases xs with
      | nil => exact absurd rfl hne
      | cons x l => simp
    obtain ⟨b, o, spot⟩ := ad
    have g0 := hc 0 h0
    have hspot : spot = none := by simpa [Addr.add] using World.cell?_spot g0
    subst hspot
    have hb : b < w.heap.size := by
      have := World.block_lt_of_cell? w _ g0
      simpa [Addr.add] using this
    refine ⟨b, o, rfl, hb, hb, fun j hj => ?_⟩
    have := hc j hj
    rw [Addr.add_lit] at this
    exact this

theorem open_bytes {H : Type} {enc : TypeId × Value → H} {w : World} {fuel : Nat} {a : Option Addr} {n c : Nat} {x : DataW H × List MemPlace} (h : DataW.trod enc Try.prog w 0 (fun _ => true) true fuel 22 [.slice a n c] = some x) :
    ∃ xs : List Int, xs.length = n ∧ Bytes w a c xs ∧ (∀ x ∈ xs, 0 ≤ x ∧ x < 256) := by
  rcases open_ints Try.underlying22 Try.underlying5 cells_u8 h with ⟨hcs, hx⟩ | ⟨ad, len', cap', zs, hcs, _, hl, hm, hz, hx, hcell, hwz⟩
  · simp at hcs
    obtain ⟨rfl, rfl, rfl⟩ := hcs
    exact ⟨[], rfl, .inl ⟨rfl, rfl, rfl⟩, by simp⟩
  · simp at hcs
    obtain ⟨rfl, rfl, rfl⟩ := hcs
    simp only [if_true] at hz
    refine ⟨zs.take n, by rw [List.length_take]; omega, .inr ⟨ad, rfl, by rw [List.length_take]; omega, by unfold maxLen at hm; omega, fun i hi => ?_⟩, fun x hx => ?_⟩
    · rw [List.length_take] at hi
      rw [hcell i (by omega)]
      simp [List.getD, show i < n by omega]
    · have := hwz x (List.mem_of_mem_take hx)
      have e1 : IntKind.u8.min = 0 := by decide
      have e2 : IntKind.u8.max = 255 := by decide
      simp [Lit.wf] at this
      rw [e1, e2] at this
      omega
end Go.Proofs.Ytacdpndkcboafaa
