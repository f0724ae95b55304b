/- Package scan's reader by contracts: what each method answers of what is left, and where the reader stands behind it (conditions: the reader's row lies in memory, and what is left can be read). -/
import Derived.Test.YtffidpbhlfbmhaaRows
import Derived.WalkKit
import Derived.ProofKit
import Derived.OpenShut
import Derived.Below
import Derived.WalkLawsBesides
import Derived.Lib.Hide
import Derived.Lib.OwnBridge
import Derived.Outline
import Derived.Deep.LoopGhost
import Derived.Deep.QuietTactic
import Derived.BigQuiet
import Derived.Laws.Rows
import Derived.RegionTactic
namespace Go.Proofs.Ytffidpbhlfbmhaa
open Go.ChangeShapes Go.WideShapes Go.RowKit
set_option linter.unusedVariables false

theorem lt_of_row {w : World} {b : Nat} {o : Obj} (h : w.heap[b]? = some o) : b < w.heap.size := by
  rcases Nat.lt_or_ge b w.heap.size with h1 | h1
  · exact h1
  · simp [Array.getElem?_eq_none h1] at h

/-- What a call leaves that may have changed the row r, and made new ones. -/
structure Only (r : Nat) (w w' : World) : Prop where
  os : w'.os = w.os
  tape : w'.tape = w.tape
  output : w'.output = w.output
  size : w.heap.size ≤ w'.heap.size
  block : ∀ k, k < w.heap.size → k ≠ r → w'.heap[k]? = w.heap[k]?

theorem Only.refl (r : Nat) (w : World) : Only r w w := ⟨rfl, rfl, rfl, Nat.le_refl _, fun _ _ _ => rfl⟩
theorem Only.trans {r : Nat} {a b c : World} (h : Only r a b) (k : Only r b c) : Only r a c :=
  ⟨k.os.trans h.os, k.tape.trans h.tape, k.output.trans h.output, Nat.le_trans h.size k.size, fun i hi hn => (k.block i (by have := h.size; omega) hn).trans (h.block i hi hn)⟩
theorem Only.of_below {r : Nat} {w w' : World} (h : Below w.heap.size w w') : Only r w w' := ⟨h.os, h.tape, h.output, h.size, fun k hk _ => h.block k hk⟩
theorem Only.drew {r : Nat} {a w : World} (h : Only r a w) : Only r a w.drew := ⟨h.os, h.tape, h.output, h.size, h.block⟩
theorem Only.drewN {r : Nat} {a w : World} (h : Only r a w) (n : Nat) : Only r a (w.drewN n) := h.trans (Only.of_below (below_drewN (Below.refl _ _) n))
theorem Only.setCell {r : Nat} {a w : World} (h : Only r a w) (j : Nat) (v : Value) : Only r a (w.setCell ⟨r, j, none⟩ v) :=
  ⟨h.os, h.tape, h.output, by simpa using h.size, fun k hk hn => by rw [heap_setCell_other _ _ _ _ (by simpa using hn)]; exact h.block k hk hn⟩
theorem Only.below {r n : Nat} {w w' : World} (h : Only r w w') (hn : n ≤ w.heap.size) (hr : n ≤ r) : Below n w w' := ⟨h.os, h.tape, h.output, h.size, fun k hk => h.block k (by omega) (by omega)⟩

/-- The bytes l lie where a slice's address says, in a row below B. -/
def Src (w : World) (B : Nat) (a : Option Addr) (l : List Int) : Prop := l ≠ [] → ∃ b o, a = some ⟨b, o, none⟩ ∧ b < B ∧ b < w.heap.size ∧ ∀ j, j < l.length → w.cell? ⟨b, o + j, none⟩ = some (.int .u8 (l.getD j 0))

theorem Src.keep {w w' : World} {B r : Nat} {a : Option Addr} {l : List Int} (h : Src w B a l) (hw : ∀ k, k < w.heap.size → k ≠ r → w'.heap[k]? = w.heap[k]?) (hs : w.heap.size ≤ w'.heap.size) (hB : B ≤ r) : Src w' B a l := fun hl => by
  obtain ⟨b, o, h1, h2, h3, h4⟩ := h hl
  exact ⟨b, o, h1, h2, by omega, fun j hj => (World.cell?_of_block (w := w) (hw b h3 (by omega))).trans (h4 j hj)⟩
theorem Src.only {w w' : World} {B r : Nat} {a : Option Addr} {l : List Int} (h : Src w B a l) (hw : Only r w w') (hB : B ≤ r) : Src w' B a l := h.keep hw.block hw.size hB
theorem Src.mono {w : World} {B B' : Nat} {a : Option Addr} {l : List Int} (h : Src w B a l) (hB : B ≤ B') : Src w B' a l := fun hl => by
  obtain ⟨b, o, h1, h2, h3, h4⟩ := h hl
  exact ⟨b, o, h1, by omega, h3, h4⟩

/-- A reader: what is left, and the offset. -/
def Rd (w : World) (r : Nat) (l : List Int) (i : Nat) : Prop :=
  ∃ a c, w.heap[r]? = some (.cells #[.slice a l.length c, .int .i64 i] 45 (0, 0)) ∧ l.length ≤ c ∧ c ≤ 9223372036854775807 ∧ i ≤ 1000000 ∧ l.length ≤ 1000000 ∧ Src w r a l

theorem Rd.only {w w' : World} {r x : Nat} {l : List Int} {i : Nat} (h : Rd w r l i) (hw : Only x w w') (hx : r < x) : Rd w' r l i := by
  obtain ⟨a, c, h1, h2, h3, h4, h5, h6⟩ := h
  exact ⟨a, c, (hw.block r (lt_of_row h1) (by omega)).trans h1, h2, h3, h4, h5, h6.keep hw.block hw.size (by omega)⟩
theorem Rd.below {w w' : World} {r : Nat} {l : List Int} {i : Nat} (h : Rd w r l i) (hw : Below w.heap.size w w') : Rd w' r l i := by
  obtain ⟨a, c, h1, h2, h3, h4, h5, h6⟩ := h
  exact ⟨a, c, (hw.block r (lt_of_row h1)).trans h1, h2, h3, h4, h5, h6.keep (fun k hk _ => hw.block k hk) hw.size (Nat.le_refl _)⟩

theorem nil_left (w : World) : Calls Try.prog 10 #[.pointer none] w fun e w' => e = .returned (.int .i64 0) ∧ w = w' := by
  go_enter Try.func10, Try.ntmps10
  go_wp2
  go_ret
  exact ⟨rfl, rfl⟩

theorem left_any (r : Nat) (l : List Int) (i : Nat) (w : World) (h : Rd w r l i) : Calls Try.prog 10 #[.pointer (some ⟨r, 0, none⟩)] w fun e w' => e = .returned (.int .i64 l.length) ∧ w = w' := by
  obtain ⟨a, c, h1, h2, h3, h4, h5, h6⟩ := h
  have k0 : w.cell? ⟨r, 0, none⟩ = some (.slice a l.length c) := by rw [cell_of_row _ _ _ _ _ _ h1]; rfl
  clear h1 h6
  go_enter Try.func10, Try.ntmps10
  go_wp2
  go_ret
  exact ⟨rfl, rfl⟩

theorem nil_at (w : World) : Calls Try.prog 9 #[.pointer none] w fun e w' => e = .returned (.int .i64 0) ∧ w = w' := by
  go_enter Try.func9, Try.ntmps9
  go_wp2
  go_ret
  exact ⟨rfl, rfl⟩

theorem at_any (r : Nat) (l : List Int) (i : Nat) (w : World) (h : Rd w r l i) : Calls Try.prog 9 #[.pointer (some ⟨r, 0, none⟩)] w fun e w' => e = .returned (.int .i64 i) ∧ w = w' := by
  obtain ⟨a, c, h1, h2, h3, h4, h5, h6⟩ := h
  have k0 : w.cell? ⟨r, 1, none⟩ = some (.int .i64 i) := by rw [cell_of_row _ _ _ _ _ _ h1]; rfl
  clear h1 h6
  go_enter Try.func9, Try.ntmps9
  go_wp2
  go_ret
  exact ⟨rfl, rfl⟩

theorem cells_u8 : Try.prog.cellsOf 5 = 1 := by kernel_rfl
theorem size_u8 (w : World) : (Go.sizeOf 5).run Try.prog w = .ok 1 w := by kernel_rfl

/-- Where 'r.left[k:]' begins. -/
def taddr (a : Option Addr) (c k : Nat) : Option Addr := if c = k then a else a.map (·.add k)

theorem run_tail (w : World) (a : Option Addr) (n c k : Nat) (hk : k ≤ n) : (Instr.slice 22 (.slice a n c) (some (.int .i64 (k : Int))) none none).run Try.prog w = .ok (.slice (taddr a c k) (n - k) (c - k)) w := by
  have ht' : Try.prog.underlying 22 = some (.slice (Try.prog.elem 22)) := by kernel_rfl
  have he : Try.prog.elem 22 = 5 := by kernel_rfl
  rw [run_slice_l w 22 a n c ht' .i64 _ (by omega) (by omega), he, size_u8]
  simp [Result.andThen, sliced, taddr]

/-- What 'skip' leaves. -/
theorem skip_any (r k : Nat) (l : List Int) (i : Nat) (w : World) (h : Rd w r l i) (hk : k ≤ l.length) (hi : i + k ≤ 1000000) : Calls Try.prog 20 #[.pointer (some ⟨r, 0, none⟩), .int .i64 k] w fun e w' => e = .returned (.tuple #[]) ∧ Rd w' r (l.drop k) (i + k) ∧ Only r w w' := by
  obtain ⟨a, c, h1, h2, h3, h4, h5, h6⟩ := h
  have k0 : w.cell? ⟨r, 0, none⟩ = some (.slice a l.length c) := by rw [cell_of_row _ _ _ _ _ _ h1]; rfl
  have f0 : w.frozen? ⟨r, 0, none⟩ = false := frozen_of_row _ _ _ _ _ h1
  have rt := fun W : World => run_tail W a l.length c k hk
  have row1 := heap_setCell_same w r 0 _ _ (.slice (taddr a c k) (l.length - k) (c - k)) h1
  have k1 : (w.setCell ⟨r, 0, none⟩ (.slice (taddr a c k) (l.length - k) (c - k))).cell? ⟨r, 1, none⟩ = some (.int .i64 i) := by rw [cell_of_row _ _ _ _ _ _ row1]; rfl
  have f1 : (w.setCell ⟨r, 0, none⟩ (.slice (taddr a c k) (l.length - k) (c - k))).frozen? ⟨r, 1, none⟩ = false := frozen_of_row _ _ _ _ _ row1
  have row2 := heap_setCell_same _ r 1 _ _ (.int .i64 ((i + k : Nat) : Int)) row1
  have fin : Rd ((w.setCell ⟨r, 0, none⟩ (.slice (taddr a c k) (l.length - k) (c - k))).setCell ⟨r, 1, none⟩ (.int .i64 ((i + k : Nat) : Int))) r (l.drop k) (i + k) := by
    have ho : Only r w ((w.setCell ⟨r, 0, none⟩ (.slice (taddr a c k) (l.length - k) (c - k))).setCell ⟨r, 1, none⟩ (.int .i64 ((i + k : Nat) : Int))) := ((Only.refl r w).setCell 0 _).setCell 1 _
    refine ⟨taddr a c k, c - k, ?_, by rw [List.length_drop]; omega, by omega, by omega, by rw [List.length_drop]; omega, fun hne => ?_⟩
    · rw [row2, List.length_drop]; rfl
    · have hkl : k < l.length := by
        rcases Nat.lt_or_ge k l.length with h | h
        · exact h
        · exact absurd (List.drop_eq_nil_of_le h) hne
      obtain ⟨b, o, rfl, hb, hb2, hc⟩ := h6.only ho (Nat.le_refl _) (by intro e; subst e; simp at hkl)
      refine ⟨b, o + k, ?_, hb, hb2, fun j hj => ?_⟩
      · unfold taddr; rw [if_neg (by omega)]; simp [Addr.add_lit]
      · rw [List.length_drop] at hj
        have := hc (k + j) (by omega)
        rw [Nat.add_assoc, this]
        simp [List.getD]
  have FIN := Lib.hid fin
  have hi2 : ((i + k : Nat) : Int) = (i : Int) + (k : Int) := by omega
  have hio : Hid ((i : Int) + (k : Int) = ((i + k : Nat) : Int)) := Lib.hid hi2.symm
  clear row1 row2 fin h1 h6
  generalize taddr a c k = T at *
  go_enter Try.func20, Try.ntmps20
  go_wp2
  go_end0
  have e : (i : Int) + (k : Int) = ((i + k : Nat) : Int) := hio.out
  simp only [e]
  exact ⟨trivial, FIN.out, ((Only.refl r w).setCell 0 _).setCell 1 _⟩
end Go.Proofs.Ytffidpbhlfbmhaa
