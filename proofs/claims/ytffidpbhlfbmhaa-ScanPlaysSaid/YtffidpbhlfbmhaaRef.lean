/- The document's own reader of layer 3 by contracts: Byte and Want answer what the program's answer (conditions: the reader's row lies in memory, and its bytes can be read; texts of at most 1000 bytes). -/
import Derived.Test.YtffidpbhlfbmhaaActs
namespace Go.Proofs.Ytffidpbhlfbmhaa
open Go.ChangeShapes Go.WideShapes Go.RowKit
set_option linter.unusedVariables false

/-- The document's reader: of xs, at i; the bytes lie below B. -/
def Rf (w : World) (x B : Nat) (xs : List Int) (i : Nat) : Prop :=
  ∃ a c, w.heap[x]? = some (.cells #[.slice a xs.length c, .int .i64 i] 29 (0, 0)) ∧ xs.length ≤ 200 ∧ i ≤ xs.length ∧ Src w B a xs

theorem Rf.only {w w' : World} {x B r : Nat} {xs : List Int} {i : Nat} (h : Rf w x B xs i) (hw : Only r w w') (hx : x ≠ r) (hB : B ≤ r) : Rf w' x B xs i := by
  obtain ⟨a, c, h1, h2, h3, h4⟩ := h
  exact ⟨a, c, (hw.block x (lt_of_row h1) hx).trans h1, h2, h3, h4.keep hw.block hw.size hB⟩
theorem Rf.below {w w' : World} {x B : Nat} {xs : List Int} {i : Nat} (h : Rf w x B xs i) (hw : Below w.heap.size w w') (hB : B ≤ w.heap.size) : Rf w' x B xs i := by
  obtain ⟨a, c, h1, h2, h3, h4⟩ := h
  exact ⟨a, c, (hw.block x (lt_of_row h1)).trans h1, h2, h3, h4.keep (r := w.heap.size) (fun k hk _ => hw.block k hk) hw.size hB⟩
theorem Rf.lt {w : World} {x B : Nat} {xs : List Int} {i : Nat} (h : Rf w x B xs i) : x < w.heap.size := by
  obtain ⟨a, c, h1, _⟩ := h
  exact lt_of_row h1
theorem Rf.drewN {w : World} {x B : Nat} {xs : List Int} {i : Nat} (h : Rf w x B xs i) (hB : B ≤ x) (n : Nat) : Rf (w.drewN n) x B xs i :=
  h.below (below_drewN (Below.refl _ _) n) (by have := h.lt; omega)
theorem Rf.put {w : World} {x B : Nat} {xs : List Int} {i : Nat} (h : Rf w x B xs i) (hB : B ≤ x) (i' : Nat) (hi : i' ≤ xs.length) : Rf (w.setCell ⟨x, 1, none⟩ (.int .i64 i')) x B xs i' := by
  obtain ⟨a, c, h1, h2, h3, h4⟩ := h
  exact ⟨a, c, heap_setCell_same w x 1 _ _ _ h1, h2, hi, h4.only ((Only.refl x w).setCell 1 _) hB⟩
theorem Rf.cells {w : World} {x B : Nat} {xs : List Int} {i : Nat} (h : Rf w x B xs i) : ∃ a c, w.cell? ⟨x, 0, none⟩ = some (.slice a xs.length c) ∧ w.cell? ⟨x, 1, none⟩ = some (.int .i64 i) ∧ w.frozen? ⟨x, 1, none⟩ = false := by
  obtain ⟨a, c, h1, h2, h3, h4⟩ := h
  exact ⟨a, c, by rw [cell_of_row _ _ _ _ _ _ h1]; rfl, by rw [cell_of_row _ _ _ _ _ _ h1]; rfl, frozen_of_row _ _ _ _ _ h1⟩
theorem Rf.full {w : World} {x B : Nat} {xs : List Int} {i : Nat} (h : Rf w x B xs i) (h0 : 0 < xs.length) : ∃ b o c, w.cell? ⟨x, 0, none⟩ = some (.slice (some ⟨b, o, none⟩) xs.length c) ∧ w.cell? ⟨x, 1, none⟩ = some (.int .i64 i) ∧ w.frozen? ⟨x, 1, none⟩ = false ∧
    ∀ j, j < xs.length → w.cell? ⟨b, o + j, none⟩ = some (.int .u8 (xs.getD j 0)) := by
  obtain ⟨a, c, h1, h2, h3, h4⟩ := h
  obtain ⟨b, o, rfl, _, _, hc⟩ := h4 (by intro e; subst e; simp at h0)
  exact ⟨b, o, c, by rw [cell_of_row _ _ _ _ _ _ h1]; rfl, by rw [cell_of_row _ _ _ _ _ _ h1]; rfl, frozen_of_row _ _ _ _ _ h1, hc⟩

/-- What a call leaves of the document's reader. -/
def RReads (x B : Nat) (w : World) (v : Value) (xs : List Int) (i : Nat) (e : Ending) (w' : World) : Prop := e = .returned v ∧ Rf w' x B xs i ∧ Only x w w'

/-- Byte's fault, of whether there is one. -/
def byteF (b : Bool) : Int := if b then 0 else 12

theorem rbyte_any (x B i : Nat) (xs : List Int) (w : World) (h : Rf w x B xs i) (hB : B ≤ x) :
    Calls Try.prog 17 #[.pointer (some ⟨x, 0, none⟩)] w (RReads x B w (.tuple #[.int .u8 (byteV (xs.drop i)), .int .i64 (byteF (byteB (xs.drop i)))]) xs (i + byteN (xs.drop i))) := by
  have H := Lib.hid h
  obtain ⟨_, _, _, hn200, hin, _⟩ := h
  by_cases hi : i < xs.length
  · obtain ⟨b, o, c, k0, k1, f1, hc⟩ := H.out.full (by omega)
    have hcell := hc i hi
    obtain ⟨y, hy⟩ : ∃ y, xs.getD i 0 = y := ⟨_, rfl⟩
    have hd : xs.drop i = y :: xs.drop (i + 1) := by
      rw [← hy, List.drop_eq_getElem_cons hi]; simp [List.getD, List.getElem?_eq_getElem hi]
    rw [hy] at hcell
    rw [hd]
    simp only [byteV, byteB, byteN, byteF]
    have hiI : (i : Int) < (xs.length : Int) := by omega
    have hiI0 : (0 : Int) ≤ (i : Int) := by omega
    have hiI1 : (i : Int) ≤ 200 := by omega
    have hnI : (xs.length : Int) ≤ 200 := by omega
    clear hc hcell hd
    go_enter Try.func17, Try.ntmps17
    go_wp2_with fail
    go_quiet (fail)
    have HW := H.out.drewN hB nq
    have HO := Lib.hid ((Only.refl x w).drewN nq)
    generalize w.drewN nq = w1 at HW HO ⊢
    have hI1 : ((i + 1 : Nat) : Int) = (i : Int) + 1 := by omega
    have H2 := HW.put hB (i + 1) (by omega)
    have HO2 := HO.out.setCell 1 (.int .i64 ((i + 1 : Nat) : Int))
    rw [hI1] at H2 HO2
    have HP := Lib.hid (And.intro H2 HO2)
    obtain ⟨b1, o1, d1, k10, k11, f11, _⟩ := HW.full (by omega)
    clear k0 k1 f1 HW H2 HO2 hI1
    go_wp2_with fail
    have HP2 := HP.out
    clear k10 k11 f11 HP
    generalize w1.setCell ⟨x, 1, none⟩ (.int .i64 ((i : Int) + 1)) = w2 at HP2 ⊢
    obtain ⟨H2, HO2⟩ := HP2
    obtain ⟨b2, o2, d2, k20, k21, f21, hc2⟩ := H2.full (by omega)
    have hcell2 := hc2 i hi
    rw [hy] at hcell2
    have HP := Lib.hid (And.intro H2 HO2)
    have hI1 : ((i + 1 : Nat) : Int) = (i : Int) + 1 := by omega
    rw [hI1] at k21
    clear hc2 H2 HO2 HO hI1
    go_quiet (fail)
    go_wp2_with fail
    go_ret2
    exact ⟨rfl, HP.out.1.drewN hB _, HP.out.2.drewN _⟩
  · have hin2 : i = xs.length := by omega
    have hd : xs.drop i = [] := List.drop_eq_nil_of_le (by omega)
    rw [hd]
    simp only [byteV, byteB, byteN, byteF]
    obtain ⟨a, c, k0, k1, f1⟩ := H.out.cells
    have hiI : (i : Int) = (xs.length : Int) := by omega
    clear hd hi hin hin2
    go_enter Try.func17, Try.ntmps17
    go_wp2_with fail
    go_quiet (fail)
    go_wp2_with fail
    go_ret2
    exact ⟨rfl, H.out.drewN hB _, (Only.refl _ _).drewN _⟩
end Go.Proofs.Ytffidpbhlfbmhaa
