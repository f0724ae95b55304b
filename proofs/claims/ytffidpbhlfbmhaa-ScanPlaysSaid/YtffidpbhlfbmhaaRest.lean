/- The contract of Rest (another list of all that is left), and the text of a list of bytes (conditions: the reader's row lies in memory, and what is left can be read). -/
import Derived.Test.YtffidpbhlfbmhaaRefNum
import Derived.OwnWalk
import Derived.Laws.CopyOwn
import Derived.Laws.BytesArg
import Derived.Laws.BytesString
namespace Go.Proofs.Ytffidpbhlfbmhaa
open Go.ChangeShapes Go.WideShapes Go.RowKit
set_option linter.unusedVariables false

/-- No byte is no text, wherever it lies. -/
theorem conv_zero (w : World) (p : Option Addr) (c : Nat) : (convert 22 9 (.slice p 0 c)).run Try.prog w = .ok (.string (strOfNums [])) w := by
  rw [run_convert_bytes_string w 22 9 5 _ 0 c Try.underlying22 Try.underlying5 Try.underlying9]
  cases p <;> simp [Conv.bytesToString, loadCells]
  all_goals rfl

/-- A text of a slice's bytes. -/
theorem conv_src {w : World} {B c : Nat} {a : Option Addr} {l : List Int} (h : Src w B a l) : (convert 22 9 (.slice a l.length c)).run Try.prog w = .ok (.string (strOfNums l)) w := by
  by_cases h0 : l = []
  · subst h0
    exact conv_zero w a c
  · obtain ⟨b, o, rfl, _, _, hc⟩ := h h0
    exact run_convert_bytes_arg w 22 5 Try.underlying22 Try.underlying5 b o l.length c l rfl hc 9 Try.underlying9

theorem Src.tail {w : World} {B c : Nat} {a : Option Addr} {l : List Int} (h : Src w B a l) (hc : l.length ≤ c) (k : Nat) : Src w B (taddr a c k) (l.drop k) := fun hne => by
  have hkl : k < l.length := by
    rcases Nat.lt_or_ge k l.length with h | h
    · exact h
    · exact absurd (List.drop_eq_nil_of_le h) hne
  obtain ⟨b, o, rfl, hb, hb2, hcell⟩ := h (by intro e; subst e; simp at hkl)
  refine ⟨b, o + k, ?_, hb, hb2, fun j hj => ?_⟩
  · unfold taddr; rw [if_neg (by omega)]; simp [Addr.add_lit]
  · rw [List.length_drop] at hj
    have := hcell (k + j) (by omega)
    rw [Nat.add_assoc, this]
    simp [List.getD]

theorem Bytes.src {w : World} {a : Option Addr} {c : Nat} {xs : List Int} (h : Bytes w a c xs) : Src w w.heap.size a xs ∧ xs.length ≤ c := by
  rcases h with ⟨rfl, rfl, rfl⟩ | ⟨ad, rfl, h1, _, hc⟩
  · exact ⟨fun h => absurd rfl h, by simp⟩
  · refine ⟨fun hne => ?_, h1⟩
    have h0 : 0 < xs.length := by cases xs with
      | nil => exact absurd rfl hne
      | cons x l => simp
    obtain ⟨b, o, spot⟩ := ad
    have g0 := hc 0 h0
    have hspot : spot = none := by simpa [Addr.add] using World.cell?_spot g0
    subst hspot
    have hb : b < w.heap.size := by
      have := World.block_lt_of_cell? w _ g0
      simpa [Addr.add] using this
    refine ⟨b, o, rfl, hb, hb, fun j hj => ?_⟩
    have := hc j hj
    rw [Addr.add_lit] at this
    exact this

theorem info_u8 : (Try.prog.info? 5).map (fun i => (i.zero, i.size, i.bytes)) = some (some (.int .u8 0), 1, 1) := by kernel_rfl

/-- What Rest leaves. -/
def Copied (w : World) (l : List Int) (e : Ending) (w' : World) : Prop := ∃ a c, e = .returned (.slice a l.length c) ∧ Src w' w'.heap.size a l ∧ Below w.heap.size w w'

theorem rest_any (r i : Nat) (l : List Int) (w : World) (h : Rd w r l i) : Calls Try.prog 11 #[.pointer (some ⟨r, 0, none⟩)] w (Copied w l) := by
  have h1 := Lib.hid (left_any r l i w h)
  by_cases hz : l = []
  · subst hz
    go_enter Try.func11, Try.ntmps11
    go_wp2_with (first | (go_at_call 10; refine (h1.out).mono ?_; rintro e w' ⟨rfl, rfl⟩; simp only [List.length_nil]))
    go_ret
    exact ⟨none, 0, rfl, fun h => absurd rfl h, Below.refl _ _⟩
  · have h0 : 0 < l.length := by cases l with
      | nil => exact absurd rfl hz
      | cons x l => simp
    obtain ⟨a, c, hr, h2, h3, h4, h5, h6⟩ := h
    have k0 : w.cell? ⟨r, 0, none⟩ = some (.slice a l.length c) := by rw [cell_of_row _ _ _ _ _ _ hr]; rfl
    obtain ⟨b, o, rfl, hb, hb2, hc⟩ := h6 hz
    have HR := Lib.hid hr
    have HC := Lib.hid hc
    have hl0 : (l.length : Int) ≠ 0 := by omega
    obtain ⟨i0, hi, hz0, hz1, hz2⟩ := info_parts info_u8
    have hsz : (Try.prog.info? 5).map (·.size) = some 1 := by kernel_rfl
    clear hr h6 hc
    go_enter Try.func11, Try.ntmps11
    go_wp2_with (first
      | (go_at_call 10; refine (h1.out).mono ?_; rintro e w' ⟨rfl, rfl⟩)
      | (at_make; refine wpList_make_full _ rfl _ _ 22 rfl w.heap.size 5 i0 (.int .u8 0) 1 Try.underlying22 hi hz0 hz1 .i64 .i64 _ _ l.length rfl rfl rfl rfl (by rw [hz2]; omega) (by unfold maxLen; omega) (Nat.le_refl _) ?_))
    intro w1 hown hgrow
    have hb1 : Below w.heap.size w w1 := (Below.refl _ w).grown hgrow (Nat.le_refl _) (by intro k hk; cases hk)
    obtain ⟨cur, hcur, hcs⟩ : ∃ cur, w1.heap[w.heap.size]? = some (.cells cur 5 (0, 0)) ∧ cur.size = l.length := by
      rcases hown.2 with ⟨hh, _⟩ | ⟨g, cap, cur, hv, _, hg, _, _, hs, _⟩
      · cases hh
      · injection hv with e1 e2 e3
        injection e1 with e1
        injection e1 with e1 e4 e5
        subst e1
        exact ⟨cur, hg, by omega⟩
    have k1 : w1.cell? ⟨r, 0, none⟩ = some (.slice (some ⟨b, o, none⟩) l.length c) := (hb1.cell (p := ⟨r, 0, none⟩) (lt_of_row HR.out)).trans k0
    have HB := Lib.hid hb1
    have HW := Lib.hid hcur
    have HS : Hid (∀ j v, (l.map (Value.int .u8))[j]? = some v → w1.cell? ((⟨b, o, none⟩ : Addr).add j) = some v) := Lib.hid (fun j v hv => by
      obtain ⟨x, hx, rfl⟩ : ∃ x, l[j]? = some x ∧ Value.int .u8 x = v := by simpa using hv
      have hj := (List.getElem?_eq_some_iff.1 hx).1
      rw [Addr.add_lit, hb1.cell (p := ⟨b, o + j, none⟩) hb2, HC.out j hj]
      simp [List.getD, hx])
    clear hown hgrow hb1 hcur k0
    have HQ : Hid (∀ v ∈ l.map (Value.int .u8), v.oneCell' = true) := Lib.hid (fun v hv => by
      obtain ⟨x, _, rfl⟩ := List.mem_map.1 hv
      rfl)
    have hfit : 0 + (l.map (Value.int .u8)).length ≤ cur.size := by simp [hcs]
    have HFit := Lib.hid hfit
    clear hfit
    have HFIN : Hid (∀ w2 : World, w2.heap[w.heap.size]? = some (.cells (cur.toList.take 0 ++ (l.map (Value.int .u8) ++ cur.toList.drop (0 + (l.map (Value.int .u8)).length))).toArray 5 (0, 0)) → Below w.heap.size w w2 →
        Copied w l (.returned (.slice (some ⟨w.heap.size, 0, none⟩) l.length l.length)) w2) := Lib.hid (fun w2 hrow hbz => by
      refine ⟨_, _, rfl, fun _ => ⟨w.heap.size, 0, rfl, lt_of_row hrow, lt_of_row hrow, fun j hj => ?_⟩, hbz⟩
      rw [cell_of_row _ _ _ _ _ _ hrow, Nat.zero_add, List.take_zero, List.nil_append, List.getElem?_toArray, List.getElem?_append_left (by simpa using hj)]
      simp [List.getD, hj])
    have HROW := Lib.hid (setRow_heap w1 w.heap.size cur (cur.toList.take 0 ++ (l.map (Value.int .u8) ++ cur.toList.drop (0 + (l.map (Value.int .u8)).length))).toArray 5 (0, 0) HW.out)
    have HBZ : Hid (Below w.heap.size w (w1.setRow w.heap.size (cur.toList.take 0 ++ (l.map (Value.int .u8) ++ cur.toList.drop (0 + (l.map (Value.int .u8)).length))).toArray)) := Lib.hid (below_setRow HB.out (Nat.le_refl _) _)
    go_wp2_with (refine wpList_copy_own (o := ⟨some 18, _, _, _, _, none⟩) rfl _ _ 22 22 rfl 5 Try.underlying22 hsz w.heap.size 0 l.length l.length ⟨b, o, none⟩ l.length c rfl rfl cur 5 HW.out (l.map (Value.int .u8)) (by simp) HS.out HFit.out HQ.out ?_;
                 (have HZ := Lib.hid (HFIN.out _ HROW.out HBZ.out));
                 (generalize w1.setRow w.heap.size (cur.toList.take 0 ++ (l.map (Value.int .u8) ++ cur.toList.drop (0 + (l.map (Value.int .u8)).length))).toArray = w2 at HZ ⊢))
    go_ret
    exact HZ.out
end Go.Proofs.Ytffidpbhlfbmhaa
