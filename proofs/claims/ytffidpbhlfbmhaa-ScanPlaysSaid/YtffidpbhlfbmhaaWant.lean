/- The contract of Want: a text is read if it comes next, else the first place is told where another byte stands, or none (conditions: the reader's row lies in memory; texts of at most 1000 bytes). -/
import Derived.Test.YtffidpbhlfbmhaaRead
namespace Go.Proofs.Ytffidpbhlfbmhaa
open Go.ChangeShapes Go.WideShapes Go.RowKit
set_option linter.unusedVariables false

/-- A text's bytes, as numbers. -/
def sbytes (s : ByteArray) : List Int := s.data.toList.map fun b => (b.toNat : Int)
theorem sbytes_len (s : ByteArray) : (sbytes s).length = s.size := by simp [sbytes]
theorem sbytes_at (s : ByteArray) (k : Nat) (h : k < s.size) : (sbytes s).getD k 0 = (s[k].toNat : Int) := by
  have h2 : k < s.data.toList.length := by simpa using h
  simp [sbytes, List.getD, h]
  rfl

/-- How many bytes of two lists are the same, from the front on. -/
def mat : List Int → List Int → Nat
  | x :: xs, y :: ys => if x = y then mat xs ys + 1 else 0
  | _, _ => 0
theorem mat_eq (l bs : List Int) (k : Nat) (h : ∀ j, j < k → l.getD j 0 = bs.getD j 0) (h1 : k ≤ l.length) (h2 : k ≤ bs.length) (h3 : k = bs.length ∨ k = l.length ∨ l.getD k 0 ≠ bs.getD k 0) : mat l bs = k := by
  induction k generalizing l bs with
  | zero =>
    cases l with
    | nil => unfold mat; rfl
    | cons x xs =>
      cases bs with
      | nil => unfold mat; rfl
      | cons y ys =>
        rcases h3 with h3 | h3 | h3
        · simp at h3
        · simp at h3
        · unfold mat; rw [if_neg (by simpa using h3)]
  | succ k ih =>
    cases l with
    | nil => simp at h1
    | cons x xs =>
      cases bs with
      | nil => simp at h2
      | cons y ys =>
        have h0 : x = y := by simpa using h 0 (by omega)
        have := ih xs ys (fun j hj => by simpa using h (j + 1) (by omega)) (by simpa using h1) (by simpa using h2) (by
          rcases h3 with h3 | h3 | h3
          · exact .inl (by simpa using h3)
          · exact .inr (.inl (by simpa using h3))
          · exact .inr (.inr (by simpa using h3)))
        unfold mat
        rw [if_pos h0, this]

/-- What Want answers: the place and the fault; l: what is left, bs: the text's bytes, i: the offset. -/
def wantA (l bs : List Int) (i : Nat) : Int × Int :=
  if mat l bs = bs.length then (-1, 0) else if mat l bs = l.length then (((i + mat l bs : Nat) : Int), 12) else (((i + mat l bs : Nat) : Int), 2)
/-- How many bytes it reads. -/
def wantN (l bs : List Int) : Nat := if mat l bs = bs.length then bs.length else 0

def two (x : Int × Int) : Value := .tuple #[.int .i64 x.1, .int .i64 x.2]

theorem nil_want (s : ByteArray) (w : World) : Calls Try.prog 13 #[.pointer none, .string s] w fun e w' => e = .returned (two (0, 12)) ∧ w = w' := by
  go_enter Try.func13, Try.ntmps13
  go_wp2_with fail
  go_ret2
  exact ⟨rfl, rfl⟩

/-- What a call leaves of a reader. -/
def Reads (r : Nat) (w : World) (v : Value) (l : List Int) (i : Nat) (e : Ending) (w' : World) : Prop := e = .returned v ∧ Rd w' r l i ∧ Only r w w'

theorem want_any (r i : Nat) (l : List Int) (s : ByteArray) (w : World) (h : Rd w r l i) (hs : s.size ≤ 1000) (hi : i ≤ 1000) :
    Calls Try.prog 13 #[.pointer (some ⟨r, 0, none⟩), .string s] w (Reads r w (two (wantA l (sbytes s) i)) (l.drop (wantN l (sbytes s))) (i + wantN l (sbytes s))) := by
  have H := Lib.hid h
  obtain ⟨a, c, h1, h2, h3, h4, h5, h6⟩ := h
  have k0 : w.cell? ⟨r, 0, none⟩ = some (.slice a l.length c) := by rw [cell_of_row _ _ _ _ _ _ h1]; rfl
  have k1 : w.cell? ⟨r, 1, none⟩ = some (.int .i64 i) := by rw [cell_of_row _ _ _ _ _ _ h1]; rfl
  have H6 := Lib.hid h6
  have hsk := Lib.hid (fun W k (h : Rd W r l i) hk => skip_any r k l i W h hk)
  have hbl := Lib.hid (sbytes_len s)
  have hd : ∀ n, Rd (w.drewN n) r l i := fun n => H.out.below (below_drewN (Below.refl _ _) n)
  have HD := Lib.hid hd
  have hix0 : ∀ (W : World) (k : Nat), k < s.size → (Instr.index 9 (.string s) (.int .i64 (k : Int))).run Try.prog W = .ok (.int .u8 ((sbytes s).getD k 0)) W := fun W k hk => by
    rw [run_index_string W 9 s .i64 k Try.underlying9, dif_pos ⟨by omega, by omega⟩, sbytes_at s k hk]
    rfl
  have HX := Lib.hid hix0
  have hsz : (0 : Int) ≤ (s.size : Int) := by omega
  have hi0 : (0 : Int) ≤ (i : Int) := by omega
  clear h1 h6 hix0 hd
  go_enter Try.func13, Try.ntmps13
  go_wp2_with fail
  go_loopg [11] (s.size) (fun m s11 wx => ∃ k n : Nat, k + m = s.size ∧ s11 = .int .i64 k ∧ Aside (∀ j, j < k → j < l.length ∧ l.getD j 0 = (sbytes s).getD j 0) ∧ wx = w.drewN n)
  case atStart => exact ⟨0, 0, by omega, rfl, fun j hj => by omega, rfl⟩
  case round =>
    obtain ⟨k, n, hk, rfl, HI, rfl⟩ := hrel
    generalize gk = m at *
    have hk0 : (0 : Int) ≤ (k : Int) := by omega
    by_cases hlt : k < s.size
    · by_cases hkl : k = l.length
      · have hm : mat l (sbytes s) = k := mat_eq l _ k (fun j hj => (HI.out j hj).2) (by omega) (by rw [hbl.out]; omega) (.inr (.inl hkl))
        have hR : wantN l (sbytes s) = 0 := by unfold wantN; rw [if_neg (by rw [hm, hbl.out]; omega)]
        have hA : wantA l (sbytes s) i = (((i + k : Nat) : Int), 12) := by unfold wantA; rw [if_neg (by rw [hm, hbl.out]; omega), hm, if_pos hkl]
        have HR := Lib.hid hR
        have HA := Lib.hid hA
        have hki : (k : Int) = (l.length : Int) := by omega
        clear hR hA hm HI
        go_wp2_with fail
        go_ret2
        refine ⟨?_, ?_, (Only.refl r w).drewN n⟩
        · rw [HA.out]; unfold two; simp; omega
        · rw [HR.out]; exact HD.out n
      · have hkl2 : k < l.length := by
          rcases Nat.eq_zero_or_pos k with h0 | h0
          · omega
          · have := (HI.out (k - 1) (by omega)).1; omega
        have hne : (k : Int) ≠ (l.length : Int) := by omega
        have hklI : (k : Int) < (l.length : Int) := by omega
        obtain ⟨b, o, rfl, hb, hb2, hc⟩ := H6.out (by intro e; subst e; simp at hkl2)
        have hcell := hc k hkl2
        have hix := HX.out
        have hixk := fun W => hix W k hlt
        have HK := Lib.hid hkl2
        clear hc hix
        by_cases hxy : l.getD k 0 = (sbytes s).getD k 0
        · have HI2 := Lib.hid (show ∀ j, j < k + 1 → j < l.length ∧ l.getD j 0 = (sbytes s).getD j 0 from fun j hj => by
            by_cases e : j = k
            · subst e; exact ⟨HK.out, hxy⟩
            · exact HI.out j (by omega))
          rw [hxy] at hcell
          generalize (sbytes s).getD k 0 = y at hcell hixk
          clear hxy HI
          go_wp2_with fail
          go_quiet (fail)
          go_wp2_with fail
          go_roundg (m - 1)
          case measure => omega
          case rel => exact ⟨k + 1, _, by omega, by first | rfl | simp, HI2.out, rfl⟩
        · have hm : mat l (sbytes s) = k := mat_eq l _ k (fun j hj => (HI.out j hj).2) (by omega) (by rw [hbl.out]; omega) (.inr (.inr hxy))
          have hR : wantN l (sbytes s) = 0 := by unfold wantN; rw [if_neg (by rw [hm, hbl.out]; omega)]
          have hA : wantA l (sbytes s) i = (((i + k : Nat) : Int), 2) := by unfold wantA; rw [if_neg (by rw [hm, hbl.out]; omega), hm, if_neg (by omega)]
          have HR := Lib.hid hR
          have HA := Lib.hid hA
          clear hR hA hm HI
          generalize (sbytes s).getD k 0 = y at hixk hxy
          generalize l.getD k 0 = x at hcell hxy
          go_wp2_with fail
          go_quiet (fail)
          go_wp2_with fail
          go_ret2
          refine ⟨?_, ?_, (Only.refl r w).drewN _⟩
          · rw [HA.out]; unfold two; simp
          · rw [HR.out]; exact HD.out _
    · have hks : k = s.size := by omega
      have hkl : k ≤ l.length := by
        rcases Nat.eq_zero_or_pos k with h0 | h0
        · omega
        · have := (HI.out (k - 1) (by omega)).1; omega
      have hm : mat l (sbytes s) = k := mat_eq l _ k (fun j hj => (HI.out j hj).2) hkl (by rw [hbl.out]; omega) (.inl (by rw [hbl.out]; omega))
      have hR : wantN l (sbytes s) = s.size := by unfold wantN; rw [if_pos (by rw [hm, hbl.out]; omega), hbl.out]
      have hA : wantA l (sbytes s) i = (-1, 0) := by unfold wantA; rw [if_pos (by rw [hm, hbl.out]; omega)]
      have HR := Lib.hid hR
      have HA := Lib.hid hA
      have h2 := Lib.hid (hsk.out _ s.size (HD.out n) (by omega) (by omega))
      clear hR hA hm HI
      go_wp2_with fail
      refine h2.out.mono ?_
      rintro e w' ⟨rfl, hR, hO⟩
      have HO := Lib.hid (And.intro hR hO)
      clear hR hO
      go_wp2_with fail
      go_ret2
      refine ⟨?_, ?_, ((Only.refl r w).drewN _).trans HO.out.2⟩
      · rw [HA.out]; unfold two; simp
      · rw [HR.out]; exact HO.out.1
end Go.Proofs.Ytffidpbhlfbmhaa
