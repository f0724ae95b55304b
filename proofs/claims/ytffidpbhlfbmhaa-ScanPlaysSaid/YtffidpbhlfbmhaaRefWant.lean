/- The contract of the document's own Want (conditions: the reader's row lies in memory, and its bytes can be read; texts of at most 1000 bytes). -/
import Derived.Test.YtffidpbhlfbmhaaRef
namespace Go.Proofs.Ytffidpbhlfbmhaa
open Go.ChangeShapes Go.WideShapes Go.RowKit
set_option linter.unusedVariables false

theorem drop_at (xs : List Int) (i k : Nat) : (xs.drop i).getD k 0 = xs.getD (i + k) 0 := by simp [List.getD]

set_option maxHeartbeats 1000000 in
theorem rwant_any (x B i : Nat) (xs : List Int) (s : ByteArray) (w : World) (h : Rf w x B xs i) (hB : B ≤ x) (hs : s.size ≤ 1000) :
    Calls Try.prog 18 #[.pointer (some ⟨x, 0, none⟩), .string s] w
      (RReads x B w (two ((wantA (xs.drop i) (sbytes s) i).2, (wantA (xs.drop i) (sbytes s) i).1)) xs (i + wantN (xs.drop i) (sbytes s))) := by
  have H := Lib.hid h
  have HF := Lib.hid (fun h0 => h.full h0)
  obtain ⟨a, c, k0, k1, f1⟩ := h.cells
  obtain ⟨_, _, _, hn200, hin, _⟩ := h
  have hlen : (xs.drop i).length = xs.length - i := List.length_drop
  have hda := Lib.hid (drop_at xs i)
  obtain ⟨l, hl⟩ : ∃ l, xs.drop i = l := ⟨_, rfl⟩
  rw [hl] at hlen hda ⊢
  have HL := Lib.hid (And.intro hl hlen)
  have hbl := Lib.hid (sbytes_len s)
  have hwl := Lib.hid (wantN_le l (sbytes s))
  have HX : Hid (∀ (W : World) (k : Nat), k < s.size → (Instr.index 9 (.string s) (.int .i64 (k : Int))).run Try.prog W = .ok (.int .u8 ((sbytes s).getD k 0)) W) := Lib.hid (fun W k hk => by
    rw [run_index_string W 9 s .i64 k Try.underlying9, dif_pos ⟨by omega, by omega⟩, sbytes_at s k hk]
    rfl)
  have hsz : (0 : Int) ≤ (s.size : Int) := by omega
  have hsz1 : (s.size : Int) ≤ 1000 := by omega
  have hi0 : (0 : Int) ≤ (i : Int) := by omega
  have hi1 : (i : Int) ≤ 200 := by omega
  have hx0 : (0 : Int) ≤ (xs.length : Int) := by omega
  have hx1 : (xs.length : Int) ≤ 200 := by omega
  clear hl hlen
  go_enter Try.func18, Try.ntmps18
  go_wp2_with fail
  go_loopg [6] (s.size) (fun m s6 wx => ∃ k n : Nat, k + m = s.size ∧ s6 = .int .i64 k ∧ Aside (∀ j, j < k → j < l.length ∧ l.getD j 0 = (sbytes s).getD j 0) ∧ wx = w.drewN n)
  case atStart => exact ⟨0, 0, by omega, rfl, fun j hj => by omega, rfl⟩
  case round =>
    obtain ⟨k, n, hk, rfl, HI0, rfl⟩ := hrel
    generalize gk = m at *
    have HI : Hid (∀ j, j < k → j < l.length ∧ l.getD j 0 = (sbytes s).getD j 0) := Lib.hid HI0
    clear HI0
    have hk0 : (0 : Int) ≤ (k : Int) := by omega
    have hkle : k ≤ l.length := by
      rcases Nat.eq_zero_or_pos k with h0 | h0
      · omega
      · have := (HI.out (k - 1) (by omega)).1; omega
    by_cases hlt : k < s.size
    · have hltI : (k : Int) < (s.size : Int) := by omega
      by_cases hkl : k = l.length
      · have hm : mat l (sbytes s) = k := mat_eq l _ k (fun j hj => (HI.out j hj).2) (by omega) (by rw [hbl.out]; omega) (.inr (.inl hkl))
        have HR : Hid (wantN l (sbytes s) = 0) := Lib.hid (by unfold wantN; rw [if_neg (by rw [hm, hbl.out]; omega)])
        have HA : Hid (wantA l (sbytes s) i = (((i + k : Nat) : Int), 12)) := Lib.hid (by unfold wantA; rw [if_neg (by rw [hm, hbl.out]; omega), hm, if_pos hkl])
        have hki : (xs.length : Int) ≤ (i : Int) + (k : Int) := by have := HL.out.2; omega
        clear hm hkl hkle
        go_wp2_with fail
        go_quiet (fail)
        go_wp2_with fail
        go_quiet (fail)
        go_wp2_with fail
        go_ret2
        refine ⟨?_, ?_, by repeat (first | exact Only.refl _ _ | refine Only.drewN ?_ _)⟩
        · rw [HA.out]; unfold two; simp
        · rw [HR.out]; repeat (first | exact H.out | refine Rf.drewN ?_ hB _)
      · have hkl2 : k < l.length := by omega
        have hki : (i : Int) + (k : Int) < (xs.length : Int) := by have := HL.out.2; omega
        obtain ⟨b, o, d, k0', k1', f1', hc⟩ := HF.out (by have := HL.out.2; omega)
        have hcell := hc (i + k) (by have := HL.out.2; omega)
        rw [← hda.out k] at hcell
        have hixk := fun W => HX.out W k hlt
        have HK := Lib.hid hkl2
        clear hc k0 k1 f1 hkl hkle
        by_cases hxy : l.getD k 0 = (sbytes s).getD k 0
        · have HI2 := Lib.hid (show ∀ j, j < k + 1 → j < l.length ∧ l.getD j 0 = (sbytes s).getD j 0 from fun j hj => by
            by_cases e : j = k
            · subst e; exact ⟨HK.out, hxy⟩
            · exact HI.out j (by omega))
          rw [hxy] at hcell
          generalize (sbytes s).getD k 0 = y at hcell hixk
          clear hxy hkl2
          go_wp2_with fail
          go_quiet (fail)
          go_wp2_with fail
          go_quiet (fail)
          go_wp2_with fail
          go_roundg (m - 1)
          case measure => omega
          case rel => exact ⟨k + 1, _, by omega, by first | rfl | simp, HI2.out, rfl⟩
        · have hm : mat l (sbytes s) = k := mat_eq l _ k (fun j hj => (HI.out j hj).2) (by omega) (by rw [hbl.out]; omega) (.inr (.inr hxy))
          have HR : Hid (wantN l (sbytes s) = 0) := Lib.hid (by unfold wantN; rw [if_neg (by rw [hm, hbl.out]; omega)])
          have HA : Hid (wantA l (sbytes s) i = (((i + k : Nat) : Int), 2)) := Lib.hid (by unfold wantA; rw [if_neg (by rw [hm, hbl.out]; omega), hm, if_neg (by omega)])
          generalize (sbytes s).getD k 0 = y at hixk hxy
          generalize l.getD k 0 = z at hcell hxy
          clear hm hkl2
          go_wp2_with fail
          go_quiet (fail)
          go_wp2_with fail
          go_quiet (fail)
          go_wp2_with fail
          go_quiet (fail)
          go_wp2_with fail
          go_ret2
          refine ⟨?_, ?_, by repeat (first | exact Only.refl _ _ | refine Only.drewN ?_ _)⟩
          · rw [HA.out]; unfold two; simp
          · rw [HR.out]; repeat (first | exact H.out | refine Rf.drewN ?_ hB _)
    · have hm : mat l (sbytes s) = k := mat_eq l _ k (fun j hj => (HI.out j hj).2) hkle (by rw [hbl.out]; omega) (.inl (by rw [hbl.out]; omega))
      have HR : Hid (wantN l (sbytes s) = s.size) := Lib.hid (by unfold wantN; rw [if_pos (by rw [hm, hbl.out]; omega), hbl.out])
      have HA : Hid (wantA l (sbytes s) i = (-1, 0)) := Lib.hid (by unfold wantA; rw [if_pos (by rw [hm, hbl.out]; omega)])
      have hltI : ¬ ((k : Int) < (s.size : Int)) := by omega
      have hle : i + s.size ≤ xs.length := by have := HL.out.2; have := hwl.out; rw [HR.out] at this; omega
      have hP := Lib.hid (fun n => (H.out.drewN hB n).put hB (i + s.size) hle)
      clear hm hkle
      go_wp2_with fail
      go_ret2
      refine ⟨?_, ?_, ?_⟩
      · rw [HA.out]; rfl
      · rw [HR.out]
        have := hP.out n
        have e : ((i + s.size : Nat) : Int) = (i : Int) + (s.size : Int) := by omega
        rw [e] at this
        exact this
      · exact ((Only.refl x w).drewN n).setCell 1 _
end Go.Proofs.Ytffidpbhlfbmhaa
