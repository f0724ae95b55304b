/- The contract of Number: the number that comes next is read if it is at most 'most' and has no further zero ahead (conditions: the reader's row lies in memory; what is left are bytes; most is an int64). -/
import Derived.Test.YtffidpbhlfbmhaaWant
namespace Go.Proofs.Ytffidpbhlfbmhaa
open Go.ChangeShapes Go.WideShapes Go.RowKit
set_option linter.unusedVariables false

/-- How many digits come. -/
def digs (l : List Int) : Nat := (l.takeWhile isDig).length
theorem digs_ge (l : List Int) (k : Nat) (h : ∀ j, j < k → isDig (l.getD j 0) = true) (hk : k ≤ l.length) : k ≤ digs l := by
  induction k generalizing l with
  | zero => omega
  | succ k ih =>
    cases l with
    | nil => simp at hk
    | cons x xs =>
      have h0 : isDig x = true := by simpa using h 0 (by omega)
      have := ih xs (fun j hj => by simpa using h (j + 1) (by omega)) (by simpa using hk)
      unfold digs at this ⊢
      rw [List.takeWhile_cons, if_pos h0, List.length_cons]
      omega
theorem digs_le (l : List Int) (k : Nat) (h : k = l.length ∨ isDig (l.getD k 0) = false) : digs l ≤ k := by
  induction k generalizing l with
  | zero =>
    cases l with
    | nil => simp [digs]
    | cons x xs =>
      rcases h with h | h
      · simp at h
      · have h0 : isDig x = false := by simpa using h
        unfold digs
        rw [List.takeWhile_cons, if_neg (by rw [h0]; simp)]
        simp
  | succ k ih =>
    cases l with
    | nil => simp [digs]
    | cons x xs =>
      have := ih xs (by
        rcases h with h | h
        · exact .inl (by simpa using h)
        · exact .inr (by simpa using h))
      unfold digs at this ⊢
      rw [List.takeWhile_cons]
      split
      · rw [List.length_cons]; omega
      · simp
theorem digs_eq (l : List Int) (k : Nat) (h : ∀ j, j < k → isDig (l.getD j 0) = true) (hk : k ≤ l.length) (h2 : k = l.length ∨ isDig (l.getD k 0) = false) : digs l = k :=
  Nat.le_antisymm (digs_le l k h2) (digs_ge l k h hk)

/-- The number that the first k digits make. -/
def val (l : List Int) : Nat → Int
  | 0 => 0
  | k + 1 => val l k * 10 + (l.getD k 0 - 48)
theorem isDig_lo {x : Int} (h : isDig x = true) : 48 ≤ x ∧ x ≤ 57 := by simpa [isDig] using h
theorem val_pos (l : List Int) (k : Nat) (h : ∀ j, j < k → isDig (l.getD j 0) = true) : 0 ≤ val l k := by
  induction k with
  | zero => simp [val]
  | succ k ih =>
    have h1 := ih (fun j hj => h j (by omega))
    have h2 := isDig_lo (h k (by omega))
    unfold val
    omega
theorem val_zero (l : List Int) (k : Nat) (h : ∀ j, j < k → isDig (l.getD j 0) = true) (hk : 1 ≤ k) (h0 : val l k = 0) : l.getD 0 0 = 48 := by
  induction k with
  | zero => omega
  | succ k ih =>
    have h1 := val_pos l k (fun j hj => h j (by omega))
    have h2 := isDig_lo (h k (by omega))
    unfold val at h0
    rcases Nat.eq_zero_or_pos k with e | e
    · subst e
      have e0 : val l 0 = 0 := rfl
      omega
    · exact ih (fun j hj => h j (by omega)) e (by omega)

/-- Does no digit make the number come to more than 'most'? -/
def good (l : List Int) (most : Int) : Bool := (List.range (digs l)).all fun k => !big (val l k) (l.getD k 0 - 48) most
theorem good_true (l : List Int) (most : Int) (h : ∀ k, k < digs l → big (val l k) (l.getD k 0 - 48) most = false) : good l most = true := by
  unfold good
  rw [List.all_eq_true]
  intro k hk
  rw [h k (by simpa using hk)]; rfl
theorem good_false (l : List Int) (most : Int) (k : Nat) (hk : k < digs l) (h : big (val l k) (l.getD k 0 - 48) most = true) : good l most = false := by
  unfold good
  rw [List.all_eq_false]
  exact ⟨k, by simpa using hk, by rw [h]; simp⟩
theorem big_false {v d most : Int} (h : big v d most = false) : d ≤ most ∧ v * 10 + d ≤ most := by
  simp [big] at h
  omega

/-- Is what comes, beginning with a digit, refused? -/
def bad (l : List Int) (most : Int) : Bool := (decide (l.getD 0 0 = 48) && decide (2 ≤ digs l)) || !good l most
/-- What Number answers, and how many bytes it reads. -/
def numA (l : List Int) (most : Int) : Int × Int :=
  if l = [] then (0, 12) else if isDig (l.getD 0 0) = false then (0, 2) else if bad l most = true then (0, 4) else (val l (digs l), 0)
def numN (l : List Int) (most : Int) : Nat :=
  if l = [] then 0 else if isDig (l.getD 0 0) = false then 0 else if bad l most = true then 0 else digs l

/-- The first k bytes are digits of a number that is not refused so far. -/
def Fit (l : List Int) (most : Int) (k : Nat) : Prop := (k ≤ 1 ∨ l.getD 0 0 ≠ 48) ∧ ∀ j, j < k → isDig (l.getD j 0) = true ∧ big (val l j) (l.getD j 0 - 48) most = false
theorem Fit.start (l : List Int) (most : Int) : Fit l most 0 := ⟨.inl (by omega), fun j hj => by omega⟩
theorem Fit.pos {l : List Int} {most : Int} {k : Nat} (h : Fit l most k) : 0 ≤ val l k := val_pos l k (fun j hj => (h.2 j hj).1)
theorem Fit.hi {l : List Int} {most : Int} {k : Nat} (h : Fit l most k) (h1 : 1 ≤ k) : val l k ≤ most := by
  obtain ⟨k', rfl⟩ : ∃ k', k = k' + 1 := ⟨k - 1, by omega⟩
  have := big_false (h.2 k' (by omega)).2
  unfold val; omega
theorem Fit.stop {l : List Int} {most : Int} {k : Nat} (h : Fit l most k) (h0 : 0 < l.length) (hx : isDig (l.getD 0 0) = true) (hk : k ≤ l.length) (hs : k = l.length ∨ isDig (l.getD k 0) = false) : numA l most = (val l k, 0) ∧ numN l most = k := by
  have hd := digs_eq l k (fun j hj => (h.2 j hj).1) hk hs
  have hk1 : 1 ≤ k := by
    rcases Nat.eq_zero_or_pos k with e | e
    · subst e
      rcases hs with hs | hs
      · omega
      · rw [hx] at hs; cases hs
    · exact e
  have hb : bad l most = false := by
    unfold bad
    rw [good_true l most (fun j hj => (h.2 j (by omega)).2), hd]
    rcases h.1 with h | h
    · rw [decide_eq_false (show ¬ 2 ≤ k by omega)]; simp
    · rw [decide_eq_false h]; rfl
  have hn : l ≠ [] := by intro e; subst e; simp at h0
  constructor
  · unfold numA; rw [if_neg hn, if_neg (by rw [hx]; simp), if_neg (by rw [hb]; simp), hd]
  · unfold numN; rw [if_neg hn, if_neg (by rw [hx]; simp), if_neg (by rw [hb]; simp), hd]
theorem Fit.fail {l : List Int} {most : Int} {k : Nat} (h : Fit l most k) (hk : k < l.length) (hx : isDig (l.getD k 0) = true) (hs : (1 ≤ k ∧ val l k = 0) ∨ big (val l k) (l.getD k 0 - 48) most = true) : numA l most = (0, 4) ∧ numN l most = 0 := by
  have hd : k < digs l := digs_ge l (k + 1) (fun j hj => by
    by_cases e : j = k
    · subst e; exact hx
    · exact (h.2 j (by omega)).1) (by omega)
  have hx0 : isDig (l.getD 0 0) = true := by
    rcases Nat.eq_zero_or_pos k with e | e
    · subst e; exact hx
    · exact (h.2 0 e).1
  have hb : bad l most = true := by
    unfold bad
    rcases hs with ⟨h1, h2⟩ | h1
    · rw [decide_eq_true (val_zero l k (fun j hj => (h.2 j hj).1) h1 h2), decide_eq_true (show 2 ≤ digs l by omega)]; rfl
    · rw [good_false l most k hd h1]; simp
  have hn : l ≠ [] := by intro e; subst e; simp at hk
  constructor
  · unfold numA; rw [if_neg hn, if_neg (by rw [hx0]; simp), if_pos hb]
  · unfold numN; rw [if_neg hn, if_neg (by rw [hx0]; simp), if_pos hb]
theorem Fit.next {l : List Int} {most : Int} {k : Nat} (h : Fit l most k) (hx : isDig (l.getD k 0) = true) (hn : ¬ (1 ≤ k ∧ val l k = 0)) (hb : big (val l k) (l.getD k 0 - 48) most = false) : Fit l most (k + 1) := by
  refine ⟨?_, fun j hj => ?_⟩
  · rcases Nat.lt_or_ge k 1 with h1 | h1
    · exact .inl (by omega)
    · rcases h.1 with h2 | h2
      · right
        have hk1 : k = 1 := by omega
        subst hk1
        intro e
        apply hn
        refine ⟨by omega, ?_⟩
        show val l 0 * 10 + (l.getD 0 0 - 48) = 0
        rw [e]; rfl
      · exact .inr h2
  · by_cases e : j = k
    · subst e; exact ⟨hx, hb⟩
    · exact h.2 j (by omega)

theorem nil_num (most : Int) (w : World) : Calls Try.prog 14 #[.pointer none, .int .i64 most] w fun e w' => e = .returned (two (0, 12)) ∧ w = w' := by
  go_enter Try.func14, Try.ntmps14
  go_wp2_with fail
  go_step3
  go_wp2_with (first | (go_at_call 10; refine (nil_left _).mono ?_; rintro e w' ⟨rfl, rfl⟩))
  try rw [Exit.noGoto_ret]
  go_ret2
  exact ⟨rfl, rfl⟩

theorem num_none (r i : Nat) (most : Int) (w : World) (h : Rd w r [] i) : Calls Try.prog 14 #[.pointer (some ⟨r, 0, none⟩), .int .i64 most] w (Reads r w (two (0, 12)) [] i) := by
  have h1 := Lib.hid (left_any r [] i w h)
  have H := Lib.hid h
  clear h
  go_enter Try.func14, Try.ntmps14
  go_wp2_with fail
  go_step3
  go_wp2_with (first | (go_at_call 10; refine (h1.out).mono ?_; rintro e w' ⟨rfl, rfl⟩; simp only [List.length_nil]))
  try rw [Exit.noGoto_ret]
  go_ret2
  exact ⟨rfl, H.out, Only.refl _ _⟩

theorem num_no (r i : Nat) (x : Int) (l : List Int) (most : Int) (w : World) (h : Rd w r (x :: l) i) (hx : isDig x = false) :
    Calls Try.prog 14 #[.pointer (some ⟨r, 0, none⟩), .int .i64 most] w (Reads r w (two (0, 2)) (x :: l) i) := by
  obtain ⟨b, o, c, k0, k1, kb⟩ := h.head
  have h1 := Lib.hid (left_any r (x :: l) i w h)
  have h2 := Lib.hid (isDigit_any x)
  have H := Lib.hid h
  have hn : (0 : Int) ≤ (l.length : Int) := by omega
  clear h
  go_enter Try.func14, Try.ntmps14
  go_wp2_with fail
  go_step3
  go_wp2_with (first | (go_at_call 10; refine (h1.out).mono ?_; rintro e w' ⟨rfl, rfl⟩; simp only [List.length_cons]) | (go_at_call 21; refine (h2.out _).mono ?_; rintro e w' ⟨rfl, rfl⟩; rw [hx]))
  try rw [Exit.noGoto_ret]
  go_ret2
  exact ⟨rfl, H.out, Only.refl _ _⟩

set_option maxHeartbeats 1000000 in
theorem num_dig (r i : Nat) (l : List Int) (most : Int) (w : World) (h : Rd w r l i) (h0 : 0 < l.length) (hx0 : isDig (l.getD 0 0) = true) (hi : i + l.length ≤ 1000) (hm : -9223372036854775808 ≤ most) (hm2 : most < 9223372036854775808)
    (hbt : ∀ j, j < l.length → 0 ≤ l.getD j 0 ∧ l.getD j 0 < 256) :
    Calls Try.prog 14 #[.pointer (some ⟨r, 0, none⟩), .int .i64 most] w
      (Reads r w (two (numA l most)) (l.drop (numN l most)) (i + numN l most)) := by
  have H := Lib.hid h
  have h1 := Lib.hid (left_any r l i w h)
  have h2 := Lib.hid isDigit_any
  have h3 := Lib.hid (fun v d hd0 hd => above_any v d most hd0 hd hm hm2)
  obtain ⟨a, c, r1, r2, r3, r4, r5, h6⟩ := h
  have k0 : w.cell? ⟨r, 0, none⟩ = some (.slice a l.length c) := by rw [cell_of_row _ _ _ _ _ _ r1]; rfl
  obtain ⟨b, o, rfl, hb, hb2, hc⟩ := h6 (by intro e; subst e; simp at h0)
  have HC := Lib.hid hc
  have HB := Lib.hid hbt
  have kb : w.cell? ⟨b, o, none⟩ = some (.int .u8 (l.getD 0 0)) := hc 0 h0
  have hl0 : (l.length : Int) ≠ 0 := by omega
  have hl1 : (0 : Int) < (l.length : Int) := by omega
  have HE : Hid (isDig (l.getD 0 0) = true) := Lib.hid hx0
  generalize l.getD 0 0 = x0 at kb hx0
  have HX0 := Lib.hid hx0
  clear r1 h6 hc hbt hx0
  go_enter Try.func14, Try.ntmps14
  go_wp2_with fail
  go_step3
  go_wp2_with (first | (go_at_call 10; refine (h1.out).mono ?_; rintro e w' ⟨rfl, rfl⟩) | (go_at_call 21; refine (h2.out _ _).mono ?_; rintro e w' ⟨rfl, rfl⟩; rw [HX0.out]))
  go_step3
  go_wp2_with fail
  go_loopg [6, 7, 27] l.length (fun m s6 s7 s27 wx => ∃ k : Nat, k + m = l.length ∧ s6 = .int .i64 (val l k) ∧ s7 = .int .i64 k ∧ s27 = .int .i64 k ∧ Aside (Fit l most k) ∧ w = wx)
  case atStart => exact ⟨0, by omega, rfl, rfl, rfl, Fit.start l most, rfl⟩
  case round =>
    obtain ⟨k, hk, rfl, rfl, rfl, HI0, rfl⟩ := hrel
    generalize gk = m at *
    have HI : Hid (Fit l most k) := Lib.hid HI0
    clear HI0
    have hk0 : (0 : Int) ≤ (k : Int) := by omega
    have hv0 : 0 ≤ val l k := HI.out.pos
    have hvm := Lib.hid (HI.out.hi (k := k))
    have hsk := Lib.hid (skip_any r k l i w H.out (by omega) (by omega))
    have hval : Hid (val l (k + 1) = val l k * 10 + (l.getD k 0 - 48)) := Lib.hid rfl
    have hstop := Lib.hid (HI.out.stop h0 HE.out (by omega))
    by_cases hlt : k < l.length
    · have hcell := HC.out k hlt
      have hby := HB.out k hlt
      have hkI : (k : Int) < (l.length : Int) := by omega
      have hfail := Lib.hid (HI.out.fail hlt)
      have hnext := Lib.hid (HI.out.next (k := k))
      clear HI
      generalize l.getD k 0 = x at hcell hby hnext hstop hfail hval
      generalize val l k = v at hv0 hvm hfail hval hnext hstop
      obtain ⟨hx0, hx1⟩ := hby
      by_cases hx : isDig x = true
      · have hxl := isDig_lo hx
        have hxa := hxl.1
        have hxb := hxl.2
        have HX := Lib.hid hx
        clear hxl hx
        by_cases hz0 : 1 ≤ k ∧ v = 0
        · have HA := Lib.hid (hfail.out HX.out (.inl hz0))
          obtain ⟨hz1, rfl⟩ := hz0
          have hz2 : (0 : Int) < (k : Int) := by omega
          clear hvm hfail hval hnext hstop
          go_wp2_with (first | (go_at_call 21; refine (h2.out _ _).mono ?_; rintro e w' ⟨rfl, rfl⟩; rw [HX.out]))
          try rw [Exit.noGoto_ret]
          go_ret2
          rw [HA.out.2]
          exact ⟨by rw [HA.out.1]; rfl, H.out, Only.refl _ _⟩
        · have hzb : ((decide ((0 : Int) < (k : Int))) && (v == 0)) = false := by
            rcases Nat.lt_or_ge k 1 with e | e
            · rw [decide_eq_false (by omega)]; rfl
            · rw [beq_eq_false_iff_ne.mpr (fun e2 => hz0 ⟨e, e2⟩)]; simp
          have hzc : Hid ((0 : Int) < (k : Int) → v ≠ 0) := Lib.hid (fun h1 h2 => hz0 ⟨by omega, h2⟩)
          have HN := Lib.hid hz0
          clear hz0
          by_cases hy : big v (x - 48) most = true
          · have HA := Lib.hid (hfail.out HX.out (.inr hy))
            have HY := Lib.hid hy
            clear hvm hfail hval hnext hstop hy
            by_cases hkz : (0 : Int) < (k : Int)
            all_goals
              first | (have hvz := hzc.out hkz) | skip
              go_wp2_with (first | (go_at_call 21; refine (h2.out _ _).mono ?_; rintro e w' ⟨rfl, rfl⟩; rw [HX.out]) | (go_at_call 22; refine (h3.out v (x - 48) (by omega) (by omega) _).mono ?_; rintro e w' ⟨rfl, rfl⟩; rw [HY.out]))
              try rw [Exit.noGoto_ret]
              go_ret2
              rw [HA.out.2]
              exact ⟨by rw [HA.out.1]; rfl, H.out, Only.refl _ _⟩
          · have hy2 : big v (x - 48) most = false := by simpa using hy
            have hbf := big_false hy2
            have hb1 := hbf.1
            have hb2 := hbf.2
            have HY := Lib.hid hy2
            have HF := Lib.hid (hnext.out HX.out HN.out hy2)
            clear hvm hfail hnext hstop hy hy2 hbf
            by_cases hkz : (0 : Int) < (k : Int)
            all_goals
              first | (have hvz := hzc.out hkz) | skip
              go_wp2_with (first | (go_at_call 21; refine (h2.out _ _).mono ?_; rintro e w' ⟨rfl, rfl⟩; rw [HX.out]) | (go_at_call 22; refine (h3.out v (x - 48) (by omega) (by omega) _).mono ?_; rintro e w' ⟨rfl, rfl⟩; rw [HY.out]))
              go_roundg (m - 1)
              case measure => omega
              case rel => exact ⟨k + 1, by omega, by rw [hval.out], by first | rfl | simp, by first | rfl | simp, HF.out, rfl⟩
      · have hx2 : isDig x = false := by simpa using hx
        have HA := Lib.hid (hstop.out (.inr hx2))
        have HX := Lib.hid hx2
        clear hvm hfail hval hnext hstop hx hx2
        go_wp2_with (first | (go_at_call 21; refine (h2.out _ _).mono ?_; rintro e w' ⟨rfl, rfl⟩; rw [HX.out]) | (go_at_call 20; refine (hsk.out).mono ?_; rintro e w' ⟨rfl, hR, hO⟩; have HR := Lib.hid (And.intro hR hO); clear hR hO))
        try rw [Exit.noGoto_ret]
        go_ret2
        rw [HA.out.2]
        exact ⟨by rw [HA.out.1]; rfl, HR.out.1, HR.out.2⟩
    · have hkl : k = l.length := by omega
      have HA := Lib.hid (hstop.out (.inl hkl))
      have hkI : ¬ ((k : Int) < (l.length : Int)) := by omega
      generalize val l k = v at hv0 hvm hval hstop HA
      clear hvm hval hstop hkl
      go_wp2_with (first | (go_at_call 20; refine (hsk.out).mono ?_; rintro e w' ⟨rfl, hR, hO⟩; have HR := Lib.hid (And.intro hR hO); clear hR hO))
      try rw [Exit.noGoto_ret]
      go_ret2
      rw [HA.out.2]
      exact ⟨by rw [HA.out.1]; rfl, HR.out.1, HR.out.2⟩
end Go.Proofs.Ytffidpbhlfbmhaa
