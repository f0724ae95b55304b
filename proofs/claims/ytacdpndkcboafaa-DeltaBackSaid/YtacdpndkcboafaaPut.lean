/- Plain facts of numbers in groups of seven bits: a number's bytes, what taking them answers, and what the bit operations on them are. No condition but those that each theorem names. -/
import Derived.Laws.Bits128
import Derived.WalkKit
namespace Go.Proofs.Ytacdpndkcboafaa
set_option linter.unusedVariables false

/-- The bytes of a number. -/
def put (n : Nat) : List Int := if h : n < 128 then [(n : Int)] else ((n % 128 + 128 : Nat) : Int) :: put (n / 128)
termination_by n
decreasing_by omega
theorem put_lo {n : Nat} (h : n < 128) : put n = [(n : Int)] := by rw [put, dif_pos h]
theorem put_hi {n : Nat} (h : 128 ≤ n) : put n = ((n % 128 + 128 : Nat) : Int) :: put (n / 128) := by rw [put, dif_neg (by omega)]
theorem put_pos (n : Nat) : 1 ≤ (put n).length := by
  rcases Nat.lt_or_ge n 128 with h | h
  · rw [put_lo h]; simp
  · rw [put_hi h]; simp
theorem put_byte (n : Nat) : ∀ x ∈ put n, 0 ≤ x ∧ x < 256 := by
  induction n using Nat.strongRecOn with
  | _ n ih =>
    rcases Nat.lt_or_ge n 128 with h | h
    · rw [put_lo h]; intro x hx; simp at hx; omega
    · rw [put_hi h]; intro x hx
      rcases List.mem_cons.1 hx with e | e
      · omega
      · exact ih (n / 128) (by omega) x e
/-- The weight of the group number i. -/
def pw : Nat → Nat
  | 0 => 1
  | i + 1 => pw i * 128
theorem pw_pos (i : Nat) : 1 ≤ pw i := by
  induction i with
  | zero => simp [pw]
  | succ i ih => simp only [pw]; omega
theorem pw_two (i : Nat) : pw i = 2 ^ (7 * i) := by
  induction i with
  | zero => rfl
  | succ i ih => rw [show 7 * (i + 1) = 7 * i + 7 by omega, Nat.pow_add, ← ih]; rfl
theorem put_len (k n : Nat) (hk : 1 ≤ k) (h : n < pw k) : (put n).length ≤ k := by
  induction k generalizing n with
  | zero => omega
  | succ k ih =>
    rcases Nat.lt_or_ge n 128 with h1 | h1
    · rw [put_lo h1]; simp
    · rw [put_hi h1, List.length_cons]
      simp only [pw] at h
      rcases Nat.eq_zero_or_pos k with e | e
      · subst e; simp only [pw] at h; omega
      · have := ih (n / 128) e (by omega)
        omega
theorem pw_nine : pw 9 = 9223372036854775808 := by decide

/-- The bytes of a number; none of one below 0. -/
def puts (n : Int) : List Int := if n < 0 then [] else put n.toNat
theorem puts_neg {n : Int} (h : n < 0) : puts n = [] := by unfold puts; rw [if_pos h]
theorem puts_nat (n : Nat) : puts (n : Int) = put n := by unfold puts; rw [if_neg (by omega), Int.toNat_natCast]
theorem puts_byte (n : Int) : ∀ x ∈ puts n, 0 ≤ x ∧ x < 256 := by
  unfold puts; split
  · simp
  · exact put_byte _
theorem puts_len (n : Int) (h : n < 9223372036854775808) : (puts n).length ≤ 9 := by
  unfold puts; split
  · simp
  · exact put_len 9 _ (by omega) (by rw [pw_nine]; omega)
theorem puts_pos (n : Int) (h : 0 ≤ n) : 1 ≤ (puts n).length := by
  unfold puts; rw [if_neg (by omega)]; exact put_pos _

/-- Taking on, f bytes at most, behind i bytes that have made n: the number, the offset behind, the fault. -/
def tk (most : Int) (at0 : Nat) : Nat → Nat → Nat → List Int → Int × Int × Int
  | 0, _, _, _ => (0, 0, 4)
  | _ + 1, _, _, [] => (0, 0, 12)
  | f + 1, i, n, c :: l =>
    if c < 128 then
      (if (c = 0 ∧ 0 < i) ∨ most < ((n + c.toNat * pw i : Nat) : Int) then (0, 0, 4) else (((n + c.toNat * pw i : Nat) : Int), ((at0 + i + 1 : Nat) : Int), 0))
    else tk most at0 f (i + 1) (n + (c.toNat - 128) * pw i) l

/-- What Take answers. -/
def takeA (l : List Int) (at_ most : Int) : Int × Int × Int :=
  if at_ < 0 ∨ (l.length : Int) < at_ then (0, 0, 1) else tk most at_.toNat 9 0 0 (l.drop at_.toNat)
theorem takeA_bad {l : List Int} {at_ most : Int} (h : at_ < 0 ∨ (l.length : Int) < at_) : takeA l at_ most = (0, 0, 1) := by unfold takeA; rw [if_pos h]
theorem takeA_at {l : List Int} {k : Nat} {most : Int} (h : k ≤ l.length) : takeA l (k : Int) most = tk most k 9 0 0 (l.drop k) := by
  unfold takeA; rw [if_neg (by omega), Int.toNat_natCast]

/-- A taken number is not above most, and its bytes lie in the list. -/
theorem tk_ok (most : Int) (a f : Nat) : ∀ (i n : Nat) (l : List Int), (tk most a f i n l).2.2 = 0 →
    0 ≤ (tk most a f i n l).1 ∧ (tk most a f i n l).1 ≤ most ∧ ((a : Int) ≤ (tk most a f i n l).2.1 ∧ (tk most a f i n l).2.1 ≤ ((a + i + l.length : Nat) : Int)) := by
  induction f with
  | zero => intro i n l h; simp [tk] at h
  | succ f ih =>
    intro i n l h
    cases l with
    | nil => simp [tk] at h
    | cons c l =>
      unfold tk at h ⊢
      split
      · rename_i h1
        rw [if_pos h1] at h
        split
        · rename_i h2; rw [if_pos h2] at h; simp at h
        · rename_i h2
          simp only [List.length_cons]
          omega
      · rename_i h1
        rw [if_neg h1] at h
        have := ih (i + 1) (n + (c.toNat - 128) * pw i) l h
        simp only [List.length_cons]
        omega
theorem takeA_ok {l : List Int} {at_ most : Int} (h : (takeA l at_ most).2.2 = 0) :
    0 ≤ (takeA l at_ most).1 ∧ (takeA l at_ most).1 ≤ most ∧ 0 ≤ (takeA l at_ most).2.1 ∧ (takeA l at_ most).2.1 ≤ (l.length : Int) := by
  by_cases hb : at_ < 0 ∨ (l.length : Int) < at_
  · rw [takeA_bad hb] at h; simp at h
  · obtain ⟨k, rfl⟩ := Int.eq_ofNat_of_zero_le (show 0 ≤ at_ by omega)
    have hk : k ≤ l.length := by simp at hb; omega
    have e := takeA_at (most := most) hk
    rw [e] at h ⊢
    have := tk_ok most k 9 0 0 (l.drop k) h
    rw [List.length_drop] at this
    omega

/-- What is put is taken as it was. -/
theorem tk_put (most : Int) (a : Nat) (rest : List Int) : ∀ (n f i m : Nat), (put n).length ≤ f → (i = 0 ∨ 0 < n) →
    tk most a f i m (put n ++ rest) = if most < ((m + n * pw i : Nat) : Int) then (0, 0, 4) else (((m + n * pw i : Nat) : Int), ((a + i + (put n).length : Nat) : Int), 0) := by
  intro n
  induction n using Nat.strongRecOn with
  | _ n ih =>
    intro f i m hf hi
    cases f with
    | zero => have := put_pos n; omega
    | succ f =>
      rcases Nat.lt_or_ge n 128 with h | h
      · rw [put_lo h, List.singleton_append]
        unfold tk
        rw [if_pos (by omega), Int.toNat_natCast]
        by_cases h2 : most < ((m + n * pw i : Nat) : Int)
        · rw [if_pos (.inr h2), if_pos h2]
        · rw [if_neg (by rintro (h3 | h3) <;> omega), if_neg h2]; simp
      · rw [put_hi h] at hf ⊢
        rw [List.cons_append]
        unfold tk
        rw [if_neg (by omega)]
        have hl : (put (n / 128)).length ≤ f := by simpa using hf
        rw [ih (n / 128) (by omega) f (i + 1) _ hl (.inr (by omega)), Int.toNat_natCast, show n % 128 + 128 - 128 = n % 128 by omega]
        have e : m + n % 128 * pw i + n / 128 * pw (i + 1) = m + n * pw i := by
          have h1 : n = n % 128 + n / 128 * 128 := by omega
          have h2 : n * pw i = n % 128 * pw i + n / 128 * 128 * pw i := by
            rw [← Nat.add_mul, ← h1]
          rw [h2]
          simp only [pw]
          rw [Nat.mul_comm (pw i) 128, ← Nat.mul_assoc]
          omega
        rw [e, List.length_cons, show a + (i + 1) + (put (n / 128)).length = a + i + ((put (n / 128)).length + 1) by omega]
/-- Of fewer bytes it is not. -/
theorem tk_short (most : Int) (a : Nat) : ∀ (n f i m : Nat), (put n).length ≤ f → tk most a f i m ((put n).take ((put n).length - 1)) = (0, 0, 12) := by
  intro n
  induction n using Nat.strongRecOn with
  | _ n ih =>
    intro f i m hf
    cases f with
    | zero => have := put_pos n; omega
    | succ f =>
      rcases Nat.lt_or_ge n 128 with h | h
      · rw [put_lo h]; rfl
      · rw [put_hi h] at hf ⊢
        have hp := put_pos (n / 128)
        rw [List.length_cons, Nat.add_sub_cancel]
        obtain ⟨k, hk⟩ : ∃ k, (put (n / 128)).length = k + 1 := ⟨(put (n / 128)).length - 1, by omega⟩
        have h2 := ih (n / 128) (by omega) f (i + 1) (m + n % 128 * pw i) (by simpa using hf)
        rw [hk, Nat.add_sub_cancel] at h2
        rw [hk, List.take_succ_cons]
        unfold tk
        rw [if_neg (by omega), Int.toNat_natCast, show n % 128 + 128 - 128 = n % 128 by omega]
        exact h2

theorem take_put (n : Nat) (most : Int) (rest : List Int) (h : n < 9223372036854775808) (hm : (n : Int) ≤ most) : takeA (put n ++ rest) 0 most = ((n : Int), ((put n).length : Int), 0) := by
  have := takeA_at (l := put n ++ rest) (k := 0) (most := most) (by omega)
  rw [show (0 : Int) = ((0 : Nat) : Int) from rfl, this, List.drop_zero, tk_put most 0 rest n 9 0 0 (put_len 9 n (by omega) (by rw [pw_nine]; omega)) (.inl rfl)]
  simp only [pw, Nat.mul_one, Nat.zero_add]
  rw [if_neg (by omega)]; rfl
theorem take_above (n : Nat) (most : Int) (rest : List Int) (h : n < 9223372036854775808) (hm : most < (n : Int)) : takeA (put n ++ rest) 0 most = (0, 0, 4) := by
  have := takeA_at (l := put n ++ rest) (k := 0) (most := most) (by omega)
  rw [show (0 : Int) = ((0 : Nat) : Int) from rfl, this, List.drop_zero, tk_put most 0 rest n 9 0 0 (put_len 9 n (by omega) (by rw [pw_nine]; omega)) (.inl rfl)]
  simp only [pw, Nat.mul_one, Nat.zero_add]
  rw [if_pos (by omega)]; rfl
theorem take_short (n : Nat) (most : Int) (h : n < 9223372036854775808) : takeA ((put n).take ((put n).length - 1)) 0 most = (0, 0, 12) := by
  have := takeA_at (l := (put n).take ((put n).length - 1)) (k := 0) (most := most) (by omega)
  rw [show (0 : Int) = ((0 : Nat) : Int) from rfl, this, List.drop_zero, tk_short most 0 n 9 0 0 (put_len 9 n (by omega) (by rw [pw_nine]; omega))]
  rfl
theorem take_behind (front : List Int) (n : Nat) (most : Int) (h : n < 9223372036854775808) (hm : (n : Int) ≤ most) : takeA (front ++ put n) (front.length : Int) most = ((n : Int), ((front.length + (put n).length : Nat) : Int), 0) := by
  rw [takeA_at (by simp), List.drop_left']
  have := tk_put most front.length [] n 9 0 0 (put_len 9 n (by omega) (by rw [pw_nine]; omega)) (.inl rfl)
  rw [List.append_nil] at this
  rw [this]
  simp only [pw, Nat.mul_one, Nat.zero_add, Nat.add_zero]
  rw [if_neg (by omega)]
  rfl

/-- What Pair answers. -/
def pairA (lhs a b : Int) : List Int × Int := if lhs ≤ a ∨ a < b ∨ b < 0 then ([], 11) else (puts (lhs - a) ++ puts (a - b), 0)
theorem pairA_bad {lhs a b : Int} (h : lhs ≤ a ∨ a < b ∨ b < 0) : pairA lhs a b = ([], 11) := by unfold pairA; rw [if_pos h]
theorem pairA_ok {lhs a b : Int} (h : ¬ (lhs ≤ a ∨ a < b ∨ b < 0)) : pairA lhs a b = (puts (lhs - a) ++ puts (a - b), 0) := by unfold pairA; rw [if_neg h]
/-- What Gate answers of the two numbers. -/
def gateB (p q : Int × Int × Int) (lhs : Int) : Int × Int × Int × Int :=
  if p.1 = 0 ∨ lhs < p.1 ∨ lhs - p.1 < q.1 then (0, 0, 0, 11) else (lhs - p.1, lhs - p.1 - q.1, q.2.1, 0)
/-- What Gate answers. -/
def gateA (l : List Int) (at_ lhs : Int) : Int × Int × Int × Int :=
  if (takeA l at_ 1152921504606846976).2.2 ≠ 0 then (0, 0, 0, (takeA l at_ 1152921504606846976).2.2)
  else if (takeA l (takeA l at_ 1152921504606846976).2.1 1152921504606846976).2.2 ≠ 0 then (0, 0, 0, (takeA l (takeA l at_ 1152921504606846976).2.1 1152921504606846976).2.2)
  else gateB (takeA l at_ 1152921504606846976) (takeA l (takeA l at_ 1152921504606846976).2.1 1152921504606846976) lhs

theorem gate_pair (lhs a b : Int) (h1 : lhs ≤ 1152921504606846976) (h : ¬ (lhs ≤ a ∨ a < b ∨ b < 0)) :
    gateA (pairA lhs a b).1 0 lhs = (a, b, ((pairA lhs a b).1.length : Int), 0) := by
  rw [pairA_ok h]
  obtain ⟨x, hx⟩ := Int.eq_ofNat_of_zero_le (show 0 ≤ lhs - a by omega)
  obtain ⟨y, hy⟩ := Int.eq_ofNat_of_zero_le (show 0 ≤ a - b by omega)
  rw [hx, hy]
  show gateA (puts ((x : Nat) : Int) ++ puts ((y : Nat) : Int)) 0 lhs = _
  rw [puts_nat, puts_nat]
  have e1 := take_put x 1152921504606846976 (put y) (by omega) (by omega)
  have e2 := take_behind (put x) y 1152921504606846976 (by omega) (by omega)
  unfold gateA
  rw [e1]
  simp only []
  rw [e2]
  simp only [ne_eq, not_true_eq_false, if_false]
  unfold gateB
  simp only []
  rw [if_neg (by omega), List.length_append]
  rw [show lhs - (x : Int) - (y : Int) = b by omega, show lhs - (x : Int) = a by omega]
end Go.Proofs.Ytacdpndkcboafaa
