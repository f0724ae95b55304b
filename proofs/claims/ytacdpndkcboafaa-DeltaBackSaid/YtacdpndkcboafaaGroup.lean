/- Plain facts: what 'and', 'or', 'and not' and the shifts are on groups of seven bits. No condition but those that each theorem names. -/
import Derived.Laws.Bits128
import Derived.WalkKit
import Derived.Test.YtacdpndkcboafaaPut
namespace Go.Proofs.Ytacdpndkcboafaa
set_option linter.unusedVariables false

theorem i64_and127 (n : Int) : bits .and .i64 n 127 = n % 128 := by
  have h1 : (BitVec.ofInt 64 127).toNat = 2 ^ 7 - 1 := by decide
  have key : (BitVec.ofInt 64 n &&& BitVec.ofInt 64 127).toNat = (n % ((2 ^ 64 : Nat) : Int)).toNat % 2 ^ 7 := by
    rw [BitVec.toNat_and, BitVec.toNat_ofInt, h1, Nat.and_two_pow_sub_one_eq_mod]
  show IntKind.i64.wrap ((BitVec.ofInt 64 n &&& BitVec.ofInt 64 127).toNat : Nat) = n % 128
  rw [key, IntKind.wrap_i64]
  omega

theorem u8_all (x : Int) (h0 : 0 ≤ x) (h : x < 256) (p : Int → Bool) (hp : ∀ k : Fin 256, p ((k.val : Nat) : Int) = true) : p x = true := by
  obtain ⟨k, rfl⟩ := Int.eq_ofNat_of_zero_le h0
  exact hp ⟨k, by omega⟩
theorem u8_or128 (x : Int) (h0 : 0 ≤ x) (h : x < 128) : bits .or .u8 x 128 = x + 128 := by
  have := u8_all x h0 (by omega) (fun x => decide (128 ≤ x) || decide (bits .or .u8 x 128 = x + 128)) (by decide +kernel)
  simp only [Bool.or_eq_true, decide_eq_true_eq] at this
  omega
theorem u8_andNot128 (x : Int) (h0 : 0 ≤ x) (h : x < 256) : bits .andNot .u8 x 128 = x % 128 := by
  have := u8_all x h0 h (fun x => decide (bits .andNot .u8 x 128 = x % 128)) (by decide +kernel)
  simpa using this
theorem u8_and128_lo (x : Int) (h0 : 0 ≤ x) (h : x < 128) : bits .and .u8 x 128 = 0 := by
  have := u8_all x h0 (by omega) (fun x => decide (128 ≤ x) || decide (bits .and .u8 x 128 = 0)) (by decide +kernel)
  simp only [Bool.or_eq_true, decide_eq_true_eq] at this
  omega
theorem u8_and128_hi (x : Int) (h0 : 128 ≤ x) (h : x < 256) : bits .and .u8 x 128 = 128 := by
  have := u8_all x (by omega) h (fun x => decide (x < 128) || decide (bits .and .u8 x 128 = 128)) (by decide +kernel)
  simp only [Bool.or_eq_true, decide_eq_true_eq] at this
  omega

theorem bits_or_i64_nat (a b : Nat) (ha : a < 9223372036854775808) (hb : b < 9223372036854775808) : bits .or .i64 (a : Int) (b : Int) = ((a ||| b : Nat) : Int) := by
  have hx : a ||| b < 2 ^ 63 := Nat.or_lt_two_pow (by omega) (by omega)
  have h1 : (BitVec.ofInt 64 (a : Int)).toNat = a := by
    rw [BitVec.ofInt_natCast, BitVec.toNat_ofNat]; exact Nat.mod_eq_of_lt (by omega)
  have h2 : (BitVec.ofInt 64 (b : Int)).toNat = b := by
    rw [BitVec.ofInt_natCast, BitVec.toNat_ofNat]; exact Nat.mod_eq_of_lt (by omega)
  show IntKind.i64.wrap ((BitVec.ofInt 64 (a : Int) ||| BitVec.ofInt 64 (b : Int)).toNat : Int) = _
  rw [BitVec.toNat_or, h1, h2, IntKind.wrap_i64]
  omega

/-- A group laid above the groups below it. -/
theorem or_group (n c i : Nat) (hn : n < pw i) (h : n + c * pw i < 9223372036854775808) : bits .or .i64 (n : Int) ((c * pw i : Nat) : Int) = ((n + c * pw i : Nat) : Int) := by
  rw [bits_or_i64_nat n (c * pw i) (by omega) (by omega)]
  have e := Nat.shiftLeft_add_eq_or_of_lt (i := 7 * i) (b := n) (by rw [← pw_two]; exact hn) c
  rw [Nat.shiftLeft_eq, ← pw_two] at e
  rw [Nat.or_comm, ← e, Nat.add_comm]

/-- The shift's own power, where the count is below 64. -/
theorem shl_pow (c i : Nat) (hi : i ≤ 8) : ((c : Nat) : Int) * 2 ^ min ((7 : Int) * (i : Int)).toNat 64 = ((c * pw i : Nat) : Int) := by
  have e : min ((7 : Int) * (i : Int)).toNat 64 = 7 * i := by omega
  rw [e, pw_two]; simp

theorem pw_le (i : Nat) (hi : i ≤ 8) : pw i ≤ 72057594037927936 := by
  have h : i = 0 ∨ i = 1 ∨ i = 2 ∨ i = 3 ∨ i = 4 ∨ i = 5 ∨ i = 6 ∨ i = 7 ∨ i = 8 := by omega
  rcases h with rfl | rfl | rfl | rfl | rfl | rfl | rfl | rfl | rfl <;> decide
theorem group_lt (n c i : Nat) (hn : n < pw i) (hc : c < 128) : n + c * pw i < pw (i + 1) := by
  have h1 : c * pw i ≤ 127 * pw i := Nat.mul_le_mul_right _ (by omega)
  simp only [pw]
  omega
end Go.Proofs.Ytacdpndkcboafaa
