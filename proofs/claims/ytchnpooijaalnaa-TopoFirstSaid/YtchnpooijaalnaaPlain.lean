/- Plain facts: what 'and 1', 'xor 1' are on int64 numbers that are not below 0. No condition but those that each theorem names. -/
import Derived.Laws.Bits128
import Derived.WalkKit
namespace Go.Proofs.Ytchnpooijaalnaa

theorem nat_xor1 (a : Nat) : (a ^^^ 1) = a + 1 - 2 * (a % 2) := by
  have h1 : (a ^^^ 1) / 2 = a / 2 := by rw [Nat.xor_div_two]; simp
  have h2 : (a ^^^ 1) % 2 = a % 2 ^^^ 1 := by
    have h := Nat.xor_mod_two_pow (a := a) (b := 1) (n := 1)
    simpa using h
  have h3 : a % 2 ^^^ 1 = 1 - a % 2 := by
    rcases Nat.mod_two_eq_zero_or_one a with e | e <;> rw [e] <;> decide
  omega

theorem i64_and1 (n : Int) : bits .and .i64 n 1 = n % 2 := by
  have h1 : (BitVec.ofInt 64 1).toNat = 2 ^ 1 - 1 := by decide
  have key : (BitVec.ofInt 64 n &&& BitVec.ofInt 64 1).toNat = (n % ((2 ^ 64 : Nat) : Int)).toNat % 2 ^ 1 := by
    rw [BitVec.toNat_and, BitVec.toNat_ofInt, h1, Nat.and_two_pow_sub_one_eq_mod]
  show IntKind.i64.wrap ((BitVec.ofInt 64 n &&& BitVec.ofInt 64 1).toNat : Nat) = n % 2
  rw [key, IntKind.wrap_i64]
  omega

theorem i64_xor1 (n : Int) (h0 : 0 ≤ n) (h : n < 9223372036854775808) : bits .xor .i64 n 1 = n + 1 - 2 * (n % 2) := by
  have h1 : (BitVec.ofInt 64 1).toNat = 1 := by decide
  have key : (BitVec.ofInt 64 n ^^^ BitVec.ofInt 64 1).toNat = (n % ((2 ^ 64 : Nat) : Int)).toNat + 1 - 2 * ((n % ((2 ^ 64 : Nat) : Int)).toNat % 2) := by
    rw [BitVec.toNat_xor, BitVec.toNat_ofInt, h1, nat_xor1]
  show IntKind.i64.wrap ((BitVec.ofInt 64 n ^^^ BitVec.ofInt 64 1).toNat : Nat) = n + 1 - 2 * (n % 2)
  rw [key, IntKind.wrap_i64]
  omega

/-- Is a literal negated? -/
def odd (l : Int) : Bool := l % 2 == 1
/-- The other literal of the same variable. -/
def nt (l : Int) : Int := l + 1 - 2 * (l % 2)
/-- The literal, turned if b. -/
def xr (l : Int) (b : Bool) : Int := if b then nt l else l
/-- A variable's literal. -/
def mkl (v : Int) (b : Bool) : Int := if b then 2 * v + 1 else 2 * v
/-- A formula's literal of a netlist's. -/
def sgn (l : Int) : Int := if odd l then -(l / 2) else l / 2
/-- A netlist's literal of a formula's. -/
def pln (s : Int) : Int := if s < 0 then mkl (-s) true else mkl s false

theorem xr_mkl (v : Int) (b : Bool) : xr (v * 2) b = mkl v b := by
  unfold xr mkl nt; cases b <;> simp <;> omega
theorem odd_iff (l : Int) : odd l = decide (l % 2 = 1) := by unfold odd; rw [Bool.eq_iff_iff]; simp
theorem mkl_not (l : Int) : mkl (l / 2) (!odd l) = nt l := by
  have h : l % 2 = 0 ∨ l % 2 = 1 := by omega
  unfold mkl nt; rw [odd_iff]; rcases h with h | h <;> simp [h] <;> omega
theorem mkl_back (l : Int) : mkl (l / 2) (odd l) = l := by
  have h : l % 2 = 0 ∨ l % 2 = 1 := by omega
  unfold mkl; rw [odd_iff]; rcases h with h | h <;> simp [h] <;> omega
theorem nt_nt (l : Int) : nt (nt l) = l := by unfold nt; omega
theorem nt_ne (l : Int) : nt l ≠ l := by unfold nt; omega
theorem nt_lo (l : Int) (h : 0 ≤ l) : 0 ≤ nt l := by unfold nt; omega
theorem nt_hi (l : Int) (h : l ≤ 2305843009213693952) : nt l ≤ 2305843009213693953 := by unfold nt; omega
theorem sgn_lo (l : Int) (h0 : 0 ≤ l) (h : l ≤ 2305843009213693953) : -1152921504606846976 ≤ sgn l := by
  unfold sgn; split <;> omega
theorem sgn_hi (l : Int) (h0 : 0 ≤ l) (h : l ≤ 2305843009213693953) : sgn l ≤ 1152921504606846976 := by
  unfold sgn; split <;> omega
theorem pln_lo (s : Int) : 0 ≤ pln s := by unfold pln mkl; split <;> simp <;> omega
theorem pln_hi (s : Int) (h0 : -1152921504606846976 ≤ s) (h : s ≤ 1152921504606846976) : pln s ≤ 2305843009213693953 := by
  unfold pln mkl; split <;> simp <;> omega
theorem sgn_even (l : Int) (h : l % 2 = 0) : sgn l = l / 2 := by
  unfold sgn; rw [odd_iff, if_neg (by rw [decide_eq_true_iff]; omega)]
theorem sgn_odd (l : Int) (h : l % 2 = 1) : sgn l = -(l / 2) := by
  unfold sgn; rw [odd_iff, if_pos (by rw [decide_eq_true_iff]; omega)]
theorem pln_neg (s : Int) (h : s < 0) : pln s = 2 * -s + 1 := by
  unfold pln mkl; rw [if_pos h, if_pos rfl]
theorem pln_pos (s : Int) (h : ¬ s < 0) : pln s = 2 * s := by
  unfold pln mkl; rw [if_neg h, if_neg Bool.false_ne_true]
theorem pln_sgn (l : Int) (h : 2 ≤ l) : pln (sgn l) = l := by
  have hp : l % 2 = 0 ∨ l % 2 = 1 := by omega
  rcases hp with hp | hp
  · rw [sgn_even l hp, pln_pos _ (by omega)]; omega
  · rw [sgn_odd l hp, pln_neg _ (by omega)]; omega
theorem sgn_pln (s : Int) : sgn (pln s) = s := by
  by_cases h : s < 0
  · rw [pln_neg s h, sgn_odd _ (by omega)]; omega
  · rw [pln_pos s h, sgn_even _ (by omega)]; omega
theorem sgn_nt (l : Int) : sgn (nt l) = -sgn l := by
  have hp : l % 2 = 0 ∨ l % 2 = 1 := by omega
  unfold sgn; rw [odd_iff, odd_iff]
  rcases hp with hp | hp
  · rw [if_pos (by rw [decide_eq_true_iff]; unfold nt; omega), if_neg (by rw [decide_eq_true_iff]; omega)]; unfold nt; omega
  · rw [if_neg (by rw [decide_eq_true_iff]; unfold nt; omega), if_pos (by rw [decide_eq_true_iff]; omega)]; unfold nt; omega

end Go.Proofs.Ytchnpooijaalnaa
