/- The contract of Take by definition: what 'takeA' says of the bytes, and the world as it was (conditions: the slice reads as the bytes, at most 1000 of them). -/
import Derived.Test.YtacdpndkcboafaaTake
namespace Go.Proofs.Ytacdpndkcboafaa
open Go.ChangeShapes Go.WideShapes Go.RowKit
set_option linter.unusedVariables false

theorem ret3 {a b c a' b' c' : Int} (h1 : a = a') (h2 : b = b') (h3 : c = c') : Ending.returned (.tuple #[.int .i64 a, .int .i64 b, .int .i64 c]) = .returned (three (a', b', c')) := by
  subst h1 h2 h3; rfl

theorem pw_le7 (i : Nat) (hi : i ≤ 7) : pw i ≤ 562949953421312 := by
  have h : i = 0 ∨ i = 1 ∨ i = 2 ∨ i = 3 ∨ i = 4 ∨ i = 5 ∨ i = 6 ∨ i = 7 := by omega
  rcases h with rfl | rfl | rfl | rfl | rfl | rfl | rfl | rfl <;> decide

theorem rtake_low (a : Option Addr) (n c : Nat) (at_ most : Int) (w : World) (h : at_ < 0) : Calls Try.prog 14 #[.slice a n c, .int .i64 at_, .int .i64 most] w fun e w' => e = .returned (three (0, 0, 1)) ∧ w = w' := by
  go_enter Try.func14, Try.ntmps14
  go_wp2_with fail
  go_ret3
  exact ⟨rfl, rfl⟩
theorem rtake_high (a : Option Addr) (n c : Nat) (at_ most : Int) (w : World) (h0 : 0 ≤ at_) (h : (n : Int) < at_) : Calls Try.prog 14 #[.slice a n c, .int .i64 at_, .int .i64 most] w fun e w' => e = .returned (three (0, 0, 1)) ∧ w = w' := by
  go_enter Try.func14, Try.ntmps14
  go_wp2_with fail
  go_ret3
  exact ⟨rfl, rfl⟩

set_option maxRecDepth 20000 in
set_option maxHeartbeats 1000000 in
theorem rtake_in (A : Option Addr) (c : Nat) (l : List Int) (k0 : Nat) (most : Int) (w : World) (B : Nat) (hs : Src w B A l) (hc : l.length ≤ c) (hl : l.length ≤ 1000) (hb : ∀ x ∈ l, 0 ≤ x ∧ x < 256) (hk0 : k0 ≤ l.length) :
    Calls Try.prog 14 #[.slice A l.length c, .int .i64 (k0 : Int), .int .i64 most] w fun e w' => e = .returned (three (takeA l (k0 : Int) most)) ∧ w = w' := by
  have HT : Hid (takeA l (k0 : Int) most = tk most k0 9 0 0 (l.drop k0)) := Lib.hid (takeA_at hk0)
  have hkI : (k0 : Int) ≤ (l.length : Int) := by omega
  have hk0I : (0 : Int) ≤ (k0 : Int) := by omega
  have HS := Lib.hid hs
  have HB := Lib.hid hb
  clear hs hb
  have hdec : decide (l.length < k0) = false := decide_eq_false (by omega)
  have hdez : decide ((k0 : Int) < 0) = false := decide_eq_false (by omega)
  go_enter Try.func14, Try.ntmps14
  go_wp2_with fail
  go_loopg [9, 10, 11] 9 (fun m s9 s10 s11 wx => ∃ k acc P : Nat, k + m = 9 ∧ s9 = .int .i64 (acc : Int) ∧ s10 = .int .i64 (P : Int) ∧ s11 = .int .i64 (k : Int) ∧ acc < pw k ∧ Aside (P = pw (min k 8)) ∧ Aside (tk most k0 m k acc (l.drop (k0 + k)) = tk most k0 9 0 0 (l.drop k0)) ∧ w = wx)
  case atStart => exact ⟨0, 0, 1, rfl, rfl, rfl, rfl, by decide, rfl, rfl, rfl⟩
  case round =>
    obtain ⟨k, acc, P, hk, rfl, rfl, rfl, hacc, HP0, HI0, rfl⟩ := hrel
    generalize gk = m at *
    have HI := Lib.hid HI0
    have HP := Lib.hid HP0
    clear HI0 HP0
    have hkn : (0 : Int) ≤ (k : Int) := by omega
    by_cases hk9 : k = 9
    · obtain rfl : m = 0 := by omega
      have hk9I : ¬ ((k : Int) < 9) := by omega
      have HZ : Hid (tk most k0 0 k acc (l.drop (k0 + k)) = (0, 0, 4)) := Lib.hid rfl
      clear hk9
      go_wp2_with fail
      go_ret3
      exact ⟨by rw [HT.out, ← HI.out.out, HZ.out]; rfl, rfl⟩
    have hk8 : k ≤ 8 := by omega
    have hk9I : (k : Int) < 9 := by omega
    have HP2 : Hid (P = pw k) := Lib.hid (by rw [HP.out.out, show min k 8 = k by omega])
    obtain ⟨m, rfl⟩ : ∃ m', m = m' + 1 := ⟨m - 1, by omega⟩
    clear hk9
    by_cases hlt : k0 + k < l.length
    · have hxb := HB.out (l.getD (k0 + k) 0) (by rw [List.getD_eq_getElem?_getD, List.getElem?_eq_getElem hlt]; simp)
      obtain ⟨b, o, rfl, _, _, hcell⟩ := HS.out (by intro e; subst e; simp at hlt)
      have kx := hcell (k0 + k) hlt
      have HD := Lib.hid (drop_at l (k0 + k) hlt)
      clear hcell
      generalize l.getD (k0 + k) 0 = x at kx hxb HD
      obtain ⟨x, rfl⟩ := Int.eq_ofNat_of_zero_le hxb.1
      have hx0 := hxb.1
      have hx1 := hxb.2
      have hltI : (k0 : Int) + (k : Int) < (l.length : Int) := by omega
      have hpw := pw_le k (by omega)
      have hpp := pw_pos k
      have hd : x % 128 < 128 := by omega
      have hdx : Hid (x % 128 = if x < 128 then x else x - 128) := Lib.hid (by split <;> omega)
      have hg := group_lt acc (x % 128) k hacc hd
      have hg9 : acc + x % 128 * pw k < 9223372036854775808 := by
        have h1 : pw (k + 1) = pw k * 128 := rfl
        omega
      have HG := Lib.hid hg
      have k1 : (x : Int) % 128 = ((x % 128 : Nat) : Int) := by omega
      have k2 : ((x % 128 : Nat) : Int) * (P : Int) = ((x % 128 * pw k : Nat) : Int) := by rw [HP2.out]; simp
      have hP1 : P ≤ 72057594037927936 := by rw [HP2.out]; exact hpw
      have HLa := Lib.hid (tk_last most k0 m k acc x (l.drop (k0 + k + 1)))
      have HGo := Lib.hid (tk_good most k0 m k acc x (l.drop (k0 + k + 1)))
      have HM := Lib.hid (tk_more most k0 m k acc x (l.drop (k0 + k + 1)))
      by_cases hx : x < 128
      · have hxI : (x : Int) < 128 := by omega
        rw [show x % 128 = x by omega] at k1 k2 hg9
        clear hg hpw hpp hacc HM HG hdx hd
        generalize x * pw k = q at *
        have hq0 : (0 : Int) ≤ (q : Int) := by omega
        go_wp2_with fail
        all_goals
          go_ret3
          rw [HT.out, ← HI.out.out, HD.out]
          first
            | (rw [HLa.out hx (by omega)]; exact ⟨ret3 rfl rfl rfl, rfl⟩)
            | (rw [HGo.out hx (by omega) (by omega)]; exact ⟨ret3 (by omega) (by omega) rfl, rfl⟩)
      · have hxI : ¬ ((x : Int) < 128) := by omega
        rw [show x % 128 = x - 128 by omega] at k1 k2 hg9
        have HM2 := Lib.hid (HM.out (by omega))
        have HG2 : Hid (acc + (x - 128) * pw k < pw (k + 1)) := Lib.hid (by have := HG.out; rw [show x % 128 = x - 128 by omega] at this; exact this)
        clear hg hpw hpp hacc HLa HGo HG HM hdx hd
        have hy0 : (0 : Int) ≤ ((x - 128 : Nat) : Int) := by omega
        generalize x - 128 = y at *
        generalize y * pw k = q at *
        have hq0 : (0 : Int) ≤ (q : Int) := by omega
        by_cases h8 : k < 8
        · have h8I : (k : Int) < 8 := by omega
          have hP7 : P ≤ 562949953421312 := by rw [HP2.out]; exact pw_le7 k (by omega)
          have HP3 : Hid (P * 128 = pw (min (k + 1) 8)) := Lib.hid (by rw [HP2.out, show min (k + 1) 8 = k + 1 by omega]; rfl)
          go_wp2_with fail
          go_roundg m
          case measure => omega
          case rel => exact ⟨k + 1, acc + q, P * 128, by omega, by first | rfl | simp, by first | rfl | simp, by first | rfl | simp, HG2.out, HP3.out, by show _ = _; rw [← HI.out.out, HD.out, HM2.out]; rfl, rfl⟩
        · have h8I : ¬ ((k : Int) < 8) := by omega
          have HP3 : Hid (P = pw (min (k + 1) 8)) := Lib.hid (by rw [HP2.out, show min (k + 1) 8 = k by omega])
          go_wp2_with fail
          go_roundg m
          case measure => omega
          case rel => exact ⟨k + 1, acc + q, P, by omega, by first | rfl | simp, by first | rfl | simp, by first | rfl | simp, HG2.out, HP3.out, by show _ = _; rw [← HI.out.out, HD.out, HM2.out]; rfl, rfl⟩
    · have hgeI : ¬ ((k0 : Int) + (k : Int) < (l.length : Int)) := by omega
      have hgeJ : (l.length : Int) ≤ (k0 : Int) + (k : Int) := by omega
      have HD : Hid (l.drop (k0 + k) = []) := Lib.hid (List.drop_eq_nil_of_le (by omega))
      have HB2 := Lib.hid (tk_nil most k0 m k acc)
      clear hlt
      go_wp2_with fail
      go_ret3
      exact ⟨by rw [HT.out, ← HI.out.out, HD.out, HB2.out]; rfl, rfl⟩

theorem rtake_any (A : Option Addr) (c : Nat) (l : List Int) (at_ most : Int) (w : World) (B : Nat) (hs : Src w B A l) (hc : l.length ≤ c) (hl : l.length ≤ 1000) (hb : ∀ x ∈ l, 0 ≤ x ∧ x < 256) :
    Calls Try.prog 14 #[.slice A l.length c, .int .i64 at_, .int .i64 most] w fun e w' => e = .returned (three (takeA l at_ most)) ∧ w = w' := by
  rcases Int.lt_or_le at_ 0 with h0 | h0
  · rw [takeA_bad (.inl h0)]; exact rtake_low A _ c at_ most w h0
  · rcases Int.lt_or_le (l.length : Int) at_ with h1 | h1
    · rw [takeA_bad (.inr h1)]; exact rtake_high A _ c at_ most w h0 h1
    · obtain ⟨k, rfl⟩ := Int.eq_ofNat_of_zero_le h0
      exact rtake_in A c l k most w B hs hc hl hb (by omega)
end Go.Proofs.Ytacdpndkcboafaa
