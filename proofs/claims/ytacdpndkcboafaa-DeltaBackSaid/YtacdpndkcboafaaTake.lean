/- The contract of Take: what 'takeA' says of the bytes, and the world as it was (conditions: the slice reads as the bytes, at most 1000 of them; the two numbers are int64). -/
import Derived.Test.YtacdpndkcboafaaBytes
namespace Go.Proofs.Ytacdpndkcboafaa
open Go.ChangeShapes Go.WideShapes Go.RowKit
set_option linter.unusedVariables false

/-- Three numbers as a result. -/
def three (p : Int × Int × Int) : Value := .tuple #[.int .i64 p.1, .int .i64 p.2.1, .int .i64 p.2.2]

theorem take_low (a : Option Addr) (n c : Nat) (at_ most : Int) (w : World) (h : at_ < 0) : Calls Try.prog 13 #[.slice a n c, .int .i64 at_, .int .i64 most] w fun e w' => e = .returned (three (0, 0, 1)) ∧ w = w' := by
  go_enter Try.func13, Try.ntmps13
  go_wp2_with fail
  go_step3
  go_wp2_with fail
  try rw [Exit.noGoto_ret]
  go_ret3
  exact ⟨rfl, rfl⟩
theorem take_high (a : Option Addr) (n c : Nat) (at_ most : Int) (w : World) (h0 : 0 ≤ at_) (h : (n : Int) < at_) : Calls Try.prog 13 #[.slice a n c, .int .i64 at_, .int .i64 most] w fun e w' => e = .returned (three (0, 0, 1)) ∧ w = w' := by
  go_enter Try.func13, Try.ntmps13
  go_wp2_with fail
  go_step3
  go_wp2_with fail
  try rw [Exit.noGoto_ret]
  go_ret3
  exact ⟨rfl, rfl⟩

theorem tk_nil (most : Int) (a m i n : Nat) : tk most a (m + 1) i n [] = (0, 0, 12) := rfl
theorem tk_last (most : Int) (a m i n c : Nat) (l : List Int) (h : c < 128) (hb : (c = 0 ∧ 0 < i) ∨ most < ((n + c * pw i : Nat) : Int)) : tk most a (m + 1) i n ((c : Int) :: l) = (0, 0, 4) := by
  unfold tk
  rw [if_pos (by omega), Int.toNat_natCast, if_pos (by rcases hb with hb | hb; exact .inl (by omega); exact .inr hb)]
theorem tk_good (most : Int) (a m i n c : Nat) (l : List Int) (h : c < 128) (hb : ¬ (c = 0 ∧ 0 < i)) (hb2 : ¬ most < ((n + c * pw i : Nat) : Int)) : tk most a (m + 1) i n ((c : Int) :: l) = (((n + c * pw i : Nat) : Int), ((a + i + 1 : Nat) : Int), 0) := by
  unfold tk
  rw [if_pos (by omega), Int.toNat_natCast, if_neg (by rintro (h3 | h3); exact hb (by omega); exact hb2 h3)]
theorem tk_more (most : Int) (a m i n c : Nat) (l : List Int) (h : 128 ≤ c) : tk most a (m + 1) i n ((c : Int) :: l) = tk most a m (i + 1) (n + (c - 128) * pw i) l := by
  rw [tk, if_neg (by omega), Int.toNat_natCast]

theorem drop_at (l : List Int) (k : Nat) (h : k < l.length) : l.drop k = l.getD k 0 :: l.drop (k + 1) := by
  rw [List.drop_eq_getElem_cons h]
  simp [List.getD, List.getElem?_eq_getElem h]

theorem shift_group (x k : Nat) (h : x * pw k < 9223372036854775808) : wrap64 ((x : Int) * 2 ^ (7 * k)) = ((x * pw k : Nat) : Int) := by
  have e : (x : Int) * 2 ^ (7 * k) = ((x * pw k : Nat) : Int) := by rw [pw_two]; simp
  rw [e]
  unfold wrap64; omega

set_option maxRecDepth 20000 in
set_option maxHeartbeats 1000000 in
theorem take_in (A : Option Addr) (c : Nat) (l : List Int) (k0 : Nat) (most : Int) (w : World) (B : Nat) (hs : Src w B A l) (hc : l.length ≤ c) (hl : l.length ≤ 1000) (hb : ∀ x ∈ l, 0 ≤ x ∧ x < 256) (hk0 : k0 ≤ l.length) :
    Calls Try.prog 13 #[.slice A l.length c, .int .i64 (k0 : Int), .int .i64 most] w fun e w' => e = .returned (three (takeA l (k0 : Int) most)) ∧ w = w' := by
  have rt0 := fun W : World => run_tail W A l.length c k0 hk0
  have hs0 := hs.tail hc k0
  have HT : Hid (takeA l (k0 : Int) most = tk most k0 9 0 0 (l.drop k0)) := Lib.hid (takeA_at hk0)
  have hLl : l.length - k0 = (l.drop k0).length := by rw [List.length_drop]
  have hb0 : ∀ x ∈ l.drop k0, 0 ≤ x ∧ x < 256 := fun x hx => hb x (List.mem_of_mem_drop hx)
  rw [hLl] at rt0
  have hL1 : (l.drop k0).length + k0 ≤ 1000 := by rw [List.length_drop]; omega
  have hkI : (k0 : Int) ≤ (l.length : Int) := by omega
  have hk0I : (0 : Int) ≤ (k0 : Int) := by omega
  clear hs hb hLl
  generalize l.drop k0 = L at *
  generalize taddr A c k0 = T at *
  generalize c - k0 = C at *
  have HS := Lib.hid hs0
  have HB := Lib.hid hb0
  clear hs0 hb0
  go_enter Try.func13, Try.ntmps13
  go_wp2_with fail
  go_step3
  go_wp2_with fail
  go_step3
  go_wp2_with fail
  go_loopg [10, 11, 24] 8 (fun m s10 s11 s24 wx => ∃ k acc : Nat, k + m = 8 ∧ k ≤ L.length ∧ s10 = .int .i64 (acc : Int) ∧ s11 = .int .i64 (k : Int) ∧ s24 = .int .i64 (k : Int) ∧ acc < pw k ∧ Aside (tk most k0 (m + 1) k acc (L.drop k) = tk most k0 9 0 0 L) ∧ w = wx)
  case atStart => exact ⟨0, 0, rfl, by omega, rfl, rfl, rfl, by decide, rfl, rfl⟩
  case round =>
    obtain ⟨k, acc, hk, hkl, rfl, rfl, rfl, hacc, HI0, rfl⟩ := hrel
    generalize gk = m at *
    have HI := Lib.hid HI0
    clear HI0
    have hkn : (0 : Int) ≤ (k : Int) := by omega
    have hk9 : (k : Int) < 9 := by omega
    by_cases hlt : k < L.length
    · have hxb := HB.out (L.getD k 0) (by rw [List.getD_eq_getElem?_getD, List.getElem?_eq_getElem hlt]; simp)
      obtain ⟨b, o, rfl, _, _, hcell⟩ := HS.out (by intro e; subst e; simp at hlt)
      have kx := hcell k hlt
      have HD := Lib.hid (drop_at L k hlt)
      clear hcell
      generalize L.getD k 0 = x at kx hxb HD
      obtain ⟨x, rfl⟩ := Int.eq_ofNat_of_zero_le hxb.1
      have hltI : (k : Int) < (L.length : Int) := by omega
      have hneI : ((k : Int) == (L.length : Int)) = false := by rw [beq_eq_false_iff_ne]; omega
      have hpw := pw_le k (by omega)
      have hpp := pw_pos k
      by_cases hx : x < 128
      · have hg := group_lt acc x k hacc hx
        have hg9 : acc + x * pw k < 9223372036854775808 := by
          have h1 : pw (k + 1) = pw k * 128 := rfl
          omega
        have k1 : bits .andNot .u8 (x : Int) 128 = (x : Int) := by rw [u8_andNot128 _ (by omega) (by omega)]; omega
        have k2 : bits .and .u8 (x : Int) 128 = 0 := u8_and128_lo _ (by omega) (by omega)
        have k3 : bits .or .i64 (acc : Int) (wrap64 ((x : Int) * 2 ^ (7 * k))) = ((acc + x * pw k : Nat) : Int) := by
          rw [shift_group x k (by omega), or_group acc x k hacc hg9]
        have HLa := Lib.hid (tk_last most k0 m k acc x (L.drop (k + 1)) hx)
        have HGo := Lib.hid (tk_good most k0 m k acc x (L.drop (k + 1)) hx)
        clear hg hpw hpp hacc
        generalize acc + x * pw k = z at *
        have hz0 : (0 : Int) ≤ (z : Int) := by omega
        by_cases hbad : (x = 0 ∧ 0 < k) ∨ most < (z : Int)
        · have HB2 := Lib.hid (HLa.out hbad)
          clear HLa HGo
          by_cases h0 : x = 0 ∧ 0 < k
          · obtain ⟨rfl, hkk⟩ := h0
            have hk1 : (0 : Int) < (k : Int) := by omega
            have hk2 : (1 : Int) < (k : Int) + 1 := by omega
            clear hbad
            go_wp2_with fail
            try rw [Exit.noGoto_ret]
            go_ret3
            exact ⟨by rw [HT.out, ← HI.out.out, HD.out, HB2.out]; rfl, rfl⟩
          · have hm : most < (z : Int) := by rcases hbad with h | h; exact absurd h h0; exact h
            have HN := Lib.hid h0
            clear hbad h0
            by_cases hkk : 0 < k
            · have hk1 : (0 : Int) < (k : Int) := by omega
              have hk2 : (1 : Int) < (k : Int) + 1 := by omega
              have hx0 : ((x : Int) == 0) = false := by rw [beq_eq_false_iff_ne]; have := HN.out; omega
              have hx1 : x ≠ 0 := by have := HN.out; omega
              go_wp2_with fail
              try rw [Exit.noGoto_ret]
              go_ret3
              exact ⟨by rw [HT.out, ← HI.out.out, HD.out, HB2.out]; rfl, rfl⟩
            · have hk2 : (k : Int) + 1 ≤ 1 := by omega
              go_wp2_with fail
              try rw [Exit.noGoto_ret]
              go_ret3
              exact ⟨by rw [HT.out, ← HI.out.out, HD.out, HB2.out]; rfl, rfl⟩
        · have hm : (z : Int) ≤ most := by omega
          have HB2 := Lib.hid (HGo.out (fun h => hbad (.inl h)) (fun h => hbad (.inr h)))
          have HN : Hid (¬ (x = 0 ∧ 0 < k)) := Lib.hid (fun h => hbad (.inl h))
          have HSum : Hid ((k0 : Int) + ((k : Int) + 1) = ((k0 + k + 1 : Nat) : Int)) := Lib.hid (by omega)
          clear hbad HLa HGo
          by_cases hkk : 0 < k
          · have hk1 : (0 : Int) < (k : Int) := by omega
            have hk2 : (1 : Int) < (k : Int) + 1 := by omega
            have hx0 : ((x : Int) == 0) = false := by rw [beq_eq_false_iff_ne]; have := HN.out; omega
            have hx1 : x ≠ 0 := by have := HN.out; omega
            go_wp2_with fail
            try rw [Exit.noGoto_ret]
            go_ret3
            exact ⟨by rw [HT.out, ← HI.out.out, HD.out, HB2.out]; rw [HSum.out]; rfl, rfl⟩
          · have hk2 : (k : Int) + 1 ≤ 1 := by omega
            go_wp2_with fail
            try rw [Exit.noGoto_ret]
            go_ret3
            exact ⟨by rw [HT.out, ← HI.out.out, HD.out, HB2.out]; rw [HSum.out]; rfl, rfl⟩
      · have hg := group_lt acc (x - 128) k hacc (by omega)
        have hg9 : acc + (x - 128) * pw k < 9223372036854775808 := by
          have h1 : pw (k + 1) = pw k * 128 := rfl
          omega
        have k1 : bits .andNot .u8 (x : Int) 128 = ((x - 128 : Nat) : Int) := by rw [u8_andNot128 _ (by omega) (by omega)]; omega
        have k2 : bits .and .u8 (x : Int) 128 = 128 := u8_and128_hi _ (by omega) (by omega)
        have HM := Lib.hid (tk_more most k0 m k acc x (L.drop (k + 1)) (by omega))
        have HG := Lib.hid hg
        clear hg
        have hy : x - 128 < 128 := by omega
        have hy0 : (0 : Int) ≤ ((x - 128 : Nat) : Int) := by omega
        have hy1 : ((x - 128 : Nat) : Int) < 128 := by omega
        have k3 : bits .or .i64 (acc : Int) (wrap64 (((x - 128 : Nat) : Int) * 2 ^ (7 * k))) = ((acc + (x - 128) * pw k : Nat) : Int) := by
          rw [shift_group (x - 128) k (by omega), or_group acc (x - 128) k hacc hg9]
        clear hacc hpw hpp
        generalize x - 128 = y at *
        generalize acc + y * pw k = z at *
        by_cases h8 : k = 8
        · subst h8
          obtain rfl : m = 0 := by omega
          have h9 : ((8 : Nat) : Int) + 1 = 9 := by omega
          go_wp2_with fail
          try rw [Exit.noGoto_ret]
          go_ret3
          exact ⟨by rw [HT.out, ← HI.out.out, HD.out, HM.out]; rfl, rfl⟩
        · have h9 : (((k : Nat) : Int) + 1 == 9) = false := by rw [beq_eq_false_iff_ne]; omega
          go_wp2_with fail
          go_roundg (m - 1)
          case measure => omega
          case rel => exact ⟨k + 1, z, by omega, by omega, rfl, by first | rfl | simp, by first | rfl | simp, HG.out, by show _ = _; rw [← HI.out.out, HD.out, HM.out, show m - 1 + 1 = m by omega], rfl⟩
    · obtain rfl : k = L.length := by omega
      have HD : Hid (L.drop L.length = []) := Lib.hid (List.drop_eq_nil_of_le (Nat.le_refl _))
      have HB2 := Lib.hid (tk_nil most k0 m L.length acc)
      clear hlt
      go_wp2_with fail
      try rw [Exit.noGoto_ret]
      go_ret3
      exact ⟨by rw [HT.out, ← HI.out.out, HD.out, HB2.out]; rfl, rfl⟩

theorem take_any (A : Option Addr) (c : Nat) (l : List Int) (at_ most : Int) (w : World) (B : Nat) (hs : Src w B A l) (hc : l.length ≤ c) (hl : l.length ≤ 1000) (hb : ∀ x ∈ l, 0 ≤ x ∧ x < 256) :
    Calls Try.prog 13 #[.slice A l.length c, .int .i64 at_, .int .i64 most] w fun e w' => e = .returned (three (takeA l at_ most)) ∧ w = w' := by
  rcases Int.lt_or_le at_ 0 with h0 | h0
  · rw [takeA_bad (.inl h0)]; exact take_low A _ c at_ most w h0
  · rcases Int.lt_or_le (l.length : Int) at_ with h1 | h1
    · rw [takeA_bad (.inr h1)]; exact take_high A _ c at_ most w h0 h1
    · obtain ⟨k, rfl⟩ := Int.eq_ofNat_of_zero_le h0
      exact take_in A c l k most w B hs hc hl hb (by omega)
end Go.Proofs.Ytacdpndkcboafaa
