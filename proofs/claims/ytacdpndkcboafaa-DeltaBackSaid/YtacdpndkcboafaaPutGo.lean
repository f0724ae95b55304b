/- The contracts of Put, of the program and by definition: a row of the call's own that holds the number's bytes; none of a number below 0 (condition: the number is an int64). -/
import Derived.Test.YtacdpndkcboafaaRows
import Derived.Test.YtacdpndkcboafaaGroup
import Derived.WalkKit
import Derived.ProofKit
import Derived.OpenShut
import Derived.Below
import Derived.WalkLawsBesides
import Derived.Lib.Hide
import Derived.Lib.OwnBridge
import Derived.Outline
import Derived.Deep.LoopGhost
import Derived.Deep.AppendLies
import Derived.OwnWalk
namespace Go.Proofs.Ytacdpndkcboafaa
open Go.ChangeShapes Go.WideShapes Go.RowKit
set_option linter.unusedVariables false

theorem info_u8 : (Try.prog.info? 5).map (fun i => (i.zero, i.size, i.bytes)) = some (some (.int .u8 0), 1, 1) := by kernel_rfl

/-- A list of bytes of the call's own. -/
def Made (w : World) (s : List Int) (e : Ending) (w' : World) : Prop :=
  ∃ a c, e = .returned (.slice a s.length c) ∧ w'.ownsRow w.heap.size 5 1 (.slice a s.length c) s.length (s.map (Value.int .u8)) ∧ Below w.heap.size w w'

theorem own_slice {w : World} {b n : Nat} {e : TypeId} {v : Value} {s : List Int} (h : w.ownsRow b e 1 v n (s.map (Value.int .u8))) : ∃ a c, v = .slice a s.length c := by
  have hl : s.length = n := by simpa using h.1
  rcases h.2 with ⟨h1, h2⟩ | ⟨g, cap, cur, h1, _⟩
  · exact ⟨none, 0, by rw [h1, hl, h2]⟩
  · exact ⟨_, _, by rw [h1, hl]⟩

theorem put_neg (n : Int) (h : n < 0) (w : World) : Calls Try.prog 6 #[.int .i64 n] w fun e w' => e = .returned (.slice none 0 0) ∧ w = w' := by
  go_enter Try.func6, Try.ntmps6
  go_wp2
  go_ret
  exact ⟨rfl, rfl⟩

theorem rput_neg (n : Int) (h : n < 0) (w : World) : Calls Try.prog 7 #[.int .i64 n] w fun e w' => e = .returned (.slice none 0 0) ∧ w = w' := by
  go_enter Try.func7, Try.ntmps7
  go_wp2
  go_ret
  exact ⟨rfl, rfl⟩

set_option maxRecDepth 20000 in
theorem put_nat (m0 : Nat) (h : m0 < 9223372036854775808) (w : World) : Calls Try.prog 6 #[.int .i64 (m0 : Int)] w (Made w (put m0)) := by
  obtain ⟨i0, hi, hz0, hz1, hz2⟩ := info_parts info_u8
  have hm0 : (0 : Int) ≤ (m0 : Int) := by omega
  go_enter Try.func6, Try.ntmps6
  go_wp2_with fail
  go_loopg [0, 3] m0 (fun m s0 s3 wx => ∃ C : List Int, s0 = .int .i64 (m : Int) ∧ m < 9223372036854775808 ∧ Aside (C ++ put m = put m0) ∧ C.length ≤ 9 ∧ wx.ownsRow w.heap.size 5 1 s3 C.length (C.map (Value.int .u8)) ∧ Below w.heap.size w wx)
  case atStart => exact ⟨[], rfl, h, rfl, by simp, World.ownsRow_nil _ _ _ _, Below.refl _ _⟩
  case round =>
    obtain ⟨C, rfl, hml, HI, hCl, hrow, hbx⟩ := hrel
    generalize gk = m at *
    have hmn : (0 : Int) ≤ (m : Int) := by omega
    by_cases hlt : 128 ≤ m
    · have hltI : (128 : Int) ≤ (m : Int) := by omega
      have k1 : bits .and .i64 (m : Int) 127 = (m : Int) % 128 := i64_and127 _
      have k3 : bits .or .u8 ((m : Int) % 128) 128 = (m : Int) % 128 + 128 := u8_or128 _ (by omega) (by omega)
      have HP := Lib.hid (put_hi hlt)
      have HX : Hid ((C ++ [(m : Int) % 128 + 128]).length ≤ 9) := Lib.hid (by
        have h1 := congrArg List.length HI.out
        have h2 := put_len 9 m0 (by omega) (by rw [pw_nine]; omega)
        rw [put_hi hlt] at h1
        simp at h1 ⊢
        omega)
      go_wp2_with (first
        | (at_builtin; refine wpList_append_own _ rfl _ _ 22 rfl w.heap.size 5 i0 (.int .u8 0) 1 1 Try.underlying22 hi hz0 hz1 hz2 rfl (by decide) _ _ _ rfl (hrow.alloc _) ⟨wr.heap.size, 0, none⟩ 1 1 [.int .u8 ((m : Int) % 128 + 128)] rfl rfl ?c1 ?c2 ?c3 ?c4 ?c5 ?_))
      case c1 => exact World.news_of_block (cs := #[.int .u8 ((m : Int) % 128 + 128)]) (t := 5) (fr := (0, 0)) (heap_alloc_new wr _)
      case c2 => intro u hu; simp at hu; subst hu; rfl
      case c3 => unfold maxLen; omega
      case c4 => omega
      case c5 => have := hbx.size; simp; omega
      intro v3 w3 hown3 hgrow3 _
      have hbx3 : Below w.heap.size w w3 := (hbx.alloc hbx.size _).grown hgrow3 (by have := hbx.size; simp; omega) (fun k hk => (hrow.lt k hk).1)
      clear hrow hbx hgrow3 k1 k3
      go_wp2_with fail
      go_roundg (m / 128)
      case measure => omega
      case rel => exact ⟨C ++ [(m : Int) % 128 + 128], by first | rfl | simp, by omega, by show _ = _; rw [← HI.out, HP.out]; simp, HX.out, by simpa using hown3, hbx3⟩
    · have hltI : (m : Int) < 128 := by omega
      have HP := Lib.hid (put_lo (n := m) (by omega))
      go_wp2_with (first
        | (at_builtin; refine wpList_append_own _ rfl _ _ 22 rfl w.heap.size 5 i0 (.int .u8 0) 1 1 Try.underlying22 hi hz0 hz1 hz2 rfl (by decide) _ _ _ rfl (hrow.alloc _) ⟨wr.heap.size, 0, none⟩ 1 1 [.int .u8 (m : Int)] rfl rfl ?c1 ?c2 ?c3 ?c4 ?c5 ?_))
      case c1 => exact World.news_of_block (cs := #[.int .u8 (m : Int)]) (t := 5) (fr := (0, 0)) (heap_alloc_new wr _)
      case c2 => intro u hu; simp at hu; subst hu; rfl
      case c3 => unfold maxLen; omega
      case c4 => omega
      case c5 => have := hbx.size; simp; omega
      intro v3 w3 hown3 hgrow3 _
      have hbx3 : Below w.heap.size w w3 := (hbx.alloc hbx.size _).grown hgrow3 (by have := hbx.size; simp; omega) (fun k hk => (hrow.lt k hk).1)
      clear hrow hbx hgrow3
      go_wp2_with fail
      go_ret
      have he : C ++ [(m : Int)] = put m0 := by rw [← HI.out, HP.out]
      obtain ⟨a, c, rfl⟩ := own_slice (s := C ++ [(m : Int)]) (by simpa using hown3)
      rw [← he]
      exact ⟨a, c, rfl, by simpa using hown3, hbx3⟩
set_option maxRecDepth 20000 in
theorem rput_nat (m0 : Nat) (h : m0 < 9223372036854775808) (w : World) : Calls Try.prog 7 #[.int .i64 (m0 : Int)] w (Made w (put m0)) := by
  obtain ⟨i0, hi, hz0, hz1, hz2⟩ := info_parts info_u8
  have hm0 : (0 : Int) ≤ (m0 : Int) := by omega
  go_enter Try.func7, Try.ntmps7
  go_wp2_with fail
  go_loopg [0, 3] m0 (fun m s0 s3 wx => ∃ C : List Int, s0 = .int .i64 (m : Int) ∧ m < 9223372036854775808 ∧ Aside (C ++ put m = put m0) ∧ C.length ≤ 9 ∧ wx.ownsRow w.heap.size 5 1 s3 C.length (C.map (Value.int .u8)) ∧ Below w.heap.size w wx)
  case atStart => exact ⟨[], rfl, h, rfl, by simp, World.ownsRow_nil _ _ _ _, Below.refl _ _⟩
  case round =>
    obtain ⟨C, rfl, hml, HI, hCl, hrow, hbx⟩ := hrel
    generalize gk = m at *
    have hmn : (0 : Int) ≤ (m : Int) := by omega
    by_cases hlt : 128 ≤ m
    · have hltI : (128 : Int) ≤ (m : Int) := by omega
      have HP := Lib.hid (put_hi hlt)
      have HX : Hid ((C ++ [(m : Int) % 128 + 128]).length ≤ 9) := Lib.hid (by
        have h1 := congrArg List.length HI.out
        have h2 := put_len 9 m0 (by omega) (by rw [pw_nine]; omega)
        rw [put_hi hlt] at h1
        simp at h1 ⊢
        omega)
      go_wp2_with (first
        | (at_builtin; refine wpList_append_own _ rfl _ _ 22 rfl w.heap.size 5 i0 (.int .u8 0) 1 1 Try.underlying22 hi hz0 hz1 hz2 rfl (by decide) _ _ _ rfl (hrow.alloc _) ⟨wr.heap.size, 0, none⟩ 1 1 [.int .u8 ((m : Int) % 128 + 128)] rfl rfl ?c1 ?c2 ?c3 ?c4 ?c5 ?_))
      case c1 => exact World.news_of_block (cs := #[.int .u8 ((m : Int) % 128 + 128)]) (t := 5) (fr := (0, 0)) (heap_alloc_new wr _)
      case c2 => intro u hu; simp at hu; subst hu; rfl
      case c3 => unfold maxLen; omega
      case c4 => omega
      case c5 => have := hbx.size; simp; omega
      intro v3 w3 hown3 hgrow3 _
      have hbx3 : Below w.heap.size w w3 := (hbx.alloc hbx.size _).grown hgrow3 (by have := hbx.size; simp; omega) (fun k hk => (hrow.lt k hk).1)
      clear hrow hbx hgrow3
      go_wp2_with fail
      go_roundg (m / 128)
      case measure => omega
      case rel => exact ⟨C ++ [(m : Int) % 128 + 128], by first | rfl | simp, by omega, by show _ = _; rw [← HI.out, HP.out]; simp, HX.out, by simpa using hown3, hbx3⟩
    · have hltI : (m : Int) < 128 := by omega
      have HP := Lib.hid (put_lo (n := m) (by omega))
      go_wp2_with (first
        | (at_builtin; refine wpList_append_own _ rfl _ _ 22 rfl w.heap.size 5 i0 (.int .u8 0) 1 1 Try.underlying22 hi hz0 hz1 hz2 rfl (by decide) _ _ _ rfl (hrow.alloc _) ⟨wr.heap.size, 0, none⟩ 1 1 [.int .u8 (m : Int)] rfl rfl ?c1 ?c2 ?c3 ?c4 ?c5 ?_))
      case c1 => exact World.news_of_block (cs := #[.int .u8 (m : Int)]) (t := 5) (fr := (0, 0)) (heap_alloc_new wr _)
      case c2 => intro u hu; simp at hu; subst hu; rfl
      case c3 => unfold maxLen; omega
      case c4 => omega
      case c5 => have := hbx.size; simp; omega
      intro v3 w3 hown3 hgrow3 _
      have hbx3 : Below w.heap.size w w3 := (hbx.alloc hbx.size _).grown hgrow3 (by have := hbx.size; simp; omega) (fun k hk => (hrow.lt k hk).1)
      clear hrow hbx hgrow3
      go_wp2_with fail
      go_ret
      have he : C ++ [(m : Int)] = put m0 := by rw [← HI.out, HP.out]
      obtain ⟨a, c, rfl⟩ := own_slice (s := C ++ [(m : Int)]) (by simpa using hown3)
      rw [← he]
      exact ⟨a, c, rfl, by simpa using hown3, hbx3⟩

theorem made_nil (w : World) : Made w [] (.returned (.slice none 0 0)) w := ⟨none, 0, rfl, World.ownsRow_nil _ _ _ _, Below.refl _ _⟩

theorem put_any (n : Int) (h : n < 9223372036854775808) (w : World) : Calls Try.prog 6 #[.int .i64 n] w (Made w (puts n)) := by
  rcases Int.lt_or_le n 0 with h0 | h0
  · rw [puts_neg h0]
    refine (put_neg n h0 w).mono ?_
    rintro e w' ⟨rfl, rfl⟩
    exact made_nil w
  · obtain ⟨m, rfl⟩ := Int.eq_ofNat_of_zero_le h0
    have := put_nat m (by omega) w
    rw [← puts_nat] at this
    exact this
theorem rput_any (n : Int) (h : n < 9223372036854775808) (w : World) : Calls Try.prog 7 #[.int .i64 n] w (Made w (puts n)) := by
  rcases Int.lt_or_le n 0 with h0 | h0
  · rw [puts_neg h0]
    refine (rput_neg n h0 w).mono ?_
    rintro e w' ⟨rfl, rfl⟩
    exact made_nil w
  · obtain ⟨m, rfl⟩ := Int.eq_ofNat_of_zero_le h0
    have := rput_nat m (by omega) w
    rw [← puts_nat] at this
    exact this
end Go.Proofs.Ytacdpndkcboafaa
