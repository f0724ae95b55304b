/- Contracts of Byte and Peek, of isDigit and above, and of all at a nil reader (conditions: the reader's row lies in memory, and what is left can be read). -/
import Derived.Test.YtffidpbhlfbmhaaScan
namespace Go.Proofs.Ytffidpbhlfbmhaa
open Go.ChangeShapes Go.WideShapes Go.RowKit
set_option linter.unusedVariables false

theorem Rd.head {w : World} {r i : Nat} {x : Int} {l : List Int} (h : Rd w r (x :: l) i) :
    ∃ b o c, w.cell? ⟨r, 0, none⟩ = some (.slice (some ⟨b, o, none⟩) (l.length + 1) c) ∧ w.cell? ⟨r, 1, none⟩ = some (.int .i64 i) ∧ w.cell? ⟨b, o, none⟩ = some (.int .u8 x) := by
  obtain ⟨a, c, h1, h2, h3, h4, h5, h6⟩ := h
  obtain ⟨b, o, rfl, hb, hb2, hc⟩ := h6 (by simp)
  exact ⟨b, o, c, by rw [cell_of_row _ _ _ _ _ _ h1]; rfl, by rw [cell_of_row _ _ _ _ _ _ h1]; rfl, hc 0 (by simp)⟩

theorem nil_byte (w : World) : Calls Try.prog 12 #[.pointer none] w fun e w' => e = .returned (.tuple #[.int .u8 0, .bool false]) ∧ w = w' := by
  go_enter Try.func12, Try.ntmps12
  go_wp2_with (first | (go_at_call 10; refine (nil_left _).mono ?_; rintro e w' ⟨rfl, rfl⟩))
  go_ret2
  exact ⟨rfl, rfl⟩

theorem byte_none (r i : Nat) (w : World) (h : Rd w r [] i) : Calls Try.prog 12 #[.pointer (some ⟨r, 0, none⟩)] w fun e w' => e = .returned (.tuple #[.int .u8 0, .bool false]) ∧ w = w' := by
  have h1 := Lib.hid (left_any r [] i w h)
  go_enter Try.func12, Try.ntmps12
  go_wp2_with (first | (go_at_call 10; refine (h1.out).mono ?_; rintro e w' ⟨rfl, rfl⟩))
  go_ret2
  exact ⟨rfl, rfl⟩

theorem byte_some (r i : Nat) (x : Int) (l : List Int) (w : World) (h : Rd w r (x :: l) i) (hi : i + 1 ≤ 1000000) : Calls Try.prog 12 #[.pointer (some ⟨r, 0, none⟩)] w fun e w' => e = .returned (.tuple #[.int .u8 x, .bool true]) ∧ Rd w' r l (i + 1) ∧ Only r w w' := by
  obtain ⟨b, o, c, k0, k1, kb⟩ := h.head
  have h1 := Lib.hid (left_any r (x :: l) i w h)
  have h2 := Lib.hid (skip_any r 1 (x :: l) i w h (by simp) hi)
  have hn : (0 : Int) ≤ (l.length : Int) := by omega
  go_enter Try.func12, Try.ntmps12
  go_wp2_with (first | (go_at_call 10; refine (h1.out).mono ?_; rintro e w' ⟨rfl, rfl⟩; simp only [List.length_cons]) | (go_at_call 20; refine (h2.out).mono ?_; rintro e w' ⟨rfl, hR, hO⟩; have HR := Lib.hid (And.intro hR hO); clear hR hO))
  go_ret2
  exact ⟨rfl, HR.out.1, HR.out.2⟩

/-- What Peek answers. -/
def peek : List Int → Int
  | [] => -1
  | x :: _ => x

theorem nil_peek (w : World) : Calls Try.prog 15 #[.pointer none] w fun e w' => e = .returned (.int .i64 (-1)) ∧ w = w' := by
  go_enter Try.func15, Try.ntmps15
  go_wp2_with (first | (go_at_call 10; refine (nil_left _).mono ?_; rintro e w' ⟨rfl, rfl⟩))
  go_ret
  exact ⟨rfl, rfl⟩

theorem peek_any (r i : Nat) (l : List Int) (w : World) (h : Rd w r l i) (hb : ∀ x ∈ l, 0 ≤ x ∧ x < 256) : Calls Try.prog 15 #[.pointer (some ⟨r, 0, none⟩)] w fun e w' => e = .returned (.int .i64 (peek l)) ∧ w = w' := by
  have h1 := Lib.hid (left_any r l i w h)
  cases l with
  | nil =>
    go_enter Try.func15, Try.ntmps15
    go_wp2_with (first | (go_at_call 10; refine (h1.out).mono ?_; rintro e w' ⟨rfl, rfl⟩; simp only [List.length_nil]))
    go_ret
    exact ⟨rfl, rfl⟩
  | cons x l =>
    obtain ⟨b, o, c, k0, k1, kb⟩ := h.head
    have hn : (0 : Int) ≤ (l.length : Int) := by omega
    have hx := hb x (by simp)
    have x0 := hx.1
    have x1 := hx.2
    clear hb hx h
    go_enter Try.func15, Try.ntmps15
    go_wp2_with (first | (go_at_call 10; refine (h1.out).mono ?_; rintro e w' ⟨rfl, rfl⟩; simp only [List.length_cons]))
    go_ret
    exact ⟨rfl, rfl⟩

/-- Is the byte a digit? -/
def isDig (x : Int) : Bool := decide (48 ≤ x) && decide (x ≤ 57)

theorem isDigit_any (x : Int) (w : World) : Calls Try.prog 21 #[.int .u8 x] w fun e w' => e = .returned (.bool (isDig x)) ∧ w = w' := by
  by_cases h1 : 48 ≤ x
  all_goals
    go_enter Try.func21, Try.ntmps21
    go_wp2
    go_ret
    exact ⟨by first | (simp [isDig, h1]; done) | (simp [isDig]; omega), rfl⟩

/-- Does one digit more, d behind the number v, come to more than 'most'? -/
def big (v d most : Int) : Bool := decide (most < d) || decide ((most - d) / 10 < v)

theorem above_any (v d most : Int) (hd0 : 0 ≤ d) (hd : d ≤ 9) (hm : -9223372036854775808 ≤ most) (hm2 : most < 9223372036854775808) (w : World) : Calls Try.prog 22 #[.int .i64 v, .int .i64 d, .int .i64 most] w fun e w' => e = .returned (.bool (big v d most)) ∧ w = w' := by
  by_cases h1 : most < d
  all_goals
    go_enter Try.func22, Try.ntmps22
    go_wp2
    go_ret
    exact ⟨by first | (simp [big, h1]; done) | (simp [big]; omega), rfl⟩
end Go.Proofs.Ytffidpbhlfbmhaa
