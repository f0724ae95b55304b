/- The contracts of Pair, of the program and by definition: a row of the call's own that holds the gate's bytes, or Order (condition: the three numbers are int64). -/
import Derived.Test.YtacdpndkcboafaaRTake
import Derived.Maps.AppendAt
import Derived.RegionTactic
namespace Go.Proofs.Ytacdpndkcboafaa
open Go.ChangeShapes Go.WideShapes Go.RowKit
set_option linter.unusedVariables false

/-- What Pair leaves. -/
def Paired (w : World) (p : List Int × Int) (e : Ending) (w' : World) : Prop :=
  ∃ a c, e = .returned (.tuple #[.slice a p.1.length c, .int .i64 p.2]) ∧ w'.ownsRow w.heap.size 5 1 (.slice a p.1.length c) p.1.length (p.1.map (Value.int .u8)) ∧ Below w.heap.size w w'

theorem paired_bad {lhs a b : Int} (h : lhs ≤ a ∨ a < b ∨ b < 0) (w : World) : Paired w (pairA lhs a b) (.returned (.tuple #[.slice none 0 0, .int .i64 11])) w := by
  rw [pairA_bad h]
  exact ⟨none, 0, rfl, World.ownsRow_nil _ _ _ _, Below.refl _ _⟩

theorem pair_bad (lhs a b : Int) (h : lhs ≤ a ∨ a < b ∨ b < 0) (w : World) : Calls Try.prog 9 #[.int .i64 lhs, .int .i64 a, .int .i64 b] w (Paired w (pairA lhs a b)) := by
  have HB := Lib.hid (paired_bad h w)
  by_cases h1 : lhs ≤ a
  · clear h
    go_enter Try.func9, Try.ntmps9
    go_wp2
    go_ret2
    exact HB.out
  by_cases h2 : a < b
  · clear h
    have h1' : a < lhs := by omega
    go_enter Try.func9, Try.ntmps9
    go_wp2
    go_ret2
    exact HB.out
  have h1' : a < lhs := by omega
  have h2' : b ≤ a := by omega
  have h3 : b < 0 := by omega
  clear h
  go_enter Try.func9, Try.ntmps9
  go_wp2
  go_ret2
  exact HB.out

theorem rpair_bad (lhs a b : Int) (h : lhs ≤ a ∨ a < b ∨ b < 0) (w : World) : Calls Try.prog 10 #[.int .i64 lhs, .int .i64 a, .int .i64 b] w (Paired w (pairA lhs a b)) := by
  have HB := Lib.hid (paired_bad h w)
  by_cases h1 : b < 0
  · clear h
    go_enter Try.func10, Try.ntmps10
    go_wp2
    go_ret2
    exact HB.out
  by_cases h2 : a < b
  · clear h
    have h1' : 0 ≤ b := by omega
    go_enter Try.func10, Try.ntmps10
    go_wp2
    go_ret2
    exact HB.out
  have h1' : 0 ≤ b := by omega
  have h2' : b ≤ a := by omega
  have h3 : lhs ≤ a := by omega
  clear h
  go_enter Try.func10, Try.ntmps10
  go_wp2
  go_ret2
  exact HB.out

theorem own_below {w w' : World} {b n : Nat} {e : TypeId} {size : Nat} {v : Value} {xs : List Value} (h : w.ownsRow b e size v n xs) (hb : Below w.heap.size w w') : w'.ownsRow b e size v n xs := by
  refine ⟨h.1, ?_⟩
  rcases h.2 with h2 | ⟨g, cap, cur, h1, h2, h3, h4⟩
  · exact .inl h2
  · exact .inr ⟨g, cap, cur, h1, h2, (hb.block g (lt_of_row h3)).trans h3, h4⟩
theorem own_base {w : World} {b b' : Nat} {e : TypeId} {size n : Nat} {v : Value} {xs : List Value} (h : w.ownsRow b e size v n xs) (hb : b' ≤ b) : w.ownsRow b' e size v n xs := by
  refine ⟨h.1, ?_⟩
  rcases h.2 with h2 | ⟨g, cap, cur, h1, h2, h3⟩
  · exact .inl h2
  · exact .inr ⟨g, cap, cur, h1, by omega, h3⟩

/-- The new cells of an append, where they lie. -/
theorem news {w : World} {B : Nat} {b o : Nat} {l : List Int} (h : ∀ j, j < l.length → w.cell? ⟨b, o + j, none⟩ = some (.int .u8 (l.getD j 0))) : ∀ j u, (l.map (Value.int .u8))[j]? = some u → w.cell? ((⟨b, o, none⟩ : Addr).add j) = some u := by
  intro j u hu
  obtain ⟨y, hy, rfl⟩ : ∃ y, l[j]? = some y ∧ Value.int .u8 y = u := by simpa using hu
  have hj := (List.getElem?_eq_some_iff.1 hy).1
  rw [Addr.add_lit, h j hj]
  simp [List.getD, hy]

set_option maxRecDepth 20000 in
theorem rpair_ok (lhs a b : Int) (h1 : a < lhs) (h2 : b ≤ a) (h3 : 0 ≤ b) (h4 : lhs < 9223372036854775808) (w : World) : Calls Try.prog 10 #[.int .i64 lhs, .int .i64 a, .int .i64 b] w (Paired w (pairA lhs a b)) := by
  obtain ⟨i0, hi, hz0, hz1, hz2⟩ := info_parts info_u8
  have hA : Hid (pairA lhs a b = (puts (lhs - a) ++ puts (a - b), 0)) := Lib.hid (pairA_ok (by omega))
  have hp := Lib.hid (rput_any (lhs - a) (by omega))
  have hq := Lib.hid (rput_any (a - b) (by omega))
  have l1 := puts_len (lhs - a) (by omega)
  have l2 := puts_len (a - b) (by omega)
  have l3 := puts_pos (a - b) (by omega)
  generalize puts (lhs - a) = P at *
  generalize puts (a - b) = Q at *
  go_enter Try.func10, Try.ntmps10
  go_wp2_with fail
  refine (hp.out _).mono ?_
  rintro e w1 ⟨a1, c1, rfl, hown1, hb1⟩
  have X1 := Lib.hid (And.intro hown1 hb1)
  clear hown1 hb1
  go_wp2_with fail
  refine (hq.out _).mono ?_
  rintro e w2 ⟨a2, c2, rfl, hown2, hb2⟩
  obtain ⟨b2, o2, rfl, _, _, hcell⟩ := (src_own hown2).1 (by intro e; rw [e] at l3; simp at l3)
  have hrow := own_below X1.out.1 hb2
  have hbx := X1.out.2.trans (hb2.mono X1.out.2.size)
  have hnews := news (B := 0) hcell
  clear hown2 hb2 hcell
  go_wp2_with (first
    | (at_builtin; refine wpList_append_own _ rfl _ _ 22 rfl w.heap.size 5 i0 (.int .u8 0) 1 1 Try.underlying22 hi hz0 hz1 hz2 rfl (by decide) _ _ _ rfl hrow ⟨b2, o2, none⟩ Q.length c2 (Q.map (Value.int .u8)) rfl (by simp) hnews ?c2 ?c3 ?c4 ?c5 ?_))
  case c2 => intro u hu; obtain ⟨x, _, rfl⟩ := List.mem_map.1 hu; rfl
  case c3 => unfold maxLen; omega
  case c4 => omega
  case c5 => exact hbx.size
  intro v3 w3 hown3 hgrow3 _
  have hbx3 : Below w.heap.size w w3 := hbx.grown hgrow3 hbx.size (fun k hk => (hrow.lt k hk).1)
  clear hrow hbx hgrow3 hnews
  go_wp2_with fail
  go_ret2
  rw [hA.out]
  have hown4 : w3.ownsRow w.heap.size 5 1 v3 (P ++ Q).length ((P ++ Q).map (Value.int .u8)) := by rw [List.length_append, List.map_append]; exact hown3
  obtain ⟨a3, c3, rfl⟩ := own_slice hown4
  exact ⟨a3, c3, rfl, hown4, hbx3⟩

/-- Where the loop over the two numbers stands. -/
def PairAt (w : World) (P Q : List Int) (m : Nat) (s8 s30 : Value) (wx : World) : Prop :=
  ∃ C : List Int, wx.ownsRow w.heap.size 5 1 s8 C.length (C.map (Value.int .u8)) ∧ Below w.heap.size w wx ∧ ((m = 2 ∧ s30 = .int .i64 0 ∧ C = []) ∨ (m = 1 ∧ s30 = .int .i64 1 ∧ C = P) ∨ (m = 0 ∧ s30 = .int .i64 2 ∧ C = P ++ Q))

theorem idx_zero (x y : Int) (W : World) : (Instr.index 40 (.agg #[.int .i64 x, .int .i64 y]) (.int .i64 0)).run Try.prog W = .ok (.int .i64 x) W := by kernel_rfl
theorem idx_one (x y : Int) (W : World) : (Instr.index 40 (.agg #[.int .i64 x, .int .i64 y]) (.int .i64 1)).run Try.prog W = .ok (.int .i64 y) W := by kernel_rfl

set_option maxRecDepth 20000 in
theorem pair_ok (lhs a b : Int) (h1 : a < lhs) (h2 : b ≤ a) (h3 : 0 ≤ b) (h4 : lhs < 9223372036854775808) (w : World) : Calls Try.prog 9 #[.int .i64 lhs, .int .i64 a, .int .i64 b] w (Paired w (pairA lhs a b)) := by
  obtain ⟨i0, hi, hz0, hz1, hz2⟩ := info_parts info_u8
  have hA : Hid (pairA lhs a b = (puts (lhs - a) ++ puts (a - b), 0)) := Lib.hid (pairA_ok (by omega))
  have hp := Lib.hid (put_any (lhs - a) (by omega))
  have hq := Lib.hid (put_any (a - b) (by omega))
  have l1 := puts_len (lhs - a) (by omega)
  have l2 := puts_len (a - b) (by omega)
  have l3 := puts_pos (a - b) (by omega)
  have l4 := puts_pos (lhs - a) (by omega)
  generalize puts (lhs - a) = P at *
  generalize puts (a - b) = Q at *
  go_enter Try.func9, Try.ntmps9
  go_wp2_with fail
  go_loopg [8, 30] 2 (fun m s8 s30 wx => PairAt w P Q m s8 s30 wx)
  case atStart => exact ⟨[], World.ownsRow_nil _ _ _ _, Below.refl _ _, .inl ⟨rfl, rfl, rfl⟩⟩
  case round =>
    obtain ⟨C, hown, hb, h⟩ := hrel
    generalize gk = m at *
    rcases h with ⟨rfl, rfl, rfl⟩ | ⟨rfl, rfl, rfl⟩ | ⟨rfl, rfl, rfl⟩
    · have X1 := Lib.hid (And.intro hown hb)
      have kx := idx_zero (lhs - a) (a - b)
      clear hown hb
      go_wp2_with fail
      refine (hp.out _).mono ?_
      rintro e w2 ⟨a2, c2, rfl, hown2, hb2⟩
      obtain ⟨b2, o2, rfl, _, _, hcell⟩ := (src_own hown2).1 (by intro e; subst e; simp at *)
      have hrow := own_below X1.out.1 hb2
      have hbx := X1.out.2.trans (hb2.mono X1.out.2.size)
      have hnews := news (B := 0) hcell
      clear hown2 hb2 hcell
      go_wp2_with (first
        | (at_builtin; refine wpList_append_own _ rfl _ _ 22 rfl w.heap.size 5 i0 (.int .u8 0) 1 1 Try.underlying22 hi hz0 hz1 hz2 rfl (by decide) _ _ _ rfl hrow ⟨b2, o2, none⟩ P.length c2 (P.map (Value.int .u8)) rfl (by simp) hnews ?c2 ?c3 ?c4 ?c5 ?_))
      case c2 => intro u hu; obtain ⟨x, _, rfl⟩ := List.mem_map.1 hu; rfl
      case c3 => unfold maxLen; first | omega | (simp; omega)
      case c4 => first | omega | (simp; omega)
      case c5 => exact hbx.size
      intro v3 w3 hown3 hgrow3 _
      have hbx3 : Below w.heap.size w w3 := hbx.grown hgrow3 hbx.size (fun k hk => (hrow.lt k hk).1)
      clear hrow hbx hgrow3 hnews
      go_wp2_with fail
      go_roundg 1
      case measure => omega
      case rel => exact ⟨P, by simpa using hown3, hbx3, .inr (.inl ⟨rfl, rfl, rfl⟩)⟩
    · have X1 := Lib.hid (And.intro hown hb)
      have kx := idx_one (lhs - a) (a - b)
      clear hown hb
      go_wp2_with fail
      refine (hq.out _).mono ?_
      rintro e w2 ⟨a2, c2, rfl, hown2, hb2⟩
      obtain ⟨b2, o2, rfl, _, _, hcell⟩ := (src_own hown2).1 (by intro e; subst e; simp at *)
      have hrow := own_below X1.out.1 hb2
      have hbx := X1.out.2.trans (hb2.mono X1.out.2.size)
      have hnews := news (B := 0) hcell
      clear hown2 hb2 hcell
      go_wp2_with (first
        | (at_builtin; refine wpList_append_own _ rfl _ _ 22 rfl w.heap.size 5 i0 (.int .u8 0) 1 1 Try.underlying22 hi hz0 hz1 hz2 rfl (by decide) _ _ _ rfl hrow ⟨b2, o2, none⟩ Q.length c2 (Q.map (Value.int .u8)) rfl (by simp) hnews ?c2 ?c3 ?c4 ?c5 ?_))
      case c2 => intro u hu; obtain ⟨x, _, rfl⟩ := List.mem_map.1 hu; rfl
      case c3 => unfold maxLen; first | omega | (simp; omega)
      case c4 => first | omega | (simp; omega)
      case c5 => exact hbx.size
      intro v3 w3 hown3 hgrow3 _
      have hbx3 : Below w.heap.size w w3 := hbx.grown hgrow3 hbx.size (fun k hk => (hrow.lt k hk).1)
      clear hrow hbx hgrow3 hnews
      go_wp2_with fail
      go_roundg 0
      case measure => omega
      case rel => exact ⟨C ++ Q, by simpa using hown3, hbx3, .inr (.inr ⟨rfl, rfl, rfl⟩)⟩
    · have X1 := Lib.hid (And.intro hown hb)
      clear hown hb
      go_wp2_with fail
      go_ret2
      rw [hA.out]
      obtain ⟨a3, c3, rfl⟩ := own_slice X1.out.1
      exact ⟨a3, c3, rfl, X1.out.1, X1.out.2⟩

theorem pair_any (lhs a b : Int) (h : lhs < 9223372036854775808) (w : World) : Calls Try.prog 9 #[.int .i64 lhs, .int .i64 a, .int .i64 b] w (Paired w (pairA lhs a b)) := by
  by_cases hb : lhs ≤ a ∨ a < b ∨ b < 0
  · exact pair_bad lhs a b hb w
  · exact pair_ok lhs a b (by omega) (by omega) (by omega) h w
theorem rpair_any (lhs a b : Int) (h : lhs < 9223372036854775808) (w : World) : Calls Try.prog 10 #[.int .i64 lhs, .int .i64 a, .int .i64 b] w (Paired w (pairA lhs a b)) := by
  by_cases hb : lhs ≤ a ∨ a < b ∨ b < 0
  · exact rpair_bad lhs a b hb w
  · exact rpair_ok lhs a b (by omega) (by omega) (by omega) h w
end Go.Proofs.Ytacdpndkcboafaa
