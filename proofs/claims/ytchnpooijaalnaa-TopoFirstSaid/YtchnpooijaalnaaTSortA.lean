/- A row of nodes that is sorted in place: exchange, rotation, insertion, the smallest merges (conditions: the row lies in a block of its own; the comparison keeps to its contract). -/
import Derived.Test.YtchnpooijaalnaaTAlive
import Derived.BigRegion
import Derived.Deep.RegionHeld3
namespace Go.Proofs.Ytchnpooijaalnaa
open Go.ChangeShapes Go.WideShapes Go.RowKit
set_option linter.unusedVariables false

/-- All blocks below lo but g are as they were in w3. -/
structure Near (lo g : Nat) (w3 W : World) : Prop where
  os : W.os = w3.os
  tape : W.tape = w3.tape
  output : W.output = w3.output
  size : lo ≤ W.heap.size
  block : ∀ b, b < lo → b ≠ g → W.heap[b]? = w3.heap[b]?
/-- The row of nodes X at the beginning of block g. -/
structure TR (w : World) (g : Nat) (X : List PNode) : Prop where
  row : ∃ cur, w.heap[g]? = some (.cells cur 42 (0, 0)) ∧ X.length * 3 ≤ cur.size
  node : ∀ j x, X[j]? = some x → TNodeAt w g (j * 3) x
/-- The sort's state. -/
structure Srt (lo g : Nat) (w3 : World) (X : List PNode) (W : World) : Prop where
  near : Near lo g w3 W
  row : TR W g X
  lt : g < lo
variable {lo g : Nat} {w3 W W' : World} {X : List PNode}
theorem TR.free (h : TR W g X) (j : Nat) : W.frozen? ⟨g, j, none⟩ = false := by
  obtain ⟨cur, h1, _⟩ := h.row
  exact frozen_of_row W g j _ _ h1
theorem Srt.call (h : Srt lo g w3 X W) (hb : Below W.heap.size W W') : Srt lo g w3 X W' := by
  have hg : g < W.heap.size := Nat.lt_of_lt_of_le h.lt h.near.size
  refine ⟨⟨hb.os.trans h.near.os, hb.tape.trans h.near.tape, hb.output.trans h.near.output, Nat.le_trans h.near.size hb.size, fun b h1 h2 => (hb.block b (Nat.lt_of_lt_of_le h1 h.near.size)).trans (h.near.block b h1 h2)⟩, ⟨?_, fun j x hj => ?_⟩, h.lt⟩
  · obtain ⟨cur, h1, h2⟩ := h.row.row
    exact ⟨cur, (hb.block g hg).trans h1, h2⟩
  · exact (h.row.node j x hj).below hb hg
theorem Near.set (h : Near lo g w3 W) (j : Nat) (v : Value) : Near lo g w3 (W.setCell ⟨g, j, none⟩ v) :=
  ⟨h.os, h.tape, h.output, by have := h.size; simpa [World.setCell] using this, fun b h1 h2 => (heap_setCell_other W ⟨g, j, none⟩ b v h2).trans (h.block b h1 h2)⟩

theorem cell_set_same {w : World} {g j : Nat} {v u : Value} (h : w.cell? ⟨g, j, none⟩ = some u) : (w.setCell ⟨g, j, none⟩ v).cell? ⟨g, j, none⟩ = some v := World.cell?_setCell_same w _ v h
theorem cell_set_other {w : World} {g i j : Nat} {v : Value} (h : i ≠ j) : (w.setCell ⟨g, j, none⟩ v).cell? ⟨g, i, none⟩ = w.cell? ⟨g, i, none⟩ := by
  refine World.cell?_setCell_other w _ _ v ?_
  intro e
  injection e with e1 e2
  exact h e2.symm
theorem TR.set (h : TR W g X) {i : Nat} {o x : PNode} (hi : X[i]? = some o) :
    TR (((W.setCell ⟨g, i * 3, none⟩ (.bool x.nr)).setCell ⟨g, i * 3 + 1, none⟩ (.int .i64 x.nm)).setCell ⟨g, i * 3 + 2, none⟩ (.int .i64 x.na)) g (X.set i x) := by
  obtain ⟨cur, h1, h2⟩ := h.row
  obtain ⟨q0, q1, q2⟩ := h.node i o hi
  refine ⟨⟨_, heap_setCell_same _ g (i * 3 + 2) _ _ _ (heap_setCell_same _ g (i * 3 + 1) _ _ _ (heap_setCell_same W g (i * 3) _ _ _ h1)), by simpa using h2⟩, fun j y hj => ?_⟩
  by_cases e : i = j
  · subst e
    have hl := lt_of_some hi
    rw [List.getElem?_set, if_pos rfl, if_pos hl] at hj
    injection hj with hj
    subst hj
    have a0 : (W.setCell ⟨g, i * 3, none⟩ (.bool x.nr)).cell? ⟨g, i * 3 + 1, none⟩ = some (.int .i64 o.nm) := (cell_set_other (by omega)).trans q1
    have a1 : ((W.setCell ⟨g, i * 3, none⟩ (.bool x.nr)).setCell ⟨g, i * 3 + 1, none⟩ (.int .i64 x.nm)).cell? ⟨g, i * 3 + 2, none⟩ = some (.int .i64 o.na) := (cell_set_other (by omega)).trans ((cell_set_other (by omega)).trans q2)
    exact ⟨(cell_set_other (by omega)).trans ((cell_set_other (by omega)).trans (cell_set_same q0)), (cell_set_other (by omega)).trans (cell_set_same a0), cell_set_same a1⟩
  · rw [List.getElem?_set, if_neg e] at hj
    obtain ⟨r0, r1, r2⟩ := h.node j y hj
    have hne : ∀ a b : Nat, a < 3 → b < 3 → j * 3 + a ≠ i * 3 + b := fun a b ha hb h => e (by omega)
    exact ⟨(cell_set_other (hne 0 2 (by omega) (by omega))).trans ((cell_set_other (hne 0 1 (by omega) (by omega))).trans ((cell_set_other (hne 0 0 (by omega) (by omega))).trans r0)),
      (cell_set_other (hne 1 2 (by omega) (by omega))).trans ((cell_set_other (hne 1 1 (by omega) (by omega))).trans ((cell_set_other (hne 1 0 (by omega) (by omega))).trans r1)),
      (cell_set_other (hne 2 2 (by omega) (by omega))).trans ((cell_set_other (hne 2 1 (by omega) (by omega))).trans ((cell_set_other (hne 2 0 (by omega) (by omega))).trans r2))⟩
theorem Srt.set (h : Srt lo g w3 X W) {i : Nat} {o : PNode} (x : PNode) (hi : X[i]? = some o) :
    Srt lo g w3 (X.set i x) (((W.setCell ⟨g, i * 3, none⟩ (.bool x.nr)).setCell ⟨g, i * 3 + 1, none⟩ (.int .i64 x.nm)).setCell ⟨g, i * 3 + 2, none⟩ (.int .i64 x.na)) :=
  ⟨((h.near.set _ _).set _ _).set _ _, h.row.set hi, h.lt⟩
/-- Two nodes change places. -/
def swp (X : List PNode) (i j : Nat) (x y : PNode) : List PNode := (X.set i y).set j x
theorem Srt.swap (h : Srt lo g w3 X W) {i j : Nat} {x y : PNode} (hi : X[i]? = some x) (hj : X[j]? = some y) (hij : i ≠ j) :
    Srt lo g w3 (swp X i j x y) (((((((W.setCell ⟨g, i * 3, none⟩ (.bool y.nr)).setCell ⟨g, i * 3 + 1, none⟩ (.int .i64 y.nm)).setCell ⟨g, i * 3 + 2, none⟩ (.int .i64 y.na)).setCell ⟨g, j * 3, none⟩ (.bool x.nr)).setCell ⟨g, j * 3 + 1, none⟩ (.int .i64 x.nm)).setCell ⟨g, j * 3 + 2, none⟩ (.int .i64 x.na)).drew) :=
  ((h.set y hi).set (i := j) (o := y) x (by rw [List.getElem?_set, if_neg hij]; exact hj)).call (Below.refl _ _).drew
theorem Srt.swap' (h : Srt lo g w3 X W) {i j : Nat} {x y : PNode} (hi : X[i]? = some x) (hj : X[j]? = some y) (hij : i ≠ j) :
    Srt lo g w3 (swp X i j x y) (((((((W.setCell ⟨g, j * 3, none⟩ (.bool x.nr)).setCell ⟨g, j * 3 + 1, none⟩ (.int .i64 x.nm)).setCell ⟨g, j * 3 + 2, none⟩ (.int .i64 x.na)).setCell ⟨g, i * 3, none⟩ (.bool y.nr)).setCell ⟨g, i * 3 + 1, none⟩ (.int .i64 y.nm)).setCell ⟨g, i * 3 + 2, none⟩ (.int .i64 y.na)).drew) := by
  have h1 := ((h.set x hj).set (i := i) (o := x) y (by rw [List.getElem?_set, if_neg (fun e => hij e.symm)]; exact hi)).call (Below.refl _ _).drew
  unfold swp
  rw [List.set_comm _ _ (fun e => hij e)]
  exact h1

theorem swap_lists {P A Q : List PNode} {x y : PNode} : swp (P ++ x :: A ++ y :: Q) P.length (P ++ x :: A).length x y = P ++ y :: A ++ x :: Q := by
  unfold swp
  rw [show P ++ x :: A ++ y :: Q = P ++ (x :: (A ++ y :: Q)) by simp, List.set_append_right _ _ (Nat.le_refl _), Nat.sub_self]
  simp only [List.set_cons_zero]
  rw [show P ++ y :: (A ++ y :: Q) = (P ++ y :: A) ++ (y :: Q) by simp, List.set_append_right _ _ (by simp), show (P ++ x :: A).length - (P ++ y :: A).length = 0 by simp]
  simp

set_option maxRecDepth 100000 in
set_option maxHeartbeats 4000000 in
/-- swapRangeCmpFunc: the lists A and B, of one length, change places. -/
theorem swapRange_any (P A M B Q : List PNode) (c : Nat) (cv : Value) (w : World) (h : Srt lo g w3 (P ++ A ++ M ++ B ++ Q) w) (hl : A.length = B.length) (hn : (P ++ A ++ M ++ B ++ Q).length ≤ 1000000) :
    Calls Try.prog 94 #[.slice (some ⟨g, 0, none⟩) (P ++ A ++ M ++ B ++ Q).length c, .int .i64 (P.length : Nat), .int .i64 ((P ++ A ++ M).length : Nat), .int .i64 (A.length : Nat), cv] w fun e w' => e = .returned (.tuple #[]) ∧ Srt lo g w3 (P ++ B ++ M ++ A ++ Q) w' := by
  have HS0 := Lib.hid (show Srt lo g w3 (P ++ (B.take 0 ++ A.drop 0) ++ M ++ (A.take 0 ++ B.drop 0) ++ Q) w by simpa using h)
  have hab : P.length + A.length + M.length = (P ++ A ++ M).length := by simp; omega
  have hNN : P.length + A.length + M.length + B.length + Q.length = (P ++ A ++ M ++ B ++ Q).length := by simp; omega
  generalize hN : (P ++ A ++ M ++ B ++ Q).length = N at *
  generalize hb : (P ++ A ++ M).length = b at *
  clear h hN hb
  go_enter Try.func94, Try.ntmps94
  go_wp2_with fail
  go_loopg [10] A.length (fun m s10 wx => ∃ k : Nat, k + m = A.length ∧ s10 = .int .i64 k ∧ Aside (Srt lo g w3 (P ++ (B.take k ++ A.drop k) ++ M ++ (A.take k ++ B.drop k) ++ Q) wx))
  case atStart => exact ⟨0, by omega, rfl, HS0.out⟩
  case round =>
    clear HS0
    obtain ⟨k, hk, rfl, HS⟩ := hrel
    generalize gk = m at *
    by_cases hlt : k < A.length
    · obtain ⟨x, hx⟩ := some_of_lt hlt
      obtain ⟨y, hy⟩ := some_of_lt (show k < B.length by omega)
      have hltI : (k : Int) < (A.length : Int) := by omega
      have HX := Lib.hid (show P ++ (B.take k ++ A.drop k) ++ M ++ (A.take k ++ B.drop k) ++ Q = (P ++ B.take k) ++ x :: (A.drop (k + 1) ++ M ++ A.take k) ++ y :: (B.drop (k + 1) ++ Q) by rw [drop_some hx, drop_some hy]; simp)
      have HX2 := Lib.hid (show P ++ (B.take (k + 1) ++ A.drop (k + 1)) ++ M ++ (A.take (k + 1) ++ B.drop (k + 1)) ++ Q = (P ++ B.take k) ++ y :: (A.drop (k + 1) ++ M ++ A.take k) ++ x :: (B.drop (k + 1) ++ Q) by rw [take_some hx, take_some hy]; simp)
      have hl1 : (P ++ B.take k).length = P.length + k := by rw [List.length_append, List.length_take]; omega
      have hl2 : ((P ++ B.take k) ++ x :: (A.drop (k + 1) ++ M ++ A.take k)).length = b + k := by
        rw [List.length_append, hl1, List.length_cons, List.length_append, List.length_append, List.length_drop, List.length_take]; omega
      have HS2 := Lib.hid (HX.out ▸ HS.out)
      have hi : ((P ++ B.take k) ++ x :: (A.drop (k + 1) ++ M ++ A.take k) ++ y :: (B.drop (k + 1) ++ Q))[P.length + k]? = some x := by
        rw [← hl1, List.append_assoc, List.getElem?_append_right (Nat.le_refl _)]; simp
      have hj : ((P ++ B.take k) ++ x :: (A.drop (k + 1) ++ M ++ A.take k) ++ y :: (B.drop (k + 1) ++ Q))[b + k]? = some y := by
        rw [← hl2, List.getElem?_append_right (Nat.le_refl _)]; simp
      obtain ⟨x0, x1, x2⟩ := HS2.out.row.node _ _ hi
      obtain ⟨y0, y1, y2⟩ := HS2.out.row.node _ _ hj
      have hfr := HS2.out.row.free
      have hne : P.length + k ≠ b + k := by omega
      have HW := Lib.hid (And.intro (HS2.out.swap hi hj hne) (HS2.out.swap' hi hj hne))
      have hz := swap_lists (P := P ++ B.take k) (A := A.drop (k + 1) ++ M ++ A.take k) (Q := B.drop (k + 1) ++ Q) (x := x) (y := y)
      rw [hl1, hl2] at hz
      have HZ := Lib.hid hz
      clear hz
      generalize P.length = a at *
      have hta : ((a : Int) + (k : Int)).toNat = a + k := by omega
      have htb : ((b : Int) + (k : Int)).toNat = b + k := by omega
      have g1 : (0 : Int) ≤ (a : Int) + (k : Int) := by omega
      have g2 : (a : Int) + (k : Int) < (N : Int) := by omega
      have g3 : (0 : Int) ≤ (b : Int) + (k : Int) := by omega
      have g4 : (b : Int) + (k : Int) < (N : Int) := by omega
      have g5 : (a : Int) + (k : Int) ≤ 1000000 := by omega
      have g6 : (b : Int) + (k : Int) ≤ 1000000 := by omega
      clear hi hj hx hy hl1 hl2 HS HX HS2
      clear hl
      go_wp2_with fail
      go_region
      all_goals
        go_wp2_with fail
        go_roundg (m - 1)
        case measure => omega
        case rel => exact ⟨k + 1, by omega, by first | rfl | simp, by rw [HX2.out, ← HZ.out]; exact HW.out.1⟩
    · have hltn : ¬ ((k : Int) < (A.length : Int)) := by omega
      have HX := Lib.hid (show P ++ (B.take k ++ A.drop k) ++ M ++ (A.take k ++ B.drop k) ++ Q = P ++ B ++ M ++ A ++ Q by
        rw [List.take_of_length_le (show B.length ≤ k by omega), List.take_of_length_le (show A.length ≤ k by omega), List.drop_eq_nil_of_le (show A.length ≤ k by omega), List.drop_eq_nil_of_le (show B.length ≤ k by omega)]; simp)
      have HE := Lib.hid (show Srt lo g w3 (P ++ B ++ M ++ A ++ Q) wr from HX.out ▸ HS.out)
      go_wp2_with fail
      go_end0
      exact ⟨rfl, by simpa using HE.out⟩
end Go.Proofs.Ytchnpooijaalnaa

namespace Go.Proofs.Ytchnpooijaalnaa
open Go.ChangeShapes Go.WideShapes Go.RowKit
set_option linter.unusedVariables false
variable {lo g : Nat} {w3 : World}

set_option maxRecDepth 100000 in
set_option maxHeartbeats 4000000 in
theorem rotate_any (P U V Q : List PNode) (c : Nat) (cv : Value) (w : World) (h : Srt lo g w3 (P ++ U ++ V ++ Q) w) (hU : U ≠ []) (hV : V ≠ []) (hn : (P ++ U ++ V ++ Q).length ≤ 1000000) :
    Calls Try.prog 88 #[.slice (some ⟨g, 0, none⟩) (P ++ U ++ V ++ Q).length c, .int .i64 (P.length : Nat), .int .i64 ((P ++ U).length : Nat), .int .i64 ((P ++ U ++ V).length : Nat), cv] w fun e w' => e = .returned (.tuple #[]) ∧ Srt lo g w3 (P ++ V ++ U ++ Q) w' := by
  have h1 : (P ++ U).length = P.length + U.length := by simp
  have h2 : (P ++ U ++ V).length = (P ++ U).length + V.length := by simp; omega
  have h3 : (P ++ U ++ V ++ Q).length = (P ++ U ++ V).length + Q.length := by simp; omega
  have hU2 := List.length_pos_iff.2 hU
  have hV2 := List.length_pos_iff.2 hV
  generalize hN : (P ++ U ++ V ++ Q).length = N at *
  generalize hb : (P ++ U ++ V).length = b at *
  generalize hm : (P ++ U).length = m at *
  generalize ha : P.length = a at *
  generalize hu : U.length = u at *
  generalize hv : V.length = v at *
  generalize hT : P ++ V ++ U ++ Q = T at *
  have d1 : (m : Int) - (a : Int) = (u : Int) := by omega
  have d2 : (b : Int) - (m : Int) = (v : Int) := by omega
  have d3 : (m : Int) ≤ 1000000 := by omega
  have d4 : (b : Int) ≤ 1000000 := by omega
  have HS0 := Lib.hid (And.intro h (And.intro hT (And.intro hm (And.intro hu (And.intro hv (And.intro hU2 (And.intro hV2 hN)))))))
  clear h hN hb hm ha hT hU hV hu hv h1 h2 h3 hU2 hV2
  go_enter Try.func88, Try.ntmps88
  go_wp2_with fail
  go_loopg [10, 11] (u + v) (fun mm s10 s11 wx => ∃ (i j : Nat) (P1 U1 V1 Q1 : List PNode), i + j = mm ∧ s10 = .int .i64 i ∧ s11 = .int .i64 j ∧ Aside (Srt lo g w3 (P1 ++ U1 ++ V1 ++ Q1) wx ∧ P1 ++ V1 ++ U1 ++ Q1 = T ∧ (P1 ++ U1).length = m ∧ U1.length = i ∧ V1.length = j ∧ 0 < i ∧ 0 < j ∧ (P1 ++ U1 ++ V1 ++ Q1).length = N))
  case atStart => exact ⟨u, v, P, U, V, Q, rfl, rfl, rfl, HS0.out⟩
  case round =>
    clear HS0
    obtain ⟨i, j, P1, U1, V1, Q1, hij, rfl, rfl, HS⟩ := hrel
    generalize gk = mm at *
    have q3 := HS.out.2.2.1
    have q4 := HS.out.2.2.2.1
    have q5 := HS.out.2.2.2.2.1
    have q6 := HS.out.2.2.2.2.2.1
    have q7 := HS.out.2.2.2.2.2.2.1
    have q8 := HS.out.2.2.2.2.2.2.2
    have q9 : (P1 ++ U1).length = P1.length + U1.length := by simp
    have q10 : (P1 ++ U1 ++ V1 ++ Q1).length = P1.length + U1.length + V1.length + Q1.length := by simp; omega
    have e1 : (m : Int) - (i : Int) = (P1.length : Int) := by omega
    rcases Nat.lt_trichotomy i j with hlt | heq | hgt
    · have hne : ¬ ((i : Int) = (j : Int)) := by omega
      have hgI : ¬ ((j : Int) < (i : Int)) := by omega
      have l1 : (V1.take (j - i)).length = j - i := by rw [List.length_take]; omega
      have l2 : (V1.drop (j - i)).length = i := by rw [List.length_drop]; omega
      have l3 : P1 ++ U1 ++ V1.take (j - i) ++ V1.drop (j - i) = P1 ++ U1 ++ V1 := by rw [List.append_assoc, List.take_append_drop]
      have l4 : (P1 ++ U1 ++ V1.take (j - i)).length = m + (j - i) := by rw [List.length_append, q3, l1]
      have HC := swapRange_any P1 U1 (V1.take (j - i)) (V1.drop (j - i)) Q1 c cv wr (by rw [l3]; exact HS.out.1) (by omega) (by rw [l3, q8]; exact hn)
      rw [l3, l4, q8, q4] at HC
      have e2 : (m : Int) + (j : Int) - (i : Int) = ((m + (j - i) : Nat) : Int) := by omega
      have e3 : (m : Int) + (j : Int) ≤ 2000000 := by omega
      have HCC := Lib.hid HC
      have HE := Lib.hid (show P1 ++ V1.take (j - i) ++ V1.drop (j - i) ++ (U1 ++ Q1) = T by rw [← HS.out.2.1, List.append_assoc P1, List.take_append_drop]; simp)
      have HR := Lib.hid (show (P1 ++ V1.drop (j - i)).length = m ∧ (V1.drop (j - i)).length = i ∧ (V1.take (j - i)).length = j - i ∧ 0 < i ∧ 0 < j - i ∧ (P1 ++ V1.drop (j - i) ++ V1.take (j - i) ++ (U1 ++ Q1)).length = N from
        ⟨by rw [List.length_append]; omega, l2, l1, q6, by omega, by rw [List.length_append, List.length_append, List.length_append, List.length_append]; omega⟩)
      have HM := Lib.hid (And.intro hij (And.intro hlt q6))
      clear HC l1 l2 l3 l4 q3 q4 q5 q8 q9 q10 hij
      generalize m + (j - i) = mj at *
      go_wp2_with (go_at_call 94; refine HCC.out.mono ?_; rintro e w5 ⟨rfl, hs5⟩)
      have hs6 : Srt lo g w3 (P1 ++ V1.drop (j - i) ++ V1.take (j - i) ++ (U1 ++ Q1)) w5 := by
        rw [← List.append_assoc]; exact hs5
      have HQ := Lib.hid hs6
      clear hs5 hs6
      go_roundg j
      case measure => have := HM.out; omega
      case rel => exact ⟨i, j - i, P1, V1.drop (j - i), V1.take (j - i), U1 ++ Q1, by have := HM.out; omega, rfl, by have := HM.out; show Value.int .i64 ((j : Int) - (i : Int)) = Value.int .i64 ((j - i : Nat) : Int); congr 1; omega, HQ.out, HE.out, HR.out⟩
    · subst heq
      have l2 : P1 ++ U1 ++ [] = P1 ++ U1 := List.append_nil _
      have HC := swapRange_any P1 U1 [] V1 Q1 c cv wr (by rw [l2]; exact HS.out.1) (by omega) (by rw [l2, q8]; exact hn)
      rw [l2, q8, q3, q4] at HC
      have HCC := Lib.hid HC
      have HE := Lib.hid (show P1 ++ V1 ++ [] ++ U1 ++ Q1 = T by rw [← HS.out.2.1]; simp)
      clear HC l2 q3 q4 q5 q8 q9 q10 hij
      go_wp2_with (go_at_call 94; refine HCC.out.mono ?_; rintro e w5 ⟨rfl, hs5⟩)
      go_end0
      exact ⟨rfl, HE.out ▸ hs5⟩
    · have hne : ¬ ((i : Int) = (j : Int)) := by omega
      have hgI : (j : Int) < (i : Int) := by omega
      have l1 : (U1.take j).length = j := by rw [List.length_take]; omega
      have l2 : P1 ++ U1.take j ++ U1.drop j = P1 ++ U1 := by rw [List.append_assoc, List.take_append_drop]
      have HC := swapRange_any P1 (U1.take j) (U1.drop j) V1 Q1 c cv wr (by rw [l2]; exact HS.out.1) (by omega) (by rw [l2, q8]; exact hn)
      rw [l2, l1, q8, q3] at HC
      have HCC := Lib.hid HC
      have HE := Lib.hid (show (P1 ++ V1) ++ (U1.take j) ++ (U1.drop j) ++ Q1 = T by rw [← HS.out.2.1, List.append_assoc (P1 ++ V1), List.take_append_drop])
      have HR := Lib.hid (show ((P1 ++ V1) ++ U1.drop j).length = m ∧ (U1.drop j).length = i - j ∧ (U1.take j).length = j ∧ 0 < i - j ∧ 0 < j ∧ ((P1 ++ V1) ++ U1.drop j ++ U1.take j ++ Q1).length = N from
        ⟨by rw [List.length_append, List.length_append, List.length_drop]; omega, by rw [List.length_drop]; omega, l1, by omega, q7, by rw [List.length_append, List.length_append, List.length_append, List.length_append, List.length_drop]; omega⟩)
      have HM := Lib.hid (And.intro hij (And.intro hgt q7))
      clear HC l1 l2 q3 q4 q5 q8 q9 q10 hij
      go_wp2_with (go_at_call 94; refine HCC.out.mono ?_; rintro e w5 ⟨rfl, hs5⟩)
      have HQ := Lib.hid hs5
      clear hs5
      go_roundg i
      case measure => have := HM.out; omega
      case rel => exact ⟨i - j, j, P1 ++ V1, U1.drop j, U1.take j, Q1, by have := HM.out; omega, by have := HM.out; show Value.int .i64 ((i : Int) - (j : Int)) = Value.int .i64 ((i - j : Nat) : Int); congr 1; omega, rfl, HQ.out, HE.out, HR.out⟩
end Go.Proofs.Ytchnpooijaalnaa

namespace Go.Proofs.Ytchnpooijaalnaa
open Go.ChangeShapes Go.WideShapes Go.RowKit
set_option linter.unusedVariables false

/-- The comparison tells which of two nodes has the smaller key. -/
def Cmps (lo g : Nat) (w3 : World) (N : List PNode) (lev : PNode → Int) (xc : Nat) : Prop :=
  ∀ (W : World) (x y : PNode), Near lo g w3 W → x ∈ N → y ∈ N → Calls Try.prog 30 #[.agg #[.bool x.nr, .int .i64 x.nm, .int .i64 x.na], .agg #[.bool y.nr, .int .i64 y.nm, .int .i64 y.na], .pointer (some ⟨xc, 0, none⟩)] W
    fun e w' => ∃ c : Int, e = .returned (.int .i64 c) ∧ (lev x < lev y → c = -1) ∧ (¬ lev x < lev y → 0 ≤ c) ∧ Below W.heap.size W w'
/-- By rising keys. -/
def Sd (lev : PNode → Int) (l : List PNode) : Prop := l.Pairwise fun x y => lev x ≤ lev y
/-- What a range becomes: its nodes by rising keys, and R of any two nodes of the row in their order. -/
structure Done (lev : PNode → Int) (R : PNode → PNode → Prop) (P S Q S' : List PNode) : Prop where
  perm : S'.Perm S
  sd : Sd lev S'
  st : (P ++ S' ++ Q).Pairwise R
theorem swap_next {P Q : List PNode} {x l : PNode} : swp (P ++ l :: x :: Q) (P.length + 1) P.length x l = P ++ x :: l :: Q := by
  unfold swp
  rw [List.set_append_right _ _ (by omega), show P.length + 1 - P.length = 1 by omega, List.set_append_right _ _ (Nat.le_refl _), Nat.sub_self]
  rfl
/-- Neighbours of which the second has the smaller key may change places. -/
theorem stable_swap {lev : PNode → Int} {R : PNode → PNode → Prop} (hR : ∀ x y, lev x ≠ lev y → R x y) {P Q : List PNode} {x l : PNode} (h : (P ++ l :: x :: Q).Pairwise R) (hlt : lev x < lev l) : (P ++ x :: l :: Q).Pairwise R := by
  rw [List.pairwise_append] at h ⊢
  obtain ⟨h1, h2, h3⟩ := h
  rw [List.pairwise_cons, List.pairwise_cons] at h2
  refine ⟨h1, ?_, fun a ha b hb => h3 a ha b ?_⟩
  · rw [List.pairwise_cons, List.pairwise_cons]
    refine ⟨fun b hb => ?_, fun b hb => h2.1 b (by simp [hb]), h2.2.2⟩
    rcases List.mem_cons.1 hb with e | e
    · subst e; exact hR _ _ (by omega)
    · exact h2.2.1 b e
  · simp only [List.mem_cons] at hb ⊢
    rcases hb with e | e | e
    · exact .inr (.inl e)
    · exact .inl e
    · exact .inr (.inr e)
variable {lo g : Nat} {w3 : World} {N : List PNode} {lev : PNode → Int} {R : PNode → PNode → Prop} {xc : Nat}

theorem sd_ins {x : PNode} {L Rr : List PNode} (h : Sd lev (L ++ Rr)) (h1 : ∀ e ∈ L, lev e ≤ lev x) (h2 : ∀ r ∈ Rr, lev x < lev r) : Sd lev (L ++ x :: Rr) := by
  unfold Sd at h ⊢
  rw [List.pairwise_append] at h ⊢
  rw [List.pairwise_cons]
  refine ⟨h.1, ⟨fun r hr => by have := h2 r hr; omega, h.2.1⟩, fun e he r hr => ?_⟩
  rcases List.mem_cons.1 hr with e1 | e1
  · subst e1; exact h1 e he
  · exact h.2.2 e he r e1
theorem ins_next {P L Rr S1 S2 Q S : List PNode} {x : PNode} {W : World} {a i : Nat} (hS : Srt lo g w3 ((P ++ L) ++ x :: (Rr ++ (S2 ++ Q))) W) (hp : ((P ++ L) ++ x :: (Rr ++ (S2 ++ Q))).Pairwise R) (e : L ++ Rr = S1) (hperm : (S1 ++ x :: S2).Perm S) (hsd : Sd lev S1) (h1 : ∀ e ∈ L, lev e ≤ lev x) (h2 : ∀ r ∈ Rr, lev x < lev r) (hi : i = a + S1.length) :
    Srt lo g w3 (P ++ (L ++ x :: Rr) ++ S2 ++ Q) W ∧ (P ++ (L ++ x :: Rr) ++ S2 ++ Q).Pairwise R ∧ ((L ++ x :: Rr) ++ S2).Perm S ∧ Sd lev (L ++ x :: Rr) ∧ (i + 1 = a + (L ++ x :: Rr).length ∨ (L ++ x :: Rr = [] ∧ S2 = [] ∧ i + 1 = a + 1)) := by
  subst e
  have hl : (P ++ L) ++ x :: (Rr ++ (S2 ++ Q)) = P ++ (L ++ x :: Rr) ++ S2 ++ Q := by simp
  rw [hl] at hS hp
  refine ⟨hS, hp, ?_, sd_ins hsd h1 h2, .inl (by rw [hi]; simp; omega)⟩
  refine List.Perm.trans ?_ hperm
  rw [List.append_assoc, List.append_assoc]
  refine List.Perm.append_left L ?_
  rw [List.cons_append]
  exact (List.perm_middle (a := x) (l₁ := Rr) (l₂ := S2)).symm

set_option maxRecDepth 100000 in
set_option maxHeartbeats 4000000 in
theorem insert_any (hC : Cmps lo g w3 N lev xc) (hR : ∀ x y, lev x ≠ lev y → R x y) (P S Q : List PNode) (c : Nat) (w : World) (h : Srt lo g w3 (P ++ S ++ Q) w) (hN : ∀ x ∈ S, x ∈ N) (hst : (P ++ S ++ Q).Pairwise R) (hn : (P ++ S ++ Q).length ≤ 1000000) :
    Calls Try.prog 71 #[.slice (some ⟨g, 0, none⟩) (P ++ S ++ Q).length c, .int .i64 (P.length : Nat), .int .i64 ((P ++ S).length : Nat), .func (.func 30) #[] #[.pointer (some ⟨xc, 0, none⟩)]] w fun e w' => e = .returned (.tuple #[]) ∧ Hid (∃ S', Done lev R P S Q S' ∧ Srt lo g w3 (P ++ S' ++ Q) w') := by
  have h1 : (P ++ S).length = P.length + S.length := by simp
  have h2 : (P ++ S ++ Q).length = P.length + S.length + Q.length := by simp; omega
  have HS0 := Lib.hid (And.intro h (And.intro hst hN))
  generalize hL : (P ++ S ++ Q).length = NN at *
  generalize hb : (P ++ S).length = b at *
  generalize ha : P.length = a at *
  have HL := Lib.hid (And.intro h1 (And.intro h2 ha))
  have d3 : (b : Int) ≤ 1000000 := by omega
  have d4 : (a : Int) ≤ 1000000 := by omega
  have d5 : a ≤ b := by omega
  have HC := Lib.hid hC
  clear h hst hN hC hL hb ha h1 h2
  go_enter Try.func71, Try.ntmps71
  go_wp2_with fail
  go_loopg [8] (b - a) (fun mm s8 wx => ∃ (i : Nat) (S1 S2 : List PNode), i + mm = b + 1 ∧ s8 = .int .i64 i ∧ Aside (Srt lo g w3 (P ++ S1 ++ S2 ++ Q) wx ∧ (P ++ S1 ++ S2 ++ Q).Pairwise R ∧ (S1 ++ S2).Perm S ∧ Sd lev S1 ∧ (i = a + S1.length ∨ (S1 = [] ∧ S2 = [] ∧ i = a + 1))))
  case atStart =>
    cases S with
    | nil => exact ⟨a + 1, [], [], by have := HL.out; simp at this; omega, by first | rfl | simp, by simpa using HS0.out.1, by simpa using HS0.out.2.1, by simp, by simp [Sd], .inr ⟨rfl, rfl, rfl⟩⟩
    | cons s S => exact ⟨a + 1, [s], S, by have := HL.out; simp at this; omega, by first | rfl | simp, by simpa using HS0.out.1, by simpa using HS0.out.2.1, by simp, by simp [Sd], .inl rfl⟩
  case round =>
    obtain ⟨i, S1, S2, hi, rfl, HS⟩ := hrel
    generalize gk = mm at *
    have hpl := HS.out.2.2.1.length_eq
    rw [List.length_append] at hpl
    by_cases hlt : i < b
    · have hia : i = a + S1.length := by
        rcases HS.out.2.2.2.2 with e | ⟨e1, e2, e3⟩
        · exact e
        · rw [e1, e2] at hpl
          have := HL.out.1
          simp at hpl
          omega
      obtain ⟨x, S2', hS2⟩ : ∃ x S2', S2 = x :: S2' := by
        cases S2 with
        | nil => have := HL.out.1; simp at hpl; omega
        | cons x S2' => exact ⟨x, S2', rfl⟩
      subst hS2
      have hltI : (i : Int) < (b : Int) := by omega
      have hxN : x ∈ N := HS0.out.2.2 x (HS.out.2.2.1.subset (by simp))
      have hSN : ∀ y ∈ S1, y ∈ N := fun y hy => HS0.out.2.2 y (HS.out.2.2.1.subset (by simp [hy]))
      have HIN := Lib.hid (show Srt lo g w3 ((P ++ S1) ++ x :: ([] ++ (S2' ++ Q))) wr ∧ ((P ++ S1) ++ x :: ([] ++ (S2' ++ Q))).Pairwise R ∧ S1 ++ [] = S1 ∧ ∀ r ∈ ([] : List PNode), lev x < lev r from ⟨by simpa using HS.out.1, by simpa using HS.out.2.1, by simp, by simp⟩)
      have HO := Lib.hid (And.intro hi (And.intro hia (And.intro HS.out.2.2.1 (And.intro HS.out.2.2.2.1 (And.intro hxN (And.intro hSN hpl))))))
      have d6 : (i : Int) ≤ 1000000 := by omega
      clear hpl HS hi hSN hxN hia
      go_wp2_with fail
      go_loopg [9] S1.length (fun mm s9 wx => ∃ (q : Nat) (L Rr : List PNode), L.length = mm ∧ s9 = .int .i64 q ∧ Aside (q = a + L.length ∧ Srt lo g w3 ((P ++ L) ++ x :: (Rr ++ (S2' ++ Q))) wx ∧ ((P ++ L) ++ x :: (Rr ++ (S2' ++ Q))).Pairwise R ∧ L ++ Rr = S1 ∧ ∀ r ∈ Rr, lev x < lev r))
      case atStart => exact ⟨i, S1, [], rfl, rfl, HO.out.2.1, HIN.out⟩
      case round =>
        clear HIN
        obtain ⟨j, L, Rr, hj, rfl, HI⟩ := hrel
        generalize gk = m2 at *
        rcases List.eq_nil_or_concat L with hL | ⟨L', l, hL⟩
        · subst hL
          have hja : j = a := by have := HI.out.1; simpa using this
          subst hja
          have HN := Lib.hid (ins_next (HI.out.2.1.call (Below.refl _ _).drew) HI.out.2.2.1 HI.out.2.2.2.1 HO.out.2.2.1 HO.out.2.2.2.1 (by simp) HI.out.2.2.2.2 HO.out.2.1)
          have hgt : ¬ ((j : Int) < (j : Int)) := by omega
          clear HI hj
          go_wp2_with fail
          go_region
          all_goals
            go_wp2_with fail
            go_roundg (mm - 1)
            case measure => have := HO.out.1; omega
            case rel => exact ⟨i + 1, x :: Rr, S2', by have := HO.out.1; omega, by first | rfl | simp, HN.out⟩
        · rw [List.concat_eq_append] at hL
          subst hL
          have hjq : j = (a + L'.length) + 1 := by have := HI.out.1; simp at this; omega
          obtain ⟨q, hq⟩ : ∃ q, q = a + L'.length := ⟨_, rfl⟩
          rw [← hq] at hjq
          have HJ := Lib.hid hjq
          have hj1 : (j : Int) - 1 = (q : Int) := by omega
          have hXE : (P ++ (L' ++ [l])) ++ x :: (Rr ++ (S2' ++ Q)) = (P ++ L') ++ l :: x :: (Rr ++ (S2' ++ Q)) := by simp
          have hpl : (P ++ L').length = q := by rw [List.length_append, HL.out.2.2]; omega
          have hS2 := HI.out.2.1
          rw [hXE] at hS2
          have hxi : ((P ++ L') ++ l :: x :: (Rr ++ (S2' ++ Q)))[j]? = some x := by
            rw [hjq, ← hpl, List.getElem?_append_right (by omega), show (P ++ L').length + 1 - (P ++ L').length = 1 by omega]; rfl
          have hli : ((P ++ L') ++ l :: x :: (Rr ++ (S2' ++ Q)))[q]? = some l := by
            rw [← hpl, List.getElem?_append_right (Nat.le_refl _), Nat.sub_self]; rfl
          obtain ⟨x0, x1, x2⟩ := hS2.row.node _ _ hxi
          obtain ⟨l0, l1, l2⟩ := hS2.row.node _ _ hli
          have hgl : g < wr.heap.size := Nat.lt_of_lt_of_le hS2.lt hS2.near.size
          have hlN : l ∈ N := HO.out.2.2.2.2.2.1 l (by rw [← HI.out.2.2.2.1]; simp)
          have HK := Lib.hid fun (W : World) (hW : Below wr.heap.size wr W) => show (W.cell? ⟨g, j * 3, none⟩ = some (.bool x.nr) ∧ W.cell? ⟨g, j * 3 + 1, none⟩ = some (.int .i64 x.nm) ∧ W.cell? ⟨g, j * 3 + 2, none⟩ = some (.int .i64 x.na) ∧ W.cell? ⟨g, q * 3, none⟩ = some (.bool l.nr) ∧ W.cell? ⟨g, q * 3 + 1, none⟩ = some (.int .i64 l.nm) ∧ W.cell? ⟨g, q * 3 + 2, none⟩ = some (.int .i64 l.na)) ∧ Hid (Below wr.heap.size wr W) from
            ⟨⟨(hW.cell (p := ⟨g, j * 3, none⟩) hgl).trans x0, (hW.cell (p := ⟨g, j * 3 + 1, none⟩) hgl).trans x1, (hW.cell (p := ⟨g, j * 3 + 2, none⟩) hgl).trans x2, (hW.cell (p := ⟨g, q * 3, none⟩) hgl).trans l0, (hW.cell (p := ⟨g, q * 3 + 1, none⟩) hgl).trans l1, (hW.cell (p := ⟨g, q * 3 + 2, none⟩) hgl).trans l2⟩, Lib.hid hW⟩
          have HT := Lib.hid fun (W V' : World) (hW : (W.cell? ⟨g, j * 3, none⟩ = some (.bool x.nr) ∧ W.cell? ⟨g, j * 3 + 1, none⟩ = some (.int .i64 x.nm) ∧ W.cell? ⟨g, j * 3 + 2, none⟩ = some (.int .i64 x.na) ∧ W.cell? ⟨g, q * 3, none⟩ = some (.bool l.nr) ∧ W.cell? ⟨g, q * 3 + 1, none⟩ = some (.int .i64 l.nm) ∧ W.cell? ⟨g, q * 3 + 2, none⟩ = some (.int .i64 l.na)) ∧ Hid (Below wr.heap.size wr W)) (hV : Below W.heap.size W V') => HK.out V' (hW.2.out.trans (hV.mono hW.2.out.size))
          have HCM := Lib.hid fun (W : World) (hW : (W.cell? ⟨g, j * 3, none⟩ = some (.bool x.nr) ∧ W.cell? ⟨g, j * 3 + 1, none⟩ = some (.int .i64 x.nm) ∧ W.cell? ⟨g, j * 3 + 2, none⟩ = some (.int .i64 x.na) ∧ W.cell? ⟨g, q * 3, none⟩ = some (.bool l.nr) ∧ W.cell? ⟨g, q * 3 + 1, none⟩ = some (.int .i64 l.nm) ∧ W.cell? ⟨g, q * 3 + 2, none⟩ = some (.int .i64 l.na)) ∧ Hid (Below wr.heap.size wr W)) => HC.out W x l (hS2.call hW.2.out).near HO.out.2.2.2.2.1 hlN
          have eg := enters_of Try.func30 (by kernel_rfl) rfl
          have HS2 := Lib.hid (And.intro hS2 (And.intro hpl (And.intro hxi hli)))
          have hgt : (a : Int) < (j : Int) := by omega
          have hj0 : (0 : Int) ≤ (j : Int) := by omega
          have hq0 : (0 : Int) ≤ (q : Int) := by omega
          have hqN : (j : Int) < (NN : Int) := by have := HL.out.1; have := HL.out.2.1; have := HO.out.2.2.2.2.2.2; have := congrArg List.length HI.out.2.2.2.1; have := HO.out.2.1; simp at *; omega
          have hjm : (j : Int) ≤ 1000000 := by omega
          have hq2 : (q : Int) < (NN : Int) := by omega
          have hq3 : (q : Int) ≤ 1000000 := by omega
          have hj2 : (1 : Int) ≤ (j : Int) := by omega
          have hwr : IntKind.i64.wrap (q : Int) = (q : Int) := by simp (disch := omega) only [IntWalk.i64_in]
          have HQ := Lib.hid (And.intro hq hj)
          clear hxi hli hlN hXE hpl hq hj hjq
          by_cases hlt2 : lev x < lev l
          · have HP := Lib.hid (stable_swap hR (by have := HI.out.2.2.1; rw [show (P ++ (L' ++ [l])) ++ x :: (Rr ++ (S2' ++ Q)) = (P ++ L') ++ l :: x :: (Rr ++ (S2' ++ Q)) by simp] at this; exact this) hlt2)
            have HH := Lib.hid (And.intro HI.out.2.2.2.1 (And.intro HI.out.2.2.2.2 hlt2))
            clear HI hS2 hlt2
            go_wp2_with fail
            go_region_held3 (fun W => (W.cell? ⟨g, j * 3, none⟩ = some (.bool x.nr) ∧ W.cell? ⟨g, j * 3 + 1, none⟩ = some (.int .i64 x.nm) ∧ W.cell? ⟨g, j * 3 + 2, none⟩ = some (.int .i64 x.na) ∧ W.cell? ⟨g, q * 3, none⟩ = some (.bool l.nr) ∧ W.cell? ⟨g, q * 3 + 1, none⟩ = some (.int .i64 l.nm) ∧ W.cell? ⟨g, q * 3 + 2, none⟩ = some (.int .i64 l.na)) ∧ Hid (Below wr.heap.size wr W)) (first | exact HK.out _ (Below.refl _ _).drew | exact HT.out _ _ (by assumption) (by assumption) | go_keep)
              (first
                | (go_at_call 30; refine (HCM.out _ (by assumption)).mono ?_; rintro e w5 ⟨cc, rfl, hc1, hc2, hb5⟩; have hcc := hc1 HH.out.2.2; subst hcc)
                | fail)
            all_goals
              obtain ⟨⟨y0, y1, y2, z0, z1, z2⟩, hb6⟩ := (show (w5.cell? ⟨g, j * 3, none⟩ = some (.bool x.nr) ∧ w5.cell? ⟨g, j * 3 + 1, none⟩ = some (.int .i64 x.nm) ∧ w5.cell? ⟨g, j * 3 + 2, none⟩ = some (.int .i64 x.na) ∧ w5.cell? ⟨g, q * 3, none⟩ = some (.bool l.nr) ∧ w5.cell? ⟨g, q * 3 + 1, none⟩ = some (.int .i64 l.nm) ∧ w5.cell? ⟨g, q * 3 + 2, none⟩ = some (.int .i64 l.na)) ∧ Hid (Below wr.heap.size wr w5) from by assumption)
              have hS5 := HS2.out.1.call hb6.out
              have hfr := hS5.row.free
              have HW := Lib.hid (hS5.swap HS2.out.2.2.1 HS2.out.2.2.2 (show j ≠ q by have := HJ.out; omega))
              have hz := swap_next (P := P ++ L') (x := x) (l := l) (Q := Rr ++ (S2' ++ Q))
              rw [HS2.out.2.1, ← HJ.out] at hz
              have HZ := Lib.hid hz
              rename_i hrest
              clear hrest x0 x1 x2 l0 l1 l2 hz hS5 hb6 hb5 HK HT HCM eg
              go_wp2_with fail
              go_region
              all_goals
                go_wp2_with fail
                go_roundg (m2 - 1)
                case measure => have := HQ.out.2; simp at this; omega
                case rel => exact ⟨q, L', l :: Rr, by have := HQ.out.2; simp at this; omega, by first | rfl | simp, HQ.out.1, by have := HW.out; rw [HZ.out] at this; exact this, HP.out, by rw [← HH.out.1]; simp, fun r hr => by
                  rcases List.mem_cons.1 hr with e | e
                  · subst e; exact HH.out.2.2
                  · exact HH.out.2.1 r e⟩
          · have HP := Lib.hid (And.intro HI.out.2.1 (And.intro HI.out.2.2.1 (And.intro HI.out.2.2.2.1 (And.intro HI.out.2.2.2.2 hlt2))))
            clear HI hS2 hlt2
            go_wp2_with fail
            go_region_held3 (fun W => (W.cell? ⟨g, j * 3, none⟩ = some (.bool x.nr) ∧ W.cell? ⟨g, j * 3 + 1, none⟩ = some (.int .i64 x.nm) ∧ W.cell? ⟨g, j * 3 + 2, none⟩ = some (.int .i64 x.na) ∧ W.cell? ⟨g, q * 3, none⟩ = some (.bool l.nr) ∧ W.cell? ⟨g, q * 3 + 1, none⟩ = some (.int .i64 l.nm) ∧ W.cell? ⟨g, q * 3 + 2, none⟩ = some (.int .i64 l.na)) ∧ Hid (Below wr.heap.size wr W)) (first | exact HK.out _ (Below.refl _ _).drew | exact HT.out _ _ (by assumption) (by assumption) | go_keep)
              (first
                | (go_at_call 30; refine (HCM.out _ (by assumption)).mono ?_; rintro e w5 ⟨cc, rfl, hc1, hc2, hb5⟩; have hcn : ¬ cc < 0 := (by have := hc2 HP.out.2.2.2.2; omega))
                | fail)
            all_goals
              have hb6 := (show (w5.cell? ⟨g, j * 3, none⟩ = some (.bool x.nr) ∧ w5.cell? ⟨g, j * 3 + 1, none⟩ = some (.int .i64 x.nm) ∧ w5.cell? ⟨g, j * 3 + 2, none⟩ = some (.int .i64 x.na) ∧ w5.cell? ⟨g, q * 3, none⟩ = some (.bool l.nr) ∧ w5.cell? ⟨g, q * 3 + 1, none⟩ = some (.int .i64 l.nm) ∧ w5.cell? ⟨g, q * 3 + 2, none⟩ = some (.int .i64 l.na)) ∧ Hid (Below wr.heap.size wr w5) from by assumption).2
              have hx : ∀ e ∈ L' ++ [l], lev e ≤ lev x := fun e he => by
                have h1 := HO.out.2.2.2.1
                rw [← HP.out.2.2.1] at h1
                unfold Sd at h1
                rw [List.pairwise_append, List.pairwise_append] at h1
                have h2 := HP.out.2.2.2.2
                rcases List.mem_append.1 he with h3 | h3
                · have := h1.1.2.2 e h3 l (by simp)
                  omega
                · simp at h3
                  subst h3
                  omega
              have HN := Lib.hid (ins_next (HP.out.1.call hb6.out) HP.out.2.1 HP.out.2.2.1 HO.out.2.2.1 HO.out.2.2.2.1 hx HP.out.2.2.2.1 HO.out.2.1)
              rename_i hrest
              clear hrest x0 x1 x2 l0 l1 l2 hx hb6 hb5 HK HT HCM eg
              go_wp2_with fail
              go_roundg (mm - 1)
              case measure => have := HO.out.1; omega
              case rel => exact ⟨i + 1, (L' ++ [l]) ++ x :: Rr, S2', by have := HO.out.1; omega, by first | rfl | simp, HN.out⟩
    · have hltn : ¬ ((i : Int) < (b : Int)) := by omega
      have hS2 : S2 = [] := by
        rcases HS.out.2.2.2.2 with e | ⟨e1, e2, e3⟩
        · have := HL.out.1
          exact List.eq_nil_of_length_eq_zero (by omega)
        · exact e2
      subst hS2
      have HE := Lib.hid (show ∃ S', Done lev R P S Q S' ∧ Srt lo g w3 (P ++ S' ++ Q) wr from ⟨S1, ⟨by simpa using HS.out.2.2.1, HS.out.2.2.2.1, by simpa using HS.out.2.1⟩, by simpa using HS.out.1⟩)
      clear HS hpl
      go_wp2_with fail
      go_end0
      exact ⟨rfl, Lib.hid (by simpa using HE.out)⟩
end Go.Proofs.Ytchnpooijaalnaa

namespace Go.Proofs.Ytchnpooijaalnaa
open Go.ChangeShapes Go.WideShapes Go.RowKit
set_option linter.unusedVariables false

/-- The key of the node at place i. -/
def la (lev : PNode → Int) (X : List PNode) (i : Nat) : Int := match X[i]? with | some x => lev x | none => 0
theorem la_at {lev : PNode → Int} {X : List PNode} {i : Nat} {x : PNode} (h : X[i]? = some x) : la lev X i = lev x := by unfold la; rw [h]
theorem wrap_in {n : Int} (h0 : -1000000000 ≤ n) (h1 : n ≤ 1000000000) : IntKind.i64.wrap n = n := by simp (disch := omega) only [IntWalk.i64_in]
theorem swap_right {P Q : List PNode} {x y : PNode} : swp (P ++ x :: y :: Q) P.length (P.length + 1) x y = P ++ y :: x :: Q := by
  have := swap_lists (P := P) (A := []) (Q := Q) (x := x) (y := y)
  simpa using this
theorem at_right {P Q : List PNode} {x : PNode} {k : Nat} (h : P.length = k) : (P ++ x :: Q)[k]? = some x := by
  rw [← h, List.getElem?_append_right (Nat.le_refl _), Nat.sub_self]; rfl
theorem at_next {P Q : List PNode} {x y : PNode} {k : Nat} (h : P.length = k) : (P ++ x :: y :: Q)[k + 1]? = some y := by
  rw [← h, List.getElem?_append_right (by omega), show P.length + 1 - P.length = 1 by omega]; rfl
variable {lo g : Nat} {w3 : World} {N : List PNode} {lev : PNode → Int} {R : PNode → PNode → Prop} {xc : Nat}
/-- In a list by rising keys all up to a place have no greater key than the node there. -/
theorem sd_upto {S : List PNode} (h : Sd lev S) {i j : Nat} {x y : PNode} (hi : S[i]? = some x) (hj : S[j]? = some y) (hij : i ≤ j) : lev x ≤ lev y := by
  rcases Nat.lt_or_eq_of_le hij with h1 | h1
  · have h2 := List.pairwise_iff_getElem.1 h i j (lt_of_some hi) (lt_of_some hj) h1
    rw [List.getElem_eq_getElem?_get, List.getElem_eq_getElem?_get] at h2
    simpa [hi, hj] using h2
  · subst h1
    rw [hi] at hj
    injection hj with hj
    rw [hj]
    exact Int.le_refl _
/-- A node that is put behind the first p of a list by rising keys. -/
theorem sd_put {S : List PNode} {x : PNode} {p : Nat} (h : Sd lev S) (hp : p ≤ S.length) (h1 : ∀ y, 0 < p → S[p - 1]? = some y → lev y ≤ lev x) (h2 : ∀ y, S[p]? = some y → lev x ≤ lev y) : Sd lev (S.take p ++ x :: S.drop p) := by
  have h0 : Sd lev (S.take p ++ S.drop p) := by rw [List.take_append_drop]; exact h
  unfold Sd at h0 ⊢
  rw [List.pairwise_append] at h0 ⊢
  rw [List.pairwise_cons]
  have hd : ∀ r ∈ S.drop p, lev x ≤ lev r := fun r hr => by
    obtain ⟨k, hk⟩ := List.mem_iff_getElem?.1 hr
    rw [List.getElem?_drop] at hk
    obtain ⟨y, hy⟩ := some_of_lt (show p < S.length by have := lt_of_some hk; omega)
    have := h2 y hy
    have := sd_upto h hy hk (by omega)
    omega
  have ht : ∀ e ∈ S.take p, lev e ≤ lev x := fun e he => by
    obtain ⟨k, hk⟩ := List.mem_iff_getElem?.1 he
    have hkl := lt_of_some hk
    rw [List.length_take] at hkl
    rw [List.getElem?_take_of_lt (by omega)] at hk
    obtain ⟨y, hy⟩ := some_of_lt (show p - 1 < S.length by omega)
    have := h1 y (by omega) hy
    have := sd_upto h hk hy (by omega)
    omega
  refine ⟨h0.1, ⟨hd, h0.2.1⟩, fun e he r hr => ?_⟩
  rcases List.mem_cons.1 hr with e1 | e1
  · subst e1; exact ht e he
  · exact h0.2.2 e he r e1

set_option maxRecDepth 100000 in
set_option maxHeartbeats 4000000 in
theorem sym_one (hC : Cmps lo g w3 N lev xc) (hR : ∀ x y, lev x ≠ lev y → R x y) (P S2 Q : List PNode) (x : PNode) (c : Nat) (w : World) (h : Srt lo g w3 (P ++ [x] ++ S2 ++ Q) w) (hN : ∀ y ∈ P ++ [x] ++ S2 ++ Q, y ∈ N) (hst : (P ++ [x] ++ S2 ++ Q).Pairwise R) (hs2 : Sd lev S2) (hn : (P ++ [x] ++ S2 ++ Q).length ≤ 1000000) :
    Calls Try.prog 72 #[.slice (some ⟨g, 0, none⟩) (P ++ [x] ++ S2 ++ Q).length c, .int .i64 (P.length : Nat), .int .i64 ((P ++ [x]).length : Nat), .int .i64 ((P ++ [x] ++ S2).length : Nat), .func (.func 30) #[] #[.pointer (some ⟨xc, 0, none⟩)]] w fun e w' => e = .returned (.tuple #[]) ∧ Hid (∃ S', Done lev R P ([x] ++ S2) Q S' ∧ Srt lo g w3 (P ++ S' ++ Q) w') := by
  have h1 : (P ++ [x]).length = P.length + 1 := by simp
  have h2 : (P ++ [x] ++ S2).length = P.length + 1 + S2.length := by simp; omega
  have h3 : (P ++ [x] ++ S2 ++ Q).length = P.length + 1 + S2.length + Q.length := by simp; omega
  have hx : (P ++ [x] ++ S2 ++ Q)[P.length]? = some x := by rw [List.append_assoc, List.append_assoc, List.getElem?_append_right (Nat.le_refl _), Nat.sub_self]; rfl
  have hS2 : ∀ k, k < S2.length → (P ++ [x] ++ S2 ++ Q)[P.length + 1 + k]? = S2[k]? := fun k hk => by
    rw [List.append_assoc, List.getElem?_append_right (by simp), List.getElem?_append_left (by simp; omega)]
    congr 1
    simp
  generalize hX : P ++ [x] ++ S2 ++ Q = X at *
  generalize hL : X.length = NN at *
  generalize hb : (P ++ [x] ++ S2).length = b at *
  generalize hm : (P ++ [x]).length = m at *
  generalize ha : P.length = a at *
  have e1 : (m : Int) - (a : Int) = 1 := by omega
  have d3 : (b : Int) ≤ 1000000 := by omega
  have d4 : (NN : Int) ≤ 1000000 := by omega
  have d5 : (a : Int) < (NN : Int) := by omega
  have d6 : (0 : Int) ≤ (a : Int) := by omega
  have HN := Lib.hid hN
  have HA := Lib.hid (And.intro h1 (And.intro h2 (And.intro h3 (And.intro ha hL))))
  have HX := Lib.hid (And.intro hX (And.intro hx hS2))
  have HP := Lib.hid (And.intro hst (And.intro hs2 h))
  have HC := Lib.hid hC
  clear h hst hN hX hL hb hm ha h1 h2 h3 hx hs2 hC hS2
  go_enter Try.func72, Try.ntmps72
  go_wp2_with fail
  go_loopg [10, 11] (b - m) (fun mm s10 s11 wx => ∃ (i j : Nat), j - i = mm ∧ s10 = .int .i64 i ∧ s11 = .int .i64 j ∧ Aside (m ≤ i ∧ i ≤ j ∧ j ≤ b ∧ Srt lo g w3 X wx ∧ (m < i → la lev X (i - 1) < lev x) ∧ (j < b → ¬ la lev X j < lev x)))
  case atStart => exact ⟨m, b, rfl, rfl, rfl, Nat.le_refl _, by have := HA.out; omega, Nat.le_refl _, HP.out.2.2, fun h => by omega, fun h => by omega⟩
  case round =>
    obtain ⟨i, j, hij, rfl, rfl, HS⟩ := hrel
    generalize gk = mm at *
    by_cases hlt : i < j
    · have hltI : (i : Int) < (j : Int) := by omega
      have hj1 : (j : Int) ≤ 1000000 := by have := HS.out.2.2.1; omega
      have hi1 : (i : Int) ≤ 1000000 := by omega
      obtain ⟨k, hk⟩ : ∃ k, k = (i + j) / 2 := ⟨_, rfl⟩
      have hmid : ((i : Int) + (j : Int)) / 2 = (k : Int) := by omega
      have hkN : (k : Int) < (NN : Int) := by have := HA.out; have := HS.out.2.2.1; omega
      have hk0 : (0 : Int) ≤ (k : Int) := by omega
      have hkm : (k : Int) ≤ 1000000 := by omega
      obtain ⟨y, hy⟩ := some_of_lt (show k < X.length by have := HA.out; omega)
      have HY := Lib.hid (And.intro hy (And.intro hk (And.intro hij hlt)))
      have hSs := HS.out.2.2.2.1
      obtain ⟨p0, p1, p2⟩ := hSs.row.node _ _ hy
      obtain ⟨q0, q1, q2⟩ := hSs.row.node _ _ HX.out.2.1
      have hgl : g < wr.heap.size := Nat.lt_of_lt_of_le hSs.lt hSs.near.size
      have HK := Lib.hid fun (W : World) (hW : Below wr.heap.size wr W) => show (W.cell? ⟨g, k * 3, none⟩ = some (.bool y.nr) ∧ W.cell? ⟨g, k * 3 + 1, none⟩ = some (.int .i64 y.nm) ∧ W.cell? ⟨g, k * 3 + 2, none⟩ = some (.int .i64 y.na) ∧ W.cell? ⟨g, a * 3, none⟩ = some (.bool x.nr) ∧ W.cell? ⟨g, a * 3 + 1, none⟩ = some (.int .i64 x.nm) ∧ W.cell? ⟨g, a * 3 + 2, none⟩ = some (.int .i64 x.na)) ∧ Hid (Below wr.heap.size wr W) from ⟨⟨(hW.cell (p := ⟨g, k * 3, none⟩) hgl).trans p0, (hW.cell (p := ⟨g, k * 3 + 1, none⟩) hgl).trans p1, (hW.cell (p := ⟨g, k * 3 + 2, none⟩) hgl).trans p2, (hW.cell (p := ⟨g, a * 3, none⟩) hgl).trans q0, (hW.cell (p := ⟨g, a * 3 + 1, none⟩) hgl).trans q1, (hW.cell (p := ⟨g, a * 3 + 2, none⟩) hgl).trans q2⟩, Lib.hid hW⟩
      have HT := Lib.hid fun (W V' : World) (hW : (W.cell? ⟨g, k * 3, none⟩ = some (.bool y.nr) ∧ W.cell? ⟨g, k * 3 + 1, none⟩ = some (.int .i64 y.nm) ∧ W.cell? ⟨g, k * 3 + 2, none⟩ = some (.int .i64 y.na) ∧ W.cell? ⟨g, a * 3, none⟩ = some (.bool x.nr) ∧ W.cell? ⟨g, a * 3 + 1, none⟩ = some (.int .i64 x.nm) ∧ W.cell? ⟨g, a * 3 + 2, none⟩ = some (.int .i64 x.na)) ∧ Hid (Below wr.heap.size wr W)) (hV : Below W.heap.size W V') => HK.out V' (hW.2.out.trans (hV.mono hW.2.out.size))
      have HCM := Lib.hid fun (W : World) (hW : (W.cell? ⟨g, k * 3, none⟩ = some (.bool y.nr) ∧ W.cell? ⟨g, k * 3 + 1, none⟩ = some (.int .i64 y.nm) ∧ W.cell? ⟨g, k * 3 + 2, none⟩ = some (.int .i64 y.na) ∧ W.cell? ⟨g, a * 3, none⟩ = some (.bool x.nr) ∧ W.cell? ⟨g, a * 3 + 1, none⟩ = some (.int .i64 x.nm) ∧ W.cell? ⟨g, a * 3 + 2, none⟩ = some (.int .i64 x.na)) ∧ Hid (Below wr.heap.size wr W)) => HC.out W y x (hSs.call hW.2.out).near (HN.out y (mem_of_some hy)) (HN.out x (mem_of_some HX.out.2.1))
      have eg := enters_of Try.func30 (by kernel_rfl) rfl
      have HSs := Lib.hid hSs
      clear hSs
      clear hy hk hij hlt
      by_cases hc : lev y < lev x
      · have HLT := Lib.hid hc
        clear hc
        go_wp2_with fail
        go_region_held3 (fun W => (W.cell? ⟨g, k * 3, none⟩ = some (.bool y.nr) ∧ W.cell? ⟨g, k * 3 + 1, none⟩ = some (.int .i64 y.nm) ∧ W.cell? ⟨g, k * 3 + 2, none⟩ = some (.int .i64 y.na) ∧ W.cell? ⟨g, a * 3, none⟩ = some (.bool x.nr) ∧ W.cell? ⟨g, a * 3 + 1, none⟩ = some (.int .i64 x.nm) ∧ W.cell? ⟨g, a * 3 + 2, none⟩ = some (.int .i64 x.na)) ∧ Hid (Below wr.heap.size wr W)) (first | exact HK.out _ (Below.refl _ _).drew | exact HT.out _ _ (by assumption) (by assumption) | go_keep)
          (first
            | (go_at_call 30; refine (HCM.out _ (by assumption)).mono ?_; rintro e w5 ⟨cc, rfl, hc1, hc2, hb5⟩; have hcc := hc1 HLT.out; subst hcc)
            | fail)
        all_goals
          have HB5 := Lib.hid (HSs.out.call (show (w5.cell? ⟨g, k * 3, none⟩ = some (.bool y.nr) ∧ w5.cell? ⟨g, k * 3 + 1, none⟩ = some (.int .i64 y.nm) ∧ w5.cell? ⟨g, k * 3 + 2, none⟩ = some (.int .i64 y.na) ∧ w5.cell? ⟨g, a * 3, none⟩ = some (.bool x.nr) ∧ w5.cell? ⟨g, a * 3 + 1, none⟩ = some (.int .i64 x.nm) ∧ w5.cell? ⟨g, a * 3 + 2, none⟩ = some (.int .i64 x.na)) ∧ Hid (Below wr.heap.size wr w5) from by assumption).2.out)
          rename_i hrest
          clear hrest p0 p1 p2 q0 q1 q2 hb5 HK HT HCM eg
          go_wp2_with fail
          go_roundg (j - (k + 1))
          case measure => have := HY.out.2.1; have := HY.out.2.2; omega
          case rel => exact ⟨k + 1, j, rfl, by first | rfl | simp, rfl, by have := HS.out.1; have := HY.out.2; omega, by have := HY.out.2; omega, HS.out.2.2.1, HB5.out, fun _ => by rw [Nat.add_sub_cancel, la_at HY.out.1]; exact HLT.out, HS.out.2.2.2.2.2⟩
      · have HLT := Lib.hid hc
        clear hc
        go_wp2_with fail
        go_region_held3 (fun W => (W.cell? ⟨g, k * 3, none⟩ = some (.bool y.nr) ∧ W.cell? ⟨g, k * 3 + 1, none⟩ = some (.int .i64 y.nm) ∧ W.cell? ⟨g, k * 3 + 2, none⟩ = some (.int .i64 y.na) ∧ W.cell? ⟨g, a * 3, none⟩ = some (.bool x.nr) ∧ W.cell? ⟨g, a * 3 + 1, none⟩ = some (.int .i64 x.nm) ∧ W.cell? ⟨g, a * 3 + 2, none⟩ = some (.int .i64 x.na)) ∧ Hid (Below wr.heap.size wr W)) (first | exact HK.out _ (Below.refl _ _).drew | exact HT.out _ _ (by assumption) (by assumption) | go_keep)
          (first
            | (go_at_call 30; refine (HCM.out _ (by assumption)).mono ?_; rintro e w5 ⟨cc, rfl, hc1, hc2, hb5⟩; have hcn : ¬ cc < 0 := (by have := hc2 HLT.out; omega))
            | fail)
        all_goals
          have HB5 := Lib.hid (HSs.out.call (show (w5.cell? ⟨g, k * 3, none⟩ = some (.bool y.nr) ∧ w5.cell? ⟨g, k * 3 + 1, none⟩ = some (.int .i64 y.nm) ∧ w5.cell? ⟨g, k * 3 + 2, none⟩ = some (.int .i64 y.na) ∧ w5.cell? ⟨g, a * 3, none⟩ = some (.bool x.nr) ∧ w5.cell? ⟨g, a * 3 + 1, none⟩ = some (.int .i64 x.nm) ∧ w5.cell? ⟨g, a * 3 + 2, none⟩ = some (.int .i64 x.na)) ∧ Hid (Below wr.heap.size wr w5) from by assumption).2.out)
          rename_i hrest
          clear hrest p0 p1 p2 q0 q1 q2 hb5 HK HT HCM eg
          go_wp2_with fail
          go_roundg (k - i)
          case measure => have := HY.out.2.1; have := HY.out.2.2; omega
          case rel => exact ⟨i, k, rfl, rfl, by first | rfl | simp, HS.out.1, by have := HY.out.2; omega, by have := HS.out.2.2.1; have := HY.out.2; omega, HB5.out, HS.out.2.2.2.2.1, fun _ => by rw [la_at HY.out.1]; exact HLT.out⟩
    · have hji : j = i := by have := HS.out.2.1; omega
      subst hji
      obtain ⟨p, hp⟩ : ∃ p, j = m + p := ⟨j - m, by have := HS.out.1; omega⟩
      obtain ⟨ap, hap⟩ : ∃ ap, ap = a + p := ⟨_, rfl⟩
      have hpl : p ≤ S2.length := by have := HS.out.2.2.1; have := HA.out; omega
      have hlo : ∀ y, 0 < p → S2[p - 1]? = some y → lev y < lev x := fun y h0 hy => by
        have h1 := HS.out.2.2.2.2.1 (by omega)
        have h2 := HX.out.2.2 (p - 1) (by omega)
        rw [hy] at h2
        rw [show j - 1 = a + 1 + (p - 1) by have := HA.out; omega, la_at h2] at h1
        exact h1
      have hhi : ∀ y, S2[p]? = some y → lev x ≤ lev y := fun y hy => by
        have hpl2 := lt_of_some hy
        have h1 := HS.out.2.2.2.2.2 (by have := HA.out; omega)
        have h2 := HX.out.2.2 p hpl2
        rw [hy] at h2
        rw [show j = a + 1 + p by have := HA.out; omega, la_at h2] at h1
        omega
      have hi1 : (j : Int) - 1 = (ap : Int) := by have := HA.out; omega
      have hapm : (ap : Int) ≤ 1000000 := by have := HS.out.2.2.1; omega
      have hap0 : (0 : Int) ≤ (ap : Int) := by omega
      have hwr := wrap_in (n := (ap : Int)) (by omega) (by omega)
      have hjj : ¬ ((j : Int) < (j : Int)) := by omega
      have HQ0 := Lib.hid (show Srt lo g w3 ((P ++ S2.take 0) ++ x :: (S2.drop 0 ++ Q)) wr ∧ ((P ++ S2.take 0) ++ x :: (S2.drop 0 ++ Q)).Pairwise R from
        ⟨by have := HS.out.2.2.2.1; rw [← HX.out.1] at this; simpa using this, by have := HP.out.1; rw [← HX.out.1] at this; simpa using this⟩)
      have HR2 := Lib.hid (And.intro hp (And.intro hap (And.intro hpl (And.intro hlo hhi))))
      have hmj : (m : Int) ≤ 1000000 := by have := HA.out; omega
      clear hp hap hpl hlo hhi HS hij hlt
      go_wp2_with fail
      go_loopg [13] p (fun mm s13 wx => ∃ (t k : Nat), t + mm = p ∧ s13 = .int .i64 k ∧ Aside (k = a + t ∧ Srt lo g w3 ((P ++ S2.take t) ++ x :: (S2.drop t ++ Q)) wx ∧ ((P ++ S2.take t) ++ x :: (S2.drop t ++ Q)).Pairwise R))
      case atStart => exact ⟨0, a, by omega, rfl, rfl, HQ0.out⟩
      case round =>
        clear HQ0
        obtain ⟨t, k, ht, rfl, HI⟩ := hrel
        generalize gk = m2 at *
        by_cases htp : t < p
        · obtain ⟨y, hy⟩ := some_of_lt (show t < S2.length by have := HR2.out.2.2.1; omega)
          have hka : (k : Int) < (ap : Int) := by have := HI.out.1; have := HR2.out.2.1; omega
          obtain ⟨k1, hk1⟩ : ∃ k1, k1 = k + 1 := ⟨_, rfl⟩
          have hk2 : (k : Int) + 1 = (k1 : Int) := by omega
          have hkm : (k : Int) ≤ 1000000 := by omega
          have hk0 : (0 : Int) ≤ (k : Int) := by omega
          have hk10 : (0 : Int) ≤ (k1 : Int) := by omega
          have hk1m : (k1 : Int) ≤ 1000001 := by omega
          have hwk := wrap_in (n := (k1 : Int)) (by omega) (by omega)
          have hkN : (k : Int) < (NN : Int) := by have := HA.out; have := HR2.out; omega
          have hk1N : (k1 : Int) < (NN : Int) := by have := HA.out; have := HR2.out.1; have := HR2.out.2.1; have := HR2.out.2.2.1; omega
          have hXE : (P ++ S2.take t) ++ x :: (S2.drop t ++ Q) = (P ++ S2.take t) ++ x :: y :: (S2.drop (t + 1) ++ Q) := by rw [drop_some hy]; simp
          have hpl : (P ++ S2.take t).length = k := by rw [List.length_append, List.length_take, HA.out.2.2.2.1, HI.out.1]; have := lt_of_some hy; omega
          have hS3 := HI.out.2.1
          rw [hXE] at hS3
          have hX1 : ((P ++ S2.take t) ++ x :: y :: (S2.drop (t + 1) ++ Q))[k]? = some x := at_right hpl
          have hX2 : ((P ++ S2.take t) ++ x :: y :: (S2.drop (t + 1) ++ Q))[k1]? = some y := by rw [hk1]; exact at_next hpl
          obtain ⟨x0, x1, x2⟩ := hS3.row.node _ _ hX1
          obtain ⟨y0, y1, y2⟩ := hS3.row.node _ _ hX2
          have hfr := hS3.row.free
          have hyx : lev y < lev x := by
            obtain ⟨z, hz⟩ := some_of_lt (show p - 1 < S2.length by have := HR2.out.2.2.1; omega)
            have := HR2.out.2.2.2.1 z (by omega) hz
            have := sd_upto HP.out.2.1 hy hz (by omega)
            omega
          have hz := swap_right (P := P ++ S2.take t) (Q := S2.drop (t + 1) ++ Q) (x := x) (y := y)
          rw [hpl, ← hk1] at hz
          have hnext : (P ++ S2.take (t + 1)) ++ x :: (S2.drop (t + 1) ++ Q) = (P ++ S2.take t) ++ y :: x :: (S2.drop (t + 1) ++ Q) := by rw [take_some hy]; simp
          have HW := Lib.hid (hS3.swap hX1 hX2 (show k ≠ k1 by omega))
          have HZ := Lib.hid (And.intro hz (And.intro hnext (And.intro (stable_swap hR (hXE ▸ HI.out.2.2) hyx) (And.intro hk1 (And.intro ht htp)))))
          clear hz hnext hX1 hX2 hyx hS3 hXE hpl hy hk1 ht htp
          go_wp2_with fail
          go_region
          all_goals
            go_wp2_with fail
            go_roundg (m2 - 1)
            case measure => have := HZ.out.2.2.2.2; omega
            case rel => exact ⟨t + 1, k1, by have := HZ.out.2.2.2.2; omega, by first | rfl | simp, by have := HZ.out.2.2.2.1; have := HI.out.1; omega, by rw [HZ.out.2.1, ← HZ.out.1]; exact HW.out, by rw [HZ.out.2.1]; exact HZ.out.2.2.1⟩
        · have hka : ¬ ((k : Int) < (ap : Int)) := by have := HI.out.1; have := HR2.out.2.1; omega
          have htt : t = p := by omega
          subst htt
          have HE := Lib.hid (show ∃ S', Done lev R P ([x] ++ S2) Q S' ∧ Srt lo g w3 (P ++ S' ++ Q) wr from by
            refine ⟨S2.take t ++ x :: S2.drop t, ⟨?_, sd_put HP.out.2.1 HR2.out.2.2.1 (fun y h0 hy => by have := HR2.out.2.2.2.1 y h0 hy; omega) HR2.out.2.2.2.2, by simpa using HI.out.2.2⟩, by simpa using HI.out.2.1⟩
            refine List.Perm.trans List.perm_middle ?_
            rw [List.take_append_drop]
            exact List.Perm.refl _)
          clear HI ht
          go_wp2_with fail
          (try simp only [Exit.inBlock, Exit.then])
          refine bodyPost_ret (results_none rfl _ _ _) rfl ?_
          exact ⟨rfl, Lib.hid (by simpa using HE.out)⟩
end Go.Proofs.Ytchnpooijaalnaa

namespace Go.Proofs.Ytchnpooijaalnaa
open Go.ChangeShapes Go.WideShapes Go.RowKit
set_option linter.unusedVariables false
variable {lo g : Nat} {w3 : World} {N : List PNode} {lev : PNode → Int} {R : PNode → PNode → Prop} {xc : Nat}

set_option maxRecDepth 100000 in
set_option maxHeartbeats 4000000 in
theorem sym_last (hC : Cmps lo g w3 N lev xc) (hR : ∀ x y, lev x ≠ lev y → R x y) (P S1 Q : List PNode) (y : PNode) (c : Nat) (w : World) (h : Srt lo g w3 (P ++ S1 ++ [y] ++ Q) w) (hN : ∀ x ∈ P ++ S1 ++ [y] ++ Q, x ∈ N) (hst : (P ++ S1 ++ [y] ++ Q).Pairwise R) (hs1 : Sd lev S1) (hne : S1.length ≠ 1) (hn : (P ++ S1 ++ [y] ++ Q).length ≤ 1000000) :
    Calls Try.prog 72 #[.slice (some ⟨g, 0, none⟩) (P ++ S1 ++ [y] ++ Q).length c, .int .i64 (P.length : Nat), .int .i64 ((P ++ S1).length : Nat), .int .i64 ((P ++ S1 ++ [y]).length : Nat), .func (.func 30) #[] #[.pointer (some ⟨xc, 0, none⟩)]] w fun e w' => e = .returned (.tuple #[]) ∧ Hid (∃ S', Done lev R P (S1 ++ [y]) Q S' ∧ Srt lo g w3 (P ++ S' ++ Q) w') := by
  have h1 : (P ++ S1).length = P.length + S1.length := by simp
  have h2 : (P ++ S1 ++ [y]).length = P.length + S1.length + 1 := by simp; omega
  have h3 : (P ++ S1 ++ [y] ++ Q).length = P.length + S1.length + 1 + Q.length := by simp; omega
  have hx : (P ++ S1 ++ [y] ++ Q)[P.length + S1.length]? = some y := by
    rw [show P ++ S1 ++ [y] ++ Q = (P ++ S1) ++ y :: Q by simp]
    exact at_right (by simp)
  have hS2 : ∀ k, k < S1.length → (P ++ S1 ++ [y] ++ Q)[P.length + k]? = S1[k]? := fun k hk => by
    rw [show P ++ S1 ++ [y] ++ Q = P ++ (S1 ++ ([y] ++ Q)) by simp, List.getElem?_append_right (by omega), List.getElem?_append_left (by omega)]
    congr 1
    omega
  generalize hX : P ++ S1 ++ [y] ++ Q = X at *
  generalize hL : X.length = NN at *
  generalize hb : (P ++ S1 ++ [y]).length = b at *
  generalize hm : (P ++ S1).length = m at *
  generalize ha : P.length = a at *
  generalize hu : S1.length = u at *
  have e1 : (m : Int) - (a : Int) = (u : Int) := by omega
  have e2 : (b : Int) - (m : Int) = 1 := by omega
  have e3 : ((u : Int) == 1) = false := beq_eq_false_iff_ne.2 (by omega)
  have d2 : (u : Int) ≤ 1000000 := by omega
  have d3 : (m : Int) ≤ 1000000 := by omega
  have d4 : (NN : Int) ≤ 1000000 := by omega
  have d5 : (m : Int) < (NN : Int) := by omega
  have d6 : (0 : Int) ≤ (m : Int) := by omega
  have d7 : (b : Int) ≤ 1000000 := by omega
  have HN := Lib.hid hN
  have HA := Lib.hid (And.intro h1 (And.intro h2 (And.intro h3 (And.intro ha (And.intro hL hu)))))
  have HX := Lib.hid (And.intro hX (And.intro (show X[m]? = some y by rw [h1]; exact hx) hS2))
  have HP := Lib.hid (And.intro hst (And.intro hs1 h))
  have HC := Lib.hid hC
  clear h hst hN hX hL hb hm ha h1 h2 h3 hx hs1 hC hS2 hu hne
  go_enter Try.func72, Try.ntmps72
  go_wp2_with fail
  go_loopg [14, 15] (m - a) (fun mm s14 s15 wx => ∃ (i j : Nat), j - i = mm ∧ s14 = .int .i64 i ∧ s15 = .int .i64 j ∧ Aside (a ≤ i ∧ i ≤ j ∧ j ≤ m ∧ Srt lo g w3 X wx ∧ (a < i → ¬ lev y < la lev X (i - 1)) ∧ (j < m → lev y < la lev X j)))
  case atStart => exact ⟨a, m, rfl, rfl, rfl, Nat.le_refl _, by have := HA.out.1; omega, Nat.le_refl _, HP.out.2.2, fun h => by omega, fun h => by omega⟩
  case round =>
    obtain ⟨i, j, hij, rfl, rfl, HS⟩ := hrel
    generalize gk = mm at *
    by_cases hlt : i < j
    · have hltI : (i : Int) < (j : Int) := by omega
      have hj1 : (j : Int) ≤ 1000000 := by have := HS.out.2.2.1; omega
      have hi1 : (i : Int) ≤ 1000000 := by omega
      obtain ⟨k, hk⟩ : ∃ k, k = (i + j) / 2 := ⟨_, rfl⟩
      have hmid : ((i : Int) + (j : Int)) / 2 = (k : Int) := by omega
      have hkN : (k : Int) < (NN : Int) := by have := HS.out.2.2.1; omega
      have hk0 : (0 : Int) ≤ (k : Int) := by omega
      have hkm : (k : Int) ≤ 1000000 := by omega
      obtain ⟨z, hz⟩ := some_of_lt (show k < X.length by have := HA.out.2.2.2.2.1; omega)
      have HY := Lib.hid (And.intro hz (And.intro hk (And.intro hij hlt)))
      have hSs := HS.out.2.2.2.1
      obtain ⟨p0, p1, p2⟩ := hSs.row.node _ _ HX.out.2.1
      obtain ⟨q0, q1, q2⟩ := hSs.row.node _ _ hz
      have hgl : g < wr.heap.size := Nat.lt_of_lt_of_le hSs.lt hSs.near.size
      have HK := Lib.hid fun (W : World) (hW : Below wr.heap.size wr W) => show (W.cell? ⟨g, m * 3, none⟩ = some (.bool y.nr) ∧ W.cell? ⟨g, m * 3 + 1, none⟩ = some (.int .i64 y.nm) ∧ W.cell? ⟨g, m * 3 + 2, none⟩ = some (.int .i64 y.na) ∧ W.cell? ⟨g, k * 3, none⟩ = some (.bool z.nr) ∧ W.cell? ⟨g, k * 3 + 1, none⟩ = some (.int .i64 z.nm) ∧ W.cell? ⟨g, k * 3 + 2, none⟩ = some (.int .i64 z.na)) ∧ Hid (Below wr.heap.size wr W) from ⟨⟨(hW.cell (p := ⟨g, m * 3, none⟩) hgl).trans p0, (hW.cell (p := ⟨g, m * 3 + 1, none⟩) hgl).trans p1, (hW.cell (p := ⟨g, m * 3 + 2, none⟩) hgl).trans p2, (hW.cell (p := ⟨g, k * 3, none⟩) hgl).trans q0, (hW.cell (p := ⟨g, k * 3 + 1, none⟩) hgl).trans q1, (hW.cell (p := ⟨g, k * 3 + 2, none⟩) hgl).trans q2⟩, Lib.hid hW⟩
      have HT := Lib.hid fun (W V' : World) (hW : (W.cell? ⟨g, m * 3, none⟩ = some (.bool y.nr) ∧ W.cell? ⟨g, m * 3 + 1, none⟩ = some (.int .i64 y.nm) ∧ W.cell? ⟨g, m * 3 + 2, none⟩ = some (.int .i64 y.na) ∧ W.cell? ⟨g, k * 3, none⟩ = some (.bool z.nr) ∧ W.cell? ⟨g, k * 3 + 1, none⟩ = some (.int .i64 z.nm) ∧ W.cell? ⟨g, k * 3 + 2, none⟩ = some (.int .i64 z.na)) ∧ Hid (Below wr.heap.size wr W)) (hV : Below W.heap.size W V') => HK.out V' (hW.2.out.trans (hV.mono hW.2.out.size))
      have HCM := Lib.hid fun (W : World) (hW : (W.cell? ⟨g, m * 3, none⟩ = some (.bool y.nr) ∧ W.cell? ⟨g, m * 3 + 1, none⟩ = some (.int .i64 y.nm) ∧ W.cell? ⟨g, m * 3 + 2, none⟩ = some (.int .i64 y.na) ∧ W.cell? ⟨g, k * 3, none⟩ = some (.bool z.nr) ∧ W.cell? ⟨g, k * 3 + 1, none⟩ = some (.int .i64 z.nm) ∧ W.cell? ⟨g, k * 3 + 2, none⟩ = some (.int .i64 z.na)) ∧ Hid (Below wr.heap.size wr W)) => HC.out W y z (hSs.call hW.2.out).near (HN.out y (mem_of_some HX.out.2.1)) (HN.out z (mem_of_some hz))
      have eg := enters_of Try.func30 (by kernel_rfl) rfl
      have HSs := Lib.hid hSs
      clear hSs
      clear hz hk hij hlt
      by_cases hc : lev y < lev z
      · have HLT := Lib.hid hc
        clear hc
        go_wp2_with fail
        go_region_held3 (fun W => (W.cell? ⟨g, m * 3, none⟩ = some (.bool y.nr) ∧ W.cell? ⟨g, m * 3 + 1, none⟩ = some (.int .i64 y.nm) ∧ W.cell? ⟨g, m * 3 + 2, none⟩ = some (.int .i64 y.na) ∧ W.cell? ⟨g, k * 3, none⟩ = some (.bool z.nr) ∧ W.cell? ⟨g, k * 3 + 1, none⟩ = some (.int .i64 z.nm) ∧ W.cell? ⟨g, k * 3 + 2, none⟩ = some (.int .i64 z.na)) ∧ Hid (Below wr.heap.size wr W)) (first | exact HK.out _ (Below.refl _ _).drew | exact HT.out _ _ (by assumption) (by assumption) | go_keep)
          (first
            | (go_at_call 30; refine (HCM.out _ (by assumption)).mono ?_; rintro e w5 ⟨cc, rfl, hc1, hc2, hb5⟩; have hcc := hc1 HLT.out; subst hcc)
            | fail)
        all_goals
          have HB5 := Lib.hid (HSs.out.call (show (w5.cell? ⟨g, m * 3, none⟩ = some (.bool y.nr) ∧ w5.cell? ⟨g, m * 3 + 1, none⟩ = some (.int .i64 y.nm) ∧ w5.cell? ⟨g, m * 3 + 2, none⟩ = some (.int .i64 y.na) ∧ w5.cell? ⟨g, k * 3, none⟩ = some (.bool z.nr) ∧ w5.cell? ⟨g, k * 3 + 1, none⟩ = some (.int .i64 z.nm) ∧ w5.cell? ⟨g, k * 3 + 2, none⟩ = some (.int .i64 z.na)) ∧ Hid (Below wr.heap.size wr w5) from by assumption).2.out)
          rename_i hrest
          clear hrest p0 p1 p2 q0 q1 q2 hb5 HK HT HCM eg
          go_wp2_with fail
          go_roundg (k - i)
          case measure => have := HY.out.2.1; have := HY.out.2.2; omega
          case rel => exact ⟨i, k, rfl, rfl, by first | rfl | simp, HS.out.1, by have := HY.out.2; omega, by have := HS.out.2.2.1; have := HY.out.2; omega, HB5.out, HS.out.2.2.2.2.1, fun _ => by rw [la_at HY.out.1]; exact HLT.out⟩
      · have HLT := Lib.hid hc
        clear hc
        go_wp2_with fail
        go_region_held3 (fun W => (W.cell? ⟨g, m * 3, none⟩ = some (.bool y.nr) ∧ W.cell? ⟨g, m * 3 + 1, none⟩ = some (.int .i64 y.nm) ∧ W.cell? ⟨g, m * 3 + 2, none⟩ = some (.int .i64 y.na) ∧ W.cell? ⟨g, k * 3, none⟩ = some (.bool z.nr) ∧ W.cell? ⟨g, k * 3 + 1, none⟩ = some (.int .i64 z.nm) ∧ W.cell? ⟨g, k * 3 + 2, none⟩ = some (.int .i64 z.na)) ∧ Hid (Below wr.heap.size wr W)) (first | exact HK.out _ (Below.refl _ _).drew | exact HT.out _ _ (by assumption) (by assumption) | go_keep)
          (first
            | (go_at_call 30; refine (HCM.out _ (by assumption)).mono ?_; rintro e w5 ⟨cc, rfl, hc1, hc2, hb5⟩; have hcn : ¬ cc < 0 := (by have := hc2 HLT.out; omega); have hcd : decide (cc < 0) = false := decide_eq_false hcn)
            | fail)
        all_goals
          have HB5 := Lib.hid (HSs.out.call (show (w5.cell? ⟨g, m * 3, none⟩ = some (.bool y.nr) ∧ w5.cell? ⟨g, m * 3 + 1, none⟩ = some (.int .i64 y.nm) ∧ w5.cell? ⟨g, m * 3 + 2, none⟩ = some (.int .i64 y.na) ∧ w5.cell? ⟨g, k * 3, none⟩ = some (.bool z.nr) ∧ w5.cell? ⟨g, k * 3 + 1, none⟩ = some (.int .i64 z.nm) ∧ w5.cell? ⟨g, k * 3 + 2, none⟩ = some (.int .i64 z.na)) ∧ Hid (Below wr.heap.size wr w5) from by assumption).2.out)
          rename_i hrest
          clear hrest p0 p1 p2 q0 q1 q2 hb5 HK HT HCM eg
          go_wp2_with fail
          go_roundg (j - (k + 1))
          case measure => have := HY.out.2.1; have := HY.out.2.2; omega
          case rel => exact ⟨k + 1, j, rfl, by first | rfl | simp, rfl, by have := HS.out.1; have := HY.out.2; omega, by have := HY.out.2; omega, HS.out.2.2.1, HB5.out, fun _ => by rw [Nat.add_sub_cancel, la_at HY.out.1]; exact HLT.out, HS.out.2.2.2.2.2⟩
    · have hji : j = i := by have := HS.out.2.1; omega
      subst hji
      obtain ⟨p, hp⟩ : ∃ p, j = a + p := ⟨j - a, by have := HS.out.1; omega⟩
      have hpl : p ≤ S1.length := by have := HS.out.2.2.1; have := HA.out; omega
      have hlo : ∀ z, 0 < p → S1[p - 1]? = some z → lev z ≤ lev y := fun z h0 hz => by
        have h1 := HS.out.2.2.2.2.1 (by omega)
        have h2 := HX.out.2.2 (p - 1) (by have := HA.out.2.2.2.2.2; omega)
        rw [hz] at h2
        rw [show j - 1 = a + (p - 1) by omega, la_at h2] at h1
        omega
      have hhi : ∀ z, S1[p]? = some z → lev y < lev z := fun z hz => by
        have hpl2 := lt_of_some hz
        have h1 := HS.out.2.2.2.2.2 (by have := HA.out; omega)
        have h2 := HX.out.2.2 p (by have := HA.out.2.2.2.2.2; omega)
        rw [hz] at h2
        rw [hp, la_at h2] at h1
        exact h1
      have hjm : (j : Int) ≤ 1000000 := by have := HS.out.2.2.1; omega
      have hj0 : (0 : Int) ≤ (j : Int) := by omega
      have hjj : ¬ ((j : Int) < (j : Int)) := by omega
      have HQ0 := Lib.hid (show Srt lo g w3 ((P ++ S1.take u) ++ y :: (S1.drop u ++ Q)) wr ∧ ((P ++ S1.take u) ++ y :: (S1.drop u ++ Q)).Pairwise R from by
        rw [List.take_of_length_le (show S1.length ≤ u by have := HA.out.2.2.2.2.2; omega), List.drop_eq_nil_of_le (show S1.length ≤ u by have := HA.out.2.2.2.2.2; omega)]
        exact ⟨by have := HS.out.2.2.2.1; rw [← HX.out.1] at this; simpa using this, by have := HP.out.1; rw [← HX.out.1] at this; simpa using this⟩)
      have HR2 := Lib.hid (And.intro hp (And.intro hpl (And.intro hlo hhi)))
      clear hp hpl hlo hhi HS hij hlt
      go_wp2_with fail
      go_loopg [17] (u - p) (fun mm s17 wx => ∃ (t k : Nat), t = mm + p ∧ s17 = .int .i64 k ∧ Aside (k = a + t ∧ t ≤ u ∧ Srt lo g w3 ((P ++ S1.take t) ++ y :: (S1.drop t ++ Q)) wx ∧ ((P ++ S1.take t) ++ y :: (S1.drop t ++ Q)).Pairwise R))
      case atStart => exact ⟨u, m, by have := HR2.out.2.1; have := HA.out.2.2.2.2.2; omega, rfl, HA.out.1, Nat.le_refl _, HQ0.out⟩
      case round =>
        clear HQ0
        obtain ⟨t, k, ht, rfl, HI⟩ := hrel
        generalize gk = m2 at *
        by_cases htp : p < t
        · obtain ⟨t', htt⟩ : ∃ t', t = t' + 1 := ⟨t - 1, by omega⟩
          subst htt
          obtain ⟨z, hz⟩ := some_of_lt (show t' < S1.length by have := HI.out.2.1; have := HA.out.2.2.2.2.2; omega)
          have hka : (j : Int) < (k : Int) := by have := HI.out.1; have := HR2.out.1; omega
          obtain ⟨k1, hk1⟩ : ∃ k1, k = k1 + 1 := ⟨a + t', by have := HI.out.1; omega⟩
          have hk2 : (k : Int) - 1 = (k1 : Int) := by omega
          have hkm : (k : Int) ≤ 1000000 := by have := HI.out.1; have := HI.out.2.1; have := HA.out.1; omega
          have hk0 : (0 : Int) ≤ (k : Int) := by omega
          have hk10 : (0 : Int) ≤ (k1 : Int) := by omega
          have hk1m : (k1 : Int) ≤ 1000001 := by omega
          have hwk := wrap_in (n := (k1 : Int)) (by omega) (by omega)
          have hkN : (k : Int) < (NN : Int) := by have := HI.out.1; have := HI.out.2.1; have := HA.out; omega
          have hk1N : (k1 : Int) < (NN : Int) := by omega
          have hXE : (P ++ S1.take (t' + 1)) ++ y :: (S1.drop (t' + 1) ++ Q) = (P ++ S1.take t') ++ z :: y :: (S1.drop (t' + 1) ++ Q) := by rw [take_some hz]; simp
          have hpl : (P ++ S1.take t').length = k1 := by rw [List.length_append, List.length_take, HA.out.2.2.2.1]; have := lt_of_some hz; have := HI.out.1; omega
          have hS3 := HI.out.2.2.1
          rw [hXE] at hS3
          have hX1 : ((P ++ S1.take t') ++ z :: y :: (S1.drop (t' + 1) ++ Q))[k1]? = some z := at_right hpl
          have hX2 : ((P ++ S1.take t') ++ z :: y :: (S1.drop (t' + 1) ++ Q))[k]? = some y := by rw [hk1]; exact at_next hpl
          obtain ⟨x0, x1, x2⟩ := hS3.row.node _ _ hX1
          obtain ⟨y0, y1, y2⟩ := hS3.row.node _ _ hX2
          have hfr := hS3.row.free
          have hyx : lev y < lev z := by
            obtain ⟨v, hv⟩ := some_of_lt (show p < S1.length by have := HI.out.2.1; have := HA.out.2.2.2.2.2; omega)
            have := HR2.out.2.2.2 v hv
            have := sd_upto HP.out.2.1 hv hz (by omega)
            omega
          have hz2 := swap_next (P := P ++ S1.take t') (Q := S1.drop (t' + 1) ++ Q) (x := y) (l := z)
          rw [hpl, ← hk1] at hz2
          have hnext : (P ++ S1.take t') ++ y :: (S1.drop t' ++ Q) = (P ++ S1.take t') ++ y :: z :: (S1.drop (t' + 1) ++ Q) := by rw [drop_some hz]; simp
          have HW := Lib.hid (hS3.swap hX2 hX1 (show k ≠ k1 by omega))
          have HZ := Lib.hid (And.intro hz2 (And.intro hnext (And.intro (stable_swap hR (hXE ▸ HI.out.2.2.2) hyx) (And.intro hk1 (And.intro ht htp)))))
          clear hz2 hnext hX1 hX2 hyx hS3 hXE hpl hz hk1 ht htp
          go_wp2_with fail
          go_region
          all_goals
            go_wp2_with fail
            go_roundg (m2 - 1)
            case measure => have := HZ.out.2.2.2.2; omega
            case rel => exact ⟨t', k1, by have := HZ.out.2.2.2.2; omega, by first | rfl | simp, by have := HZ.out.2.2.2.1; have := HI.out.1; omega, by have := HI.out.2.1; omega, by rw [HZ.out.2.1, ← HZ.out.1]; exact HW.out, by rw [HZ.out.2.1]; exact HZ.out.2.2.1⟩
        · have hka : ¬ ((j : Int) < (k : Int)) := by have := HI.out.1; have := HR2.out.1; omega
          have htt : t = p := by omega
          subst htt
          have HE := Lib.hid (show ∃ S', Done lev R P (S1 ++ [y]) Q S' ∧ Srt lo g w3 (P ++ S' ++ Q) wr from by
            refine ⟨S1.take t ++ y :: S1.drop t, ⟨?_, sd_put HP.out.2.1 HR2.out.2.1 HR2.out.2.2.1 (fun z hz => by have := HR2.out.2.2.2 z hz; omega), by simpa using HI.out.2.2.2⟩, by simpa using HI.out.2.2.1⟩
            refine List.Perm.trans List.perm_middle ?_
            rw [List.take_append_drop]
            exact (List.perm_append_singleton y S1).symm)
          clear HI ht
          go_wp2_with fail
          (try simp only [Exit.inBlock, Exit.then])
          refine bodyPost_ret (results_none rfl _ _ _) rfl ?_
          exact ⟨rfl, Lib.hid (by simpa using HE.out)⟩
end Go.Proofs.Ytchnpooijaalnaa

namespace Go.Proofs.Ytchnpooijaalnaa
open Go.ChangeShapes Go.WideShapes Go.RowKit
set_option linter.unusedVariables false
variable {lo g : Nat} {w3 : World} {N : List PNode} {lev : PNode → Int} {R : PNode → PNode → Prop} {xc : Nat}

/-- Where the two lists are cut: all that comes ahead has no greater key than what comes behind. -/
theorem cut_strict {S1 S2 : List PNode} {i k : Nat} (h1 : Sd lev S1) (h2 : Sd lev S2) (hk : k ≤ S2.length) (hb : ∀ x y, S1[i]? = some x → 0 < k → S2[k - 1]? = some y → lev y < lev x) : ∀ u ∈ S1.drop i, ∀ v ∈ S2.take k, lev v < lev u := fun u hu v hv => by
  obtain ⟨q, hq⟩ := List.mem_iff_getElem?.1 hu
  obtain ⟨r, hr⟩ := List.mem_iff_getElem?.1 hv
  have hrl := lt_of_some hr
  rw [List.length_take] at hrl
  rw [List.getElem?_drop] at hq
  rw [List.getElem?_take_of_lt (by omega)] at hr
  obtain ⟨x, hx⟩ := some_of_lt (show i < S1.length by have := lt_of_some hq; omega)
  obtain ⟨y, hy⟩ := some_of_lt (show k - 1 < S2.length by omega)
  have := hb x y hx (by omega) hy
  have := sd_upto h1 hx hq (by omega)
  have := sd_upto h2 hr hy (by omega)
  omega
theorem cut_weak {S1 S2 : List PNode} {i k : Nat} (h1 : Sd lev S1) (h2 : Sd lev S2) (hi : i ≤ S1.length) (hb : ∀ x y, 0 < i → S1[i - 1]? = some x → S2[k]? = some y → lev x ≤ lev y) : ∀ u ∈ S1.take i, ∀ v ∈ S2.drop k, lev u ≤ lev v := fun u hu v hv => by
  obtain ⟨q, hq⟩ := List.mem_iff_getElem?.1 hu
  obtain ⟨r, hr⟩ := List.mem_iff_getElem?.1 hv
  have hql := lt_of_some hq
  rw [List.length_take] at hql
  rw [List.getElem?_take_of_lt (by omega)] at hq
  rw [List.getElem?_drop] at hr
  obtain ⟨x, hx⟩ := some_of_lt (show i - 1 < S1.length by omega)
  obtain ⟨y, hy⟩ := some_of_lt (show k < S2.length by have := lt_of_some hr; omega)
  have := hb x y (by omega) hx hy
  have := sd_upto h1 hq hx (by omega)
  have := sd_upto h2 hy hr (by omega)
  omega
/-- Two neighbouring lists of which all keys of the second are smaller may change places. -/
theorem stable_rotate (hR : ∀ x y, lev x ≠ lev y → R x y) {P U V Q : List PNode} (h : (P ++ U ++ V ++ Q).Pairwise R) (hc : ∀ u ∈ U, ∀ v ∈ V, lev v < lev u) : (P ++ V ++ U ++ Q).Pairwise R := by
  rw [List.pairwise_append, List.pairwise_append, List.pairwise_append] at h ⊢
  obtain ⟨⟨⟨h1, h2, h3⟩, h4, h5⟩, h6, h7⟩ := h
  refine ⟨⟨⟨h1, h4, fun a ha b hb => h5 a (List.mem_append_left _ ha) b hb⟩, h2, fun a ha b hb => ?_⟩, h6, fun a ha b hb => h7 a ?_ b hb⟩
  · rcases List.mem_append.1 ha with h8 | h8
    · exact h3 a h8 b hb
    · exact hR _ _ (by have := hc b hb a h8; omega)
  · rcases List.mem_append.1 ha with h8 | h8
    · rcases List.mem_append.1 h8 with h9 | h9
      · exact List.mem_append_left _ (List.mem_append_left _ h9)
      · exact List.mem_append_right _ h9
    · exact List.mem_append_left _ (List.mem_append_right _ h8)
/-- What two merges, one behind the other, make. -/
theorem merge_done {P Q S1 S2 T1 T2 : List PNode} {i k : Nat} (h1 : Sd lev S1) (h2 : Sd lev S2) (c1 : ∀ u ∈ S1.drop i, ∀ v ∈ S2.take k, lev v < lev u) (c2 : ∀ u ∈ S1.take i, ∀ v ∈ S2.drop k, lev u ≤ lev v)
    (d1 : T1.Perm (S1.take i ++ S2.take k)) (s1 : Sd lev T1) (d2 : T2.Perm (S1.drop i ++ S2.drop k)) (s2 : Sd lev T2) (hst : (P ++ T1 ++ T2 ++ Q).Pairwise R) : Done lev R P (S1 ++ S2) Q (T1 ++ T2) := by
  have e1 : Sd lev (S1.take i ++ S1.drop i) := by rw [List.take_append_drop]; exact h1
  have e2 : Sd lev (S2.take k ++ S2.drop k) := by rw [List.take_append_drop]; exact h2
  unfold Sd at e1 e2
  rw [List.pairwise_append] at e1 e2
  refine ⟨?_, ?_, by rw [← List.append_assoc]; exact hst⟩
  · refine (d1.append d2).trans ?_
    have e3 : (S1.take i ++ S2.take k ++ (S1.drop i ++ S2.drop k)).Perm (S1.take i ++ S1.drop i ++ (S2.take k ++ S2.drop k)) := by
      rw [List.append_assoc, List.append_assoc]
      refine List.Perm.append_left _ ?_
      rw [← List.append_assoc, ← List.append_assoc]
      exact List.Perm.append_right _ List.perm_append_comm
    rw [List.take_append_drop, List.take_append_drop] at e3
    exact e3
  · unfold Sd at s1 s2 ⊢
    rw [List.pairwise_append]
    refine ⟨s1, s2, fun a ha b hb => ?_⟩
    rcases List.mem_append.1 (d1.subset ha) with h3 | h3
    · rcases List.mem_append.1 (d2.subset hb) with h4 | h4
      · exact e1.2.2 a h3 b h4
      · exact c2 a h3 b h4
    · rcases List.mem_append.1 (d2.subset hb) with h4 | h4
      · have := c1 b h4 a h3
        omega
      · exact e2.2.2 a h3 b h4
/-- What symMergeCmpFunc says of lists of less than M nodes together. -/
def SymSays (lo g : Nat) (w3 : World) (N : List PNode) (lev : PNode → Int) (R : PNode → PNode → Prop) (xc c M : Nat) : Prop :=
  ∀ (P S1 S2 Q : List PNode) (w : World), S1.length + S2.length < M → S1 ≠ [] → S2 ≠ [] → Srt lo g w3 (P ++ S1 ++ S2 ++ Q) w → (∀ x ∈ P ++ S1 ++ S2 ++ Q, x ∈ N) → (P ++ S1 ++ S2 ++ Q).Pairwise R → Sd lev S1 → Sd lev S2 → (P ++ S1 ++ S2 ++ Q).length ≤ 1000000 →
    Calls Try.prog 72 #[.slice (some ⟨g, 0, none⟩) (P ++ S1 ++ S2 ++ Q).length c, .int .i64 (P.length : Nat), .int .i64 ((P ++ S1).length : Nat), .int .i64 ((P ++ S1 ++ S2).length : Nat), .func (.func 30) #[] #[.pointer (some ⟨xc, 0, none⟩)]] w fun e w' => e = .returned (.tuple #[]) ∧ Hid (∃ S', Done lev R P (S1 ++ S2) Q S' ∧ Srt lo g w3 (P ++ S' ++ Q) w')

/-- The merge's two halves, told of worlds: the row with the two middle parts in each other's place; the first half merged; both. -/
def SA (lo g : Nat) (w3 : World) (P S1 S2 Q : List PNode) (i k : Nat) (W : World) : Prop := Srt lo g w3 (P ++ S1.take i ++ S2.take k ++ (S1.drop i ++ (S2.drop k ++ Q))) W
def SB (lo g : Nat) (w3 : World) (lev : PNode → Int) (R : PNode → PNode → Prop) (P S1 S2 Q : List PNode) (i k : Nat) (W : World) : Prop :=
  ∃ T1, Done lev R P (S1.take i ++ S2.take k) (S1.drop i ++ (S2.drop k ++ Q)) T1 ∧ Srt lo g w3 (P ++ T1 ++ (S1.drop i ++ (S2.drop k ++ Q))) W
def SC (lo g : Nat) (w3 : World) (lev : PNode → Int) (R : PNode → PNode → Prop) (P S1 S2 Q : List PNode) (W : World) : Prop :=
  ∃ S', Done lev R P (S1 ++ S2) Q S' ∧ Srt lo g w3 (P ++ S' ++ Q) W
theorem rot_perm {P S1 S2 Q : List PNode} (i k : Nat) : (P ++ S1.take i ++ S2.take k ++ (S1.drop i ++ (S2.drop k ++ Q))).Perm (P ++ S1 ++ S2 ++ Q) := by
  have e : P ++ S1 ++ S2 ++ Q = (P ++ S1.take i) ++ ((S1.drop i ++ S2.take k) ++ (S2.drop k ++ Q)) := by
    conv => lhs; rw [← List.take_append_drop i S1, ← List.take_append_drop k S2]
    simp only [List.append_assoc]
  rw [e, List.append_assoc (P ++ S1.take i)]
  refine List.Perm.append_left _ ?_
  rw [← List.append_assoc]
  exact List.Perm.append_right _ List.perm_append_comm
theorem rot_stable (hR : ∀ x y, lev x ≠ lev y → R x y) {P S1 S2 Q : List PNode} {i k : Nat} (h : (P ++ S1 ++ S2 ++ Q).Pairwise R) (c1 : ∀ u ∈ S1.drop i, ∀ v ∈ S2.take k, lev v < lev u) : (P ++ S1.take i ++ S2.take k ++ (S1.drop i ++ (S2.drop k ++ Q))).Pairwise R := by
  have e : P ++ S1 ++ S2 ++ Q = (P ++ S1.take i) ++ S1.drop i ++ S2.take k ++ (S2.drop k ++ Q) := by
    conv => lhs; rw [← List.take_append_drop i S1, ← List.take_append_drop k S2]
    simp only [List.append_assoc]
  rw [e] at h
  have := stable_rotate hR h c1
  rw [List.append_assoc (P ++ S1.take i ++ S2.take k)] at this
  exact this
theorem sa_same {P S1 S2 Q : List PNode} {i k : Nat} {W : World} (h : Srt lo g w3 (P ++ S1 ++ S2 ++ Q) W) (he : S1.drop i = [] ∨ S2.take k = []) : SA lo g w3 P S1 S2 Q i k W := by
  have e : P ++ S1 ++ S2 ++ Q = P ++ S1.take i ++ S2.take k ++ (S1.drop i ++ (S2.drop k ++ Q)) := by
    conv => lhs; rw [← List.take_append_drop i S1, ← List.take_append_drop k S2]
    rcases he with he | he
    · rw [he]; simp only [List.append_assoc, List.nil_append]
    · rw [he]; simp only [List.append_assoc, List.nil_append]
  unfold SA
  rw [← e]
  exact h
theorem sb_same {P S1 S2 Q : List PNode} {i k : Nat} {W : World} (h1 : Sd lev S1) (h2 : Sd lev S2) (h : SA lo g w3 P S1 S2 Q i k W) (hst : (P ++ S1.take i ++ S2.take k ++ (S1.drop i ++ (S2.drop k ++ Q))).Pairwise R) (he : S1.take i = [] ∨ S2.take k = []) : SB lo g w3 lev R P S1 S2 Q i k W := by
  refine ⟨S1.take i ++ S2.take k, ⟨List.Perm.refl _, ?_, by rw [← List.append_assoc P]; exact hst⟩, by rw [← List.append_assoc P]; exact h⟩
  have q1 : Sd lev (S1.take i) := List.Pairwise.sublist (List.take_sublist _ _) h1
  have q2 : Sd lev (S2.take k) := List.Pairwise.sublist (List.take_sublist _ _) h2
  rcases he with he | he
  · rw [he]; simpa using q2
  · rw [he]; simpa using q1
theorem sc_of {P S1 S2 Q T1 T2 : List PNode} {i k : Nat} {W : World} (h1 : Sd lev S1) (h2 : Sd lev S2) (c1 : ∀ u ∈ S1.drop i, ∀ v ∈ S2.take k, lev v < lev u) (c2 : ∀ u ∈ S1.take i, ∀ v ∈ S2.drop k, lev u ≤ lev v)
    (d1 : T1.Perm (S1.take i ++ S2.take k)) (s1 : Sd lev T1) (hD : Done lev R (P ++ T1) (S1.drop i ++ S2.drop k) Q T2) (h : Srt lo g w3 ((P ++ T1) ++ T2 ++ Q) W) : SC lo g w3 lev R P S1 S2 Q W :=
  ⟨T1 ++ T2, merge_done h1 h2 c1 c2 d1 s1 hD.perm hD.sd hD.st, by rw [← List.append_assoc]; exact h⟩
theorem sc_same {P S1 S2 Q : List PNode} {i k : Nat} {W : World} (h1 : Sd lev S1) (h2 : Sd lev S2) (c1 : ∀ u ∈ S1.drop i, ∀ v ∈ S2.take k, lev v < lev u) (c2 : ∀ u ∈ S1.take i, ∀ v ∈ S2.drop k, lev u ≤ lev v) (h : SB lo g w3 lev R P S1 S2 Q i k W) (he : S1.drop i = [] ∨ S2.drop k = []) : SC lo g w3 lev R P S1 S2 Q W := by
  obtain ⟨T1, hD, hS⟩ := h
  have e : P ++ T1 ++ (S1.drop i ++ (S2.drop k ++ Q)) = (P ++ T1) ++ (S1.drop i ++ S2.drop k) ++ Q := by simp
  have q1 : Sd lev (S1.drop i) := List.Pairwise.sublist (List.drop_sublist _ _) h1
  have q2 : Sd lev (S2.drop k) := List.Pairwise.sublist (List.drop_sublist _ _) h2
  have hst := hD.st
  rw [e] at hS hst
  refine sc_of h1 h2 c1 c2 hD.perm hD.sd ⟨List.Perm.refl _, ?_, hst⟩ hS
  rcases he with he | he
  · rw [he]; simpa using q2
  · rw [he]; simpa using q1

/-- What the merge does behind its search, told of worlds. -/
structure Parts (lo g : Nat) (w3 : World) (lev : PNode → Int) (R : PNode → PNode → Prop) (xc c : Nat) (P S1 S2 Q : List PNode) (a m b r en mid NN i q : Nat) (wr : World) : Prop where
  rot : r < m → m < en → Calls Try.prog 88 #[.slice (some ⟨g, 0, none⟩) NN c, .int .i64 (r : Nat), .int .i64 (m : Nat), .int .i64 (en : Nat), .func (.func 30) #[] #[.pointer (some ⟨xc, 0, none⟩)]] wr fun e w' => e = .returned (.tuple #[]) ∧ Hid (SA lo g w3 P S1 S2 Q i q w')
  left : ∀ W : World, a < r → m < en → SA lo g w3 P S1 S2 Q i q W → Calls Try.prog 72 #[.slice (some ⟨g, 0, none⟩) NN c, .int .i64 (a : Nat), .int .i64 (r : Nat), .int .i64 (mid : Nat), .func (.func 30) #[] #[.pointer (some ⟨xc, 0, none⟩)]] W fun e w' => e = .returned (.tuple #[]) ∧ Hid (SB lo g w3 lev R P S1 S2 Q i q w')
  right : ∀ W : World, r < m → en < b → SB lo g w3 lev R P S1 S2 Q i q W → Calls Try.prog 72 #[.slice (some ⟨g, 0, none⟩) NN c, .int .i64 (mid : Nat), .int .i64 (en : Nat), .int .i64 (b : Nat), .func (.func 30) #[] #[.pointer (some ⟨xc, 0, none⟩)]] W fun e w' => e = .returned (.tuple #[]) ∧ Hid (SC lo g w3 lev R P S1 S2 Q w')
  sa : (¬ r < m ∨ ¬ m < en) → SA lo g w3 P S1 S2 Q i q wr
  sb : ∀ W : World, (¬ a < r ∨ ¬ m < en) → SA lo g w3 P S1 S2 Q i q W → SB lo g w3 lev R P S1 S2 Q i q W
  sc : ∀ W : World, (¬ r < m ∨ ¬ en < b) → SB lo g w3 lev R P S1 S2 Q i q W → SC lo g w3 lev R P S1 S2 Q W
theorem sym_parts (hR : ∀ x y, lev x ≠ lev y → R x y) {c M : Nat} (IH : SymSays lo g w3 N lev R xc c M) {P S1 S2 Q : List PNode} {wr : World} {a m b r en mid NN i q : Nat} (hM : S1.length + S2.length < M + 1) (hS : Srt lo g w3 (P ++ S1 ++ S2 ++ Q) wr) (hN : ∀ x ∈ P ++ S1 ++ S2 ++ Q, x ∈ N) (hst : (P ++ S1 ++ S2 ++ Q).Pairwise R) (hs1 : Sd lev S1) (hs2 : Sd lev S2) (hn : NN ≤ 1000000)
    (ea : P.length = a) (em : m = a + S1.length) (eb : b = a + S1.length + S2.length) (eN : (P ++ S1 ++ S2 ++ Q).length = NN) (er : r = a + i) (een : en = m + q) (emid : mid = a + i + q) (hi : i ≤ S1.length) (hq : q ≤ S2.length) (hiq : 0 < i + q ∧ i + q < S1.length + S2.length)
    (hc1 : ∀ u ∈ S1.drop i, ∀ v ∈ S2.take q, lev v < lev u) (hc2 : ∀ u ∈ S1.take i, ∀ v ∈ S2.drop q, lev u ≤ lev v) : Parts lo g w3 lev R xc c P S1 S2 Q a m b r en mid NN i q wr := by
  have hl1 : (S1.take i).length = i := by rw [List.length_take]; omega
  have hl2 : (S1.drop i).length = S1.length - i := by rw [List.length_drop]
  have hl3 : (S2.take q).length = q := by rw [List.length_take]; omega
  have hl4 : (S2.drop q).length = S2.length - q := by rw [List.length_drop]
  have hrs2 := rot_stable (i := i) (k := q) hR hst hc1
  have hpm := rot_perm (P := P) (S1 := S1) (S2 := S2) (Q := Q) i q
  have hNX : ∀ x ∈ P ++ S1.take i ++ S2.take q ++ (S1.drop i ++ (S2.drop q ++ Q)), x ∈ N := fun x hx => hN x (hpm.subset hx)
  have hNL : (P ++ S1.take i ++ S2.take q ++ (S1.drop i ++ (S2.drop q ++ Q))).length = NN := by rw [hpm.length_eq, eN]
  have hXc : P ++ S1 ++ S2 ++ Q = (P ++ S1.take i) ++ S1.drop i ++ S2.take q ++ (S2.drop q ++ Q) := by
    conv => lhs; rw [← List.take_append_drop i S1, ← List.take_append_drop q S2]
    simp only [List.append_assoc]
  have g1 : (P ++ S1.take i).length = r := by rw [List.length_append, hl1]; omega
  have g2 : (P ++ S1.take i ++ S1.drop i).length = m := by rw [List.length_append, g1, hl2]; omega
  have g3 : (P ++ S1.take i ++ S1.drop i ++ S2.take q).length = en := by rw [List.length_append, g2, hl3]; omega
  have g4 : ((P ++ S1.take i) ++ S1.drop i ++ S2.take q ++ (S2.drop q ++ Q)).length = NN := by rw [← hXc]; exact eN
  have g5 : (P ++ S1.take i ++ S2.take q).length = mid := by rw [List.length_append, g1, hl3]; omega
  have E1 : ¬ a < r → S1.take i = [] := fun h => List.eq_nil_of_length_eq_zero (by rw [hl1]; omega)
  have E2 : ¬ r < m → S1.drop i = [] := fun h => List.eq_nil_of_length_eq_zero (by rw [hl2]; omega)
  have E3 : ¬ m < en → S2.take q = [] := fun h => List.eq_nil_of_length_eq_zero (by rw [hl3]; omega)
  have E4 : ¬ en < b → S2.drop q = [] := fun h => List.eq_nil_of_length_eq_zero (by rw [hl4]; omega)
  refine ⟨fun h2 h3 => ?_, fun W h1 h3 hA => ?_, fun W h2 h4 hB => ?_, fun h => sa_same hS (h.imp E2 E3), fun W h hA => sb_same hs1 hs2 hA hrs2 (h.imp E1 E3), fun W h hB => sc_same hs1 hs2 hc1 hc2 hB (h.imp E2 E4)⟩
  · have := rotate_any (P ++ S1.take i) (S1.drop i) (S2.take q) (S2.drop q ++ Q) c (.func (.func 30) #[] #[.pointer (some ⟨xc, 0, none⟩)]) wr (by rw [← hXc]; exact hS) (List.length_pos_iff.1 (by rw [hl2]; omega)) (List.length_pos_iff.1 (by rw [hl3]; omega)) (by rw [g4]; exact hn)
    rw [g4, g1, g2, g3] at this
    refine Calls.mono this ?_
    rintro e w' ⟨rfl, h9⟩
    rw [List.append_assoc (P ++ S1.take i ++ S2.take q)] at h9
    exact ⟨rfl, Lib.hid h9⟩
  · have := IH P (S1.take i) (S2.take q) (S1.drop i ++ (S2.drop q ++ Q)) W (by rw [hl1, hl3]; omega) (List.length_pos_iff.1 (by rw [hl1]; omega)) (List.length_pos_iff.1 (by rw [hl3]; omega)) hA hNX hrs2 (List.Pairwise.sublist (List.take_sublist _ _) hs1) (List.Pairwise.sublist (List.take_sublist _ _) hs2) (by rw [hNL]; exact hn)
    rw [hNL, g1, g5, ea] at this
    exact this
  · obtain ⟨T1, hD, hS⟩ := hB
    have e : P ++ T1 ++ (S1.drop i ++ (S2.drop q ++ Q)) = (P ++ T1) ++ S1.drop i ++ S2.drop q ++ Q := by simp only [List.append_assoc]
    have hst := hD.st
    have hT := hD.perm.length_eq
    rw [List.length_append, hl1, hl3] at hT
    have hPT : (P ++ T1).length = mid := by rw [List.length_append, hT]; omega
    have hg6 : ((P ++ T1) ++ S1.drop i).length = en := by rw [List.length_append, hPT, hl2]; omega
    have hg7 : ((P ++ T1) ++ S1.drop i ++ S2.drop q).length = b := by rw [List.length_append, hg6, hl4]; omega
    have hperm : ((P ++ T1) ++ S1.drop i ++ S2.drop q ++ Q).Perm (P ++ S1.take i ++ S2.take q ++ (S1.drop i ++ (S2.drop q ++ Q))) := by
      rw [← e]
      refine List.Perm.append_right _ ?_
      rw [List.append_assoc P (S1.take i)]
      exact List.Perm.append_left _ hD.perm
    have hg8 : ((P ++ T1) ++ S1.drop i ++ S2.drop q ++ Q).length = NN := by rw [hperm.length_eq, hNL]
    rw [e] at hS hst
    have := IH (P ++ T1) (S1.drop i) (S2.drop q) Q W (by rw [hl2, hl4]; omega) (List.length_pos_iff.1 (by rw [hl2]; omega)) (List.length_pos_iff.1 (by rw [hl4]; omega)) hS (fun x hx => hNX x (hperm.subset hx)) hst (List.Pairwise.sublist (List.drop_sublist _ _) hs1) (List.Pairwise.sublist (List.drop_sublist _ _) hs2) (by rw [hg8]; exact hn)
    rw [hg8, hPT, hg6, hg7] at this
    refine Calls.mono this ?_
    rintro e w' ⟨rfl, h9⟩
    obtain ⟨T2, hD2, hS2⟩ := h9.out
    exact ⟨rfl, Lib.hid (sc_of hs1 hs2 hc1 hc2 hD.perm hD.sd hD2 hS2)⟩
/-- The numbers behind the search: where the two lists are cut. -/
theorem cut_nums {a b m u v mid nn pp r st0 r0 : Nat} (h1 : m = a + u) (h2 : b = a + u + v) (h3 : mid = (a + b) / 2) (h4 : nn = mid + m) (h5 : pp = nn - 1) (hu : 2 ≤ u) (hv : 2 ≤ v) (hr1 : st0 ≤ r) (hr2 : r ≤ r0) (hb1 : a ≤ st0) (hb2 : r0 ≤ m) (hb3 : st0 = a ∨ nn - st0 = b) (hb4 : r0 = m ∨ nn - r0 = m) (hb5 : m ≤ nn - r0) (hb6 : nn - st0 ≤ b) :
    ∃ i q en, r = a + i ∧ en = nn - r ∧ en = m + q ∧ mid = a + i + q ∧ i ≤ u ∧ q ≤ v ∧ (0 < i + q ∧ i + q < u + v) ∧ (i < u → 0 < q → r < r0 ∧ pp - r = a + u + (q - 1)) ∧ (0 < i → q < v → st0 < r ∧ pp - (r - 1) = a + u + q ∧ r - 1 = a + (i - 1)) ∧ (r < mid ↔ m < en) ∧ (mid < en ↔ r < m) := by
  refine ⟨r - a, nn - r - m, nn - r, by omega, rfl, by omega, by omega, by omega, by omega, by omega, fun h6 h7 => ?_, fun h6 h7 => ?_, by omega, by omega⟩
  · rcases hb4 with e | e <;> constructor <;> omega
  · rcases hb3 with e | e
    · exact ⟨by omega, by omega, by omega⟩
    · exact ⟨by omega, by omega, by omega⟩
end Go.Proofs.Ytchnpooijaalnaa
