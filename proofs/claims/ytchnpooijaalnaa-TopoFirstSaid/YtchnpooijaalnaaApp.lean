/- Rows of numbers that a call makes by appending: one number, two, or all of another slice's (conditions: the slice is the call's own, at most 1000000 numbers each). -/
import Derived.Test.YtchnpooijaalnaaNetAt
import Derived.WalkKit
import Derived.WalkLawsBesides
import Derived.Lib.Hide
import Derived.Outline
import Derived.Deep.LoopGhost
import Derived.Deep.Onto
import Derived.OwnWalk
namespace Go.Proofs.Ytchnpooijaalnaa
open Go.ChangeShapes Go.WideShapes Go.RowKit
set_option linter.unusedVariables false

/-- v is a slice of the call's own that holds xs, in a block from B on; below B all is as it was in w0. -/
def Own (B : Nat) (w0 w : World) (v : Value) (xs : List Int) : Prop :=
  w.ownsRow B 3 1 v xs.length (xs.map (Value.int .i64)) ∧ Below B w0 w ∧ B ≤ w.heap.size
/-- What a call leaves that answers such a slice. -/
def Left (w : World) (xs : List Int) (e : Ending) (w' : World) : Prop := ∃ v, e = .returned v ∧ Own w.heap.size w w' v xs

theorem Own.nil (w : World) (B : Nat) (hB : B ≤ w.heap.size) : Own B w w (.slice none 0 0) [] := ⟨World.ownsRow_nil _ _ _ _, Below.refl _ _, hB⟩
theorem Own.alloc {B : Nat} {w0 w : World} {v : Value} {xs : List Int} (h : Own B w0 w v xs) (o : Obj) : Own B w0 (w.alloc o) v xs := ⟨h.1.alloc o, h.2.1.alloc h.2.2 o, by have := h.2.2; simp; omega⟩
theorem Own.drew {B : Nat} {w0 w : World} {v : Value} {xs : List Int} (h : Own B w0 w v xs) : Own B w0 w.drew v xs := ⟨h.1.drew, h.2.1.drew, h.2.2⟩
theorem Own.lt {B g : Nat} {w0 w : World} {v : Value} {xs : List Int} (h : Own B w0 w v xs) (hg : v.ownBlock = some g) : B ≤ g ∧ g < w.heap.size := h.1.lt g hg
theorem Own.down {B B' : Nat} {w0 w0' w : World} {v : Value} {xs : List Int} (h : Own B w0 w v xs) (hb : Below B' w0' w0) (hB : B' ≤ B) : Own B' w0' w v xs := ⟨h.1.mono hB, hb.trans (h.2.1.mono hB), by have := h.2.2; omega⟩
/-- Behind a call that turned nothing old, the row is as it was. -/
theorem Own.call {B : Nat} {w0 w w' : World} {v : Value} {xs : List Int} (h : Own B w0 w v xs) (hb : Below w.heap.size w w') : Own B w0 w' v xs := by
  refine ⟨h.1.kept (row := none) ⟨hb.os, hb.tape, hb.output, hb.size, fun k hk _ => hb.block k hk⟩ ?_, h.2.1.trans (hb.mono h.2.2), Nat.le_trans h.2.2 hb.size⟩
  cases hv : v.ownBlock with
  | none => exact .inl rfl
  | some k => exact .inr (by simp)
theorem Own.form {B : Nat} {w0 w : World} {v : Value} {xs : List Int} (h : Own B w0 w v xs) :
    ∃ A c, v = .slice A xs.length c ∧ Src w w.heap.size A xs ∧ xs.length ≤ c ∧ c ≤ 9223372036854775807 := own_form h.1
theorem own_cast {B : Nat} {w0 w : World} {v : Value} {xs ys : List Int} (h : Own B w0 w v xs) (e : xs = ys) : Own B w0 w v ys := e ▸ h

theorem Src.own {B : Nat} {w0 w : World} {v : Value} {xs ys : List Int} {A : Option Addr} (h : Src w0 B A ys) (hO : Own B w0 w v xs) : Src w w.heap.size A ys := (h.below hO.2.1 (Nat.le_refl _)).wider hO.2.2

/-- Where the row lies behind an append: where it lay, or in a new block. -/
def Went (w : World) (v v' : Value) (w' : World) : Prop := w.grownBy w' v.ownBlock ∧ (v'.ownBlock = v.ownBlock ∨ v'.ownBlock = some w.heap.size)
/-- A block that is not the row's is as it was, and is not the row's behind it. -/
theorem Went.other {w w' : World} {v v' : Value} {k : Nat} (h : Went w v v' w') (hk : k < w.heap.size) (hne : v.ownBlock ≠ some k) : w'.heap[k]? = w.heap[k]? ∧ v'.ownBlock ≠ some k ∧ k < w'.heap.size := by
  refine ⟨h.1.block k hk (fun e => hne e.symm), fun e => ?_, Nat.lt_of_lt_of_le hk h.1.size⟩
  rcases h.2 with h2 | h2
  · exact hne (h2.symm.trans e)
  · rw [h2] at e; injection e with e; omega
theorem Went.size {w w' : World} {v v' : Value} (h : Went w v v' w') : w.heap.size ≤ w'.heap.size := h.1.size

/-- A block of cells that is not the row's. -/
def Held (w : World) (v : Value) (g : Nat) (cs : Array Value) (t : TypeId) : Prop := w.heap[g]? = some (.cells cs t (0, 0)) ∧ v.ownBlock ≠ some g
theorem Held.new {B : Nat} {w0 w : World} {v : Value} {xs : List Int} (h : Own B w0 w v xs) (cs : Array Value) (t : TypeId) : Held (w.alloc (.cells cs t)) v w.heap.size cs t :=
  ⟨heap_alloc_new w _, fun e => by have := (h.lt e).2; omega⟩
theorem Held.alloc {w : World} {v : Value} {g : Nat} {cs : Array Value} {t : TypeId} (h : Held w v g cs t) (o : Obj) : Held (w.alloc o) v g cs t :=
  ⟨(Below.heap_alloc w o g (lt_of_row h.1)).trans h.1, h.2⟩
theorem Held.went {w w' : World} {v v' : Value} {g : Nat} {cs : Array Value} {t : TypeId} (h : Held w v g cs t) (hW : Went w v v' w') : Held w' v' g cs t := by
  obtain ⟨h1, h2, _⟩ := hW.other (lt_of_row h.1) h.2
  exact ⟨h1.trans h.1, h2⟩
theorem Held.call {w w' : World} {v : Value} {g : Nat} {cs : Array Value} {t : TypeId} (h : Held w v g cs t) (hb : Below w.heap.size w w') : Held w' v g cs t :=
  ⟨(hb.block g (lt_of_row h.1)).trans h.1, h.2⟩
theorem Held.cell {w : World} {v u : Value} {g j : Nat} {cs : Array Value} {t : TypeId} (h : Held w v g cs t) (hj : cs[j]? = some u) : w.cell? ⟨g, j, none⟩ = some u := by
  rw [cell_of_row w g j cs t (0, 0) h.1]
  exact hj

variable {ops : Array Oper} {rest : List Oper} {o : Oper} {act : Act} {Q : Exit → Act → World → Prop}

theorem wpl_app {w w0 : World} {B : Nat} {v : Value} {xs : List Int} (hgd : o.guard = none) (s x : Operand) (ho : o.op = .call { callee := .builtin .append, args := #[s, x], argTypes := #[22, 22] })
    (hs : act.eval s = v) (hown : Own B w0 w v xs) {A : Option Addr} {m c : Nat} {ys : List Int} (hx : act.eval x = .slice A m c) (hm : ys.length = m) (hsrc : Src w w.heap.size A ys) (hb1 : xs.length ≤ 1000000) (hb2 : m ≤ 1000000)
    (h : ∀ v' w', Own B w0 w' v' (xs ++ ys) → Went w v v' w' → wpList Try.prog ops Q rest (act.put o.dst v') w') : wpList Try.prog ops Q (o :: rest) act w := by
  obtain ⟨i0, hi, hz0, hz1, hz2⟩ := info_parts int_info
  refine wpList_plain hgd fun K hK => ?_
  obtain ⟨v', w', hr, h2, h3, h4⟩ := run_app (P := Try.prog) w B 22 o.type 3 i0 Try.underlying22 hi hz0 hz1 hz2 v xs.length xs hown.1 w.heap.size A m c ys hm hsrc (by omega) hown.2.2
  unfold Oper.wp execOp
  simp only [ho, resolve, invoke, builtin, Sem.run_bind, Sem.run_pure, Result.andThen_ok, List.map_toArray, List.map_cons, List.map_nil, hs, hx, hr]
  refine hK _ _ (h v' w' ⟨by rw [List.length_append, hm]; exact h2, hown.2.1.grown h3 hown.2.2 (fun k hk => (hown.1.lt k hk).1), Nat.le_trans hown.2.2 h3.size⟩ ⟨h3, h4⟩)

theorem step_own {w w0 : World} {B : Nat} {v : Value} {xs : List Int} {K : Act → World → Prop} {E : Prop} (hgd : o.guard = none) (s x : Operand) (ho : o.op = .call { callee := .builtin .append, args := #[s, x], argTypes := #[22, 22] })
    (hs : act.eval s = v) (hown : Own B w0 w v xs) {A : Option Addr} {m c : Nat} {ys : List Int} (hx : act.eval x = .slice A m c) (hm : ys.length = m) (hsrc : Src w w.heap.size A ys) (hb1 : xs.length ≤ 1000000) (hb2 : m ≤ 1000000)
    (h : ∀ v' w', Own B w0 w' v' (xs ++ ys) → Went w v v' w' → K (act.put o.dst v') w') : if Region.wanted o (yielded ops act.tmps) = true then Oper.wp Try.prog o act w K Q else E := by
  obtain ⟨i0, hi, hz0, hz1, hz2⟩ := info_parts int_info
  have hw : Region.wanted o (yielded ops act.tmps) = true := by simp [Region.wanted, hgd]
  rw [if_pos hw]
  obtain ⟨v', w', hr, h2, h3, h4⟩ := run_app (P := Try.prog) w B 22 o.type 3 i0 Try.underlying22 hi hz0 hz1 hz2 v xs.length xs hown.1 w.heap.size A m c ys hm hsrc (by omega) hown.2.2
  unfold Oper.wp execOp
  simp only [ho, resolve, invoke, builtin, Sem.run_bind, Sem.run_pure, Result.andThen_ok, List.map_toArray, List.map_cons, List.map_nil, hs, hx, hr]
  exact h v' w' ⟨by rw [List.length_append, hm]; exact h2, hown.2.1.grown h3 hown.2.2 (fun k hk => (hown.1.lt k hk).1), Nat.le_trans hown.2.2 h3.size⟩ ⟨h3, h4⟩

/-- One number behind the row. -/
theorem wpl_one {w w0 : World} {B : Nat} {v : Value} {xs : List Int} {y : Int} (hgd : o.guard = none) (s x : Operand) (ho : o.op = .call { callee := .builtin .append, args := #[s, x], argTypes := #[22, 22] })
    (hs : act.eval s = v) (hown : Own B w0 w v xs) (hx : act.eval x = .slice (some ⟨w.heap.size, 0, none⟩) 1 1) (hb1 : xs.length ≤ 1000000)
    (h : ∀ v' w', Own B w0 w' v' (xs ++ [y]) → Went (w.alloc (.cells #[.int .i64 y] 3)) v v' w' → wpList Try.prog ops Q rest (act.put o.dst v') w') :
    wpList Try.prog ops Q (o :: rest) act (w.alloc (.cells #[.int .i64 y] 3)) :=
  wpl_app hgd s x ho hs (hown.alloc _) hx rfl (Src.one (t := 3) (fr := (0, 0)) (heap_alloc_new w _) (by simp)) hb1 (by omega) h
theorem wpl_one_at {w w0 : World} {B g : Nat} {v : Value} {xs : List Int} {y : Int} (hgd : o.guard = none) (s x : Operand) (ho : o.op = .call { callee := .builtin .append, args := #[s, x], argTypes := #[22, 22] })
    (hs : act.eval s = v) (hown : Own B w0 w v xs) (hx : act.eval x = .slice (some ⟨g, 0, none⟩) 1 1) (hg : g = w.heap.size) (hb1 : xs.length ≤ 1000000)
    (h : ∀ v' w', Own B w0 w' v' (xs ++ [y]) → Went (w.alloc (.cells #[.int .i64 y] 3)) v v' w' → wpList Try.prog ops Q rest (act.put o.dst v') w') :
    wpList Try.prog ops Q (o :: rest) act (w.alloc (.cells #[.int .i64 y] 3)) :=
  wpl_one hgd s x ho hs hown (hg ▸ hx) hb1 h
/-- Two numbers behind the row. -/
theorem wpl_two {w w0 : World} {B : Nat} {v : Value} {xs : List Int} {y z : Int} (hgd : o.guard = none) (s x : Operand) (ho : o.op = .call { callee := .builtin .append, args := #[s, x], argTypes := #[22, 22] })
    (hs : act.eval s = v) (hown : Own B w0 w v xs) (hx : act.eval x = .slice (some ⟨w.heap.size, 0, none⟩) 2 2) (hb1 : xs.length ≤ 1000000)
    (h : ∀ v' w', Own B w0 w' v' (xs ++ [y, z]) → Went (w.alloc (.cells #[.int .i64 y, .int .i64 z] 3)) v v' w' → wpList Try.prog ops Q rest (act.put o.dst v') w') :
    wpList Try.prog ops Q (o :: rest) act (w.alloc (.cells #[.int .i64 y, .int .i64 z] 3)) :=
  wpl_app hgd s x ho hs (hown.alloc _) hx rfl (Src.two (t := 3) (fr := (0, 0)) (heap_alloc_new w _) (by simp)) hb1 (by omega) h
end Go.Proofs.Ytchnpooijaalnaa
