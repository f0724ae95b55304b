/- The contract of the closure that puts literals behind a list that it holds (conditions: the list is the call's own; at most 1000000 numbers each). -/
import Derived.Test.YtchnpooijaalnaaApp
namespace Go.Proofs.Ytchnpooijaalnaa
open Go.ChangeShapes Go.WideShapes Go.RowKit
set_option linter.unusedVariables false

/-- The variable in block p holds a slice of the call's own, of the numbers xs. -/
structure PutAt (B : Nat) (w0 w : World) (p : Nat) (v : Value) (xs : List Int) : Prop where
  row : w.heap[p]? = some (.cells #[v] 22 (0, 0))
  own : Own B w0 w v xs
  ne : v.ownBlock ≠ some p
  base : B ≤ p
/-- Whatever is neither the variable nor the row is as it was, and not the row's behind it. -/
def Stays (w : World) (v : Value) (p : Nat) (w' : World) (v' : Value) : Prop :=
  w.heap.size ≤ w'.heap.size ∧ ∀ k, k < w.heap.size → k ≠ p → v.ownBlock ≠ some k → w'.heap[k]? = w.heap[k]? ∧ v'.ownBlock ≠ some k
def PutLeft (B : Nat) (w0 w : World) (p : Nat) (v : Value) (xs ys : List Int) (e : Ending) (w' : World) : Prop :=
  ∃ v', e = .returned (.tuple #[]) ∧ PutAt B w0 w' p v' (xs ++ ys) ∧ Stays w v p w' v'

theorem PutAt.alloc {B : Nat} {w0 w : World} {p : Nat} {v : Value} {xs : List Int} (h : PutAt B w0 w p v xs) (o : Obj) : PutAt B w0 (w.alloc o) p v xs :=
  ⟨(Below.heap_alloc w o p (lt_of_row h.row)).trans h.row, h.own.alloc o, h.ne, h.base⟩
theorem Held.stays {w w' : World} {v v' : Value} {p g : Nat} {cs : Array Value} {t : TypeId} (h : Held w v g cs t) (hp : g ≠ p) (hs : Stays w v p w' v') : Held w' v' g cs t := by
  obtain ⟨h1, h2⟩ := hs.2 g (lt_of_row h.1) hp h.2
  exact ⟨h1.trans h.1, h2⟩

theorem grown_set (W : World) (a : Addr) (v : Value) : W.grownBy (W.setCell a v) (some a.block) :=
  ⟨rfl, rfl, rfl, by simp [World.setCell], fun k _ hne => heap_setCell_other _ _ _ _ (fun e => hne (by rw [e]))⟩
theorem Own.set {B : Nat} {w0 w : World} {v u : Value} {xs : List Int} {p j : Nat} (h : Own B w0 w v xs) (hp : B ≤ p) (hne : v.ownBlock ≠ some p) : Own B w0 (w.setCell ⟨p, j, none⟩ u) v xs :=
  ⟨h.1.kept (grown_set w ⟨p, j, none⟩ u) (.inr hne), h.2.1.setCell hp u, by have := h.2.2; simp [World.setCell]; omega⟩

set_option maxHeartbeats 1000000 in
theorem put_any (B : Nat) (w0 w : World) (p : Nat) (v : Value) (xs : List Int) (A : Option Addr) (c : Nat) (ys : List Int) (h : PutAt B w0 w p v xs) (hs : Src w w.heap.size A ys) (hx : xs.length ≤ 1000000) (hy : ys.length ≤ 1000000) :
    Calls Try.prog 68 #[.slice A ys.length c, .pointer (some ⟨p, 0, none⟩)] w (PutLeft B w0 w p v xs ys) := by
  have c0 : w.cell? ⟨p, 0, none⟩ = some v := by rw [cell_of_row w p 0 _ _ _ h.row]; rfl
  have f0 : w.frozen? ⟨p, 0, none⟩ = false := frozen_of_row w p 0 _ _ h.row
  have hO := h.own
  have H := Lib.hid h
  clear h
  go_enter Try.func68, Try.ntmps68
  go_wp2_with (at_builtin; refine wpl_app rfl _ _ rfl rfl hO rfl rfl hs hx hy ?_; intro v' w' hO2 hW; obtain ⟨g1, g2, g3⟩ := hW.other (lt_of_row H.out.row) H.out.ne; have c1 : w'.cell? ⟨p, 0, none⟩ = some v := (by rw [cell_of_row w' p 0 _ _ _ (g1.trans H.out.row)]; rfl); have f1 : w'.frozen? ⟨p, 0, none⟩ = false := frozen_of_row w' p 0 _ _ (g1.trans H.out.row); obtain ⟨A2, c2, rfl, hs2, hc2, hd2⟩ := hO2.form)
  go_end0
  have HO := H.out.row
  rw [show xs.length + ys.length = (xs ++ ys).length from List.length_append.symm]
  refine ⟨_, rfl, ⟨heap_setCell_same w' p 0 _ _ _ (g1.trans HO), hO2.set H.out.base g2, g2, H.out.base⟩, ?_, fun k hk hkp hne => ?_⟩
  · have := hW.size
    simp [World.setCell]; omega
  · obtain ⟨q1, q2, q3⟩ := hW.other hk hne
    exact ⟨(heap_setCell_other _ _ _ _ (by simpa using hkp)).trans q1, q2⟩

theorem put_one (B : Nat) (w0 w : World) (p : Nat) (v : Value) (xs : List Int) (y : Int) (g : Nat) (hg : g = w.heap.size) (h : PutAt B w0 w p v xs) (hx : xs.length ≤ 1000000) :
    Calls Try.prog 68 #[.slice (some ⟨g, 0, none⟩) 1 1, .pointer (some ⟨p, 0, none⟩)] (w.alloc (.cells #[.int .i64 y] 3)) (PutLeft B w0 (w.alloc (.cells #[.int .i64 y] 3)) p v xs [y]) := by
  subst hg
  exact put_any B w0 _ p v xs _ 1 [y] (h.alloc _) (Src.one (t := 3) (fr := (0, 0)) (heap_alloc_new w _) (by simp)) hx (by simp)
theorem put_two (B : Nat) (w0 w : World) (p : Nat) (v : Value) (xs : List Int) (y z : Int) (g : Nat) (hg : g = w.heap.size) (h : PutAt B w0 w p v xs) (hx : xs.length ≤ 1000000) :
    Calls Try.prog 68 #[.slice (some ⟨g, 0, none⟩) 2 2, .pointer (some ⟨p, 0, none⟩)] (w.alloc (.cells #[.int .i64 y, .int .i64 z] 3)) (PutLeft B w0 (w.alloc (.cells #[.int .i64 y, .int .i64 z] 3)) p v xs [y, z]) := by
  subst hg
  exact put_any B w0 _ p v xs _ 2 [y, z] (h.alloc _) (Src.two (t := 3) (fr := (0, 0)) (heap_alloc_new w _) (by simp)) hx (by simp)
end Go.Proofs.Ytchnpooijaalnaa
