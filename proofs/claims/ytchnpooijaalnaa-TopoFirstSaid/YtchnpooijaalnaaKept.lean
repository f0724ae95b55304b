/- What a loop over a function keeps: all cells but those of some blocks; a netlist's lists behind it (no condition but those that each theorem names). -/
import Derived.Test.YtchnpooijaalnaaApp
import Derived.RangeFuncNested
namespace Go.Proofs.Ytchnpooijaalnaa
open Go.ChangeShapes Go.WideShapes Go.RowKit
set_option linter.unusedVariables false

/-- Cells in blocks below B read as they did. -/
def Kept (B : Nat) (w w' : World) : Prop := ∀ b o v, b < B → w.cell? ⟨b, o, none⟩ = some v → w'.cell? ⟨b, o, none⟩ = some v
section
variable {w w' : World} {B : Nat} (hk : Kept B w w')
include hk
theorem Src.kept {A : Option Addr} {xs : List Int} (h : Src w B A xs) : Src w' B A xs := fun hn => by
  obtain ⟨b, o, e, hlt, hc⟩ := h hn
  exact ⟨b, o, e, hlt, fun j x hj => hk _ _ _ hlt (hc j x hj)⟩
theorem LatchAt.kept {b o : Nat} {x : PLatch} (hlt : b < B) (h : LatchAt w b o x) : LatchAt w' b o x := ⟨hk _ _ _ hlt h.1, hk _ _ _ hlt h.2.1, hk _ _ _ hlt h.2.2⟩
theorem AndAt.kept {b o : Nat} {x : PAnd} (hlt : b < B) (h : AndAt w b o x) : AndAt w' b o x := ⟨hk _ _ _ hlt h.1, hk _ _ _ hlt h.2.1, hk _ _ _ hlt h.2.2⟩
theorem ReadAt.kept {b o : Nat} {x : PRead} (hlt : b < B) (h : ReadAt w B b o x) : ReadAt w' B b o x := by
  obtain ⟨a, c, h1, h2, h3, h4⟩ := h
  exact ⟨a, c, hk _ _ _ hlt h1, hk _ _ _ hlt h2, h3.kept hk, h4⟩
theorem WriteAt.kept {b o : Nat} {x : PWrite} (hlt : b < B) (h : WriteAt w B b o x) : WriteAt w' B b o x := by
  obtain ⟨a, c, a2, c2, h1, h2, h3, h4, h5, h6⟩ := h
  exact ⟨a, c, a2, c2, hk _ _ _ hlt h1, hk _ _ _ hlt h2, hk _ _ _ hlt h3, h4.kept hk, h5.kept hk, h6⟩
theorem Ports.kept {a a2 : Option Addr} {c c2 : Nat} {m : PMem} (h : Ports w B a c a2 c2 m) : Ports w' B a c a2 c2 m :=
  ⟨h.1.mono (Nat.le_refl _) fun b o x hlt hx => ReadAt.kept hk hlt hx, h.2.1.mono (Nat.le_refl _) fun b o x hlt hx => WriteAt.kept hk hlt hx, h.2.2⟩
theorem MemAt.kept {b o : Nat} {x : PMem} (hlt : b < B) (h : MemAt w B b o x) : MemAt w' B b o x := by
  obtain ⟨a, c, a2, c2, h1, h2, h3, h4, h5, h6⟩ := h
  exact ⟨a, c, a2, c2, hk _ _ _ hlt h1, hk _ _ _ hlt h2, hk _ _ _ hlt h3, hk _ _ _ hlt h4, hk _ _ _ hlt h5, Ports.kept hk h6⟩
theorem NetAt.kept {S : NetS} {n : PNet} (h : NetAt w B S n) : NetAt w' B S n where
  inputs := h.inputs.kept hk
  latches := h.latches.mono (Nat.le_refl _) fun b o x hlt hx => LatchAt.kept hk hlt hx
  outs := h.outs.kept hk
  bads := h.bads.kept hk
  cons := h.cons.kept hk
  mems := h.mems.mono (Nat.le_refl _) fun b o x hlt hx => MemAt.kept hk hlt hx
  ands := h.ands.mono (Nat.le_refl _) fun b o x hlt hx => AndAt.kept hk hlt hx
  caps := h.caps
  room := h.room
end

/-- All cells are as they were, but for blocks from lo to hi. -/
structure Keeps (lo hi : Nat) (W W' : World) : Prop where
  size : W.heap.size ≤ W'.heap.size
  block : ∀ k cs t fr, W.heap[k]? = some (.cells cs t fr) → (k < lo ∨ hi ≤ k) → W'.heap[k]? = some (.cells cs t fr)
theorem Keeps.refl (lo hi : Nat) (W : World) : Keeps lo hi W W := ⟨Nat.le_refl _, fun _ _ _ _ h _ => h⟩
theorem Keeps.trans {lo hi : Nat} {A B C : World} (h : Keeps lo hi A B) (k : Keeps lo hi B C) : Keeps lo hi A C :=
  ⟨Nat.le_trans h.size k.size, fun i cs t fr hi hl => k.block i cs t fr (h.block i cs t fr hi hl) hl⟩
theorem Keeps.of_below {lo hi : Nat} {W W' : World} (h : Below W.heap.size W W') : Keeps lo hi W W' := ⟨h.size, fun k cs t fr hk _ => (h.block k (lt_of_row hk)).trans hk⟩
theorem Keeps.alloc (lo hi : Nat) (W : World) (o : Obj) : Keeps lo hi W (W.alloc o) := .of_below ((Below.refl _ W).alloc (Nat.le_refl _) o)
theorem Keeps.set {lo hi : Nat} (W : World) {a : Addr} (v : Value) (h1 : lo ≤ a.block) (h2 : a.block < hi) : Keeps lo hi W (W.setCell a v) :=
  ⟨by simp [World.setCell], fun k cs t fr hk hl => (heap_setCell_other W a k v (by omega)).trans hk⟩
theorem Keeps.drewN {lo hi : Nat} {W W' : World} (h : Keeps lo hi W W') (n : Nat) : Keeps lo hi W (W'.drewN n) := ⟨h.size, h.block⟩
theorem Keeps.put {lo hi : Nat} (W : World) (l : Nat) (o o' : Obj) (h : W.heap[l]? = some o) (ho : o.isCells = false) : Keeps lo hi W (W.putObj l o') := by
  refine ⟨(grownBy_putObj' W l o').size, fun k cs t fr hk hl => ?_⟩
  refine ((grownBy_putObj' W l o').block k (lt_of_row hk) fun e => ?_).trans hk
  injection e with e
  subst e
  rw [hk] at h
  injection h with h
  subst h
  exact absurd ho (by simp [Obj.isCells])
theorem Keeps.cell {lo hi b o : Nat} {W W' : World} {v : Value} (h : Keeps lo hi W W') (hb : b < lo ∨ hi ≤ b) (hv : W.cell? ⟨b, o, none⟩ = some v) : W'.cell? ⟨b, o, none⟩ = some v := by
  unfold World.cell? at hv
  split at hv
  · rename_i cs t fr hr
    have h2 := h.block _ _ _ _ hr hb
    unfold World.cell?
    rw [h2]
    exact hv
  · cases hv
theorem Keeps.kept {lo hi B : Nat} {W W' : World} (h : Keeps lo hi W W') (hB : B ≤ lo) : Kept B W W' := fun b o v hb hv => h.cell (.inl (by omega)) hv
theorem Keeps.box {lo hi g : Nat} {W W' : World} {n : PNet} {S : NetS} (h : Keeps lo hi W W') (hg : hi ≤ g) (hb : NetBox W g n S) : NetBox W' g n S :=
  ⟨h.cell (.inr hg) hb.n0, h.cell (.inr hg) hb.n1, h.cell (.inr hg) hb.n2, h.cell (.inr hg) hb.n3, h.cell (.inr hg) hb.n4, h.cell (.inr hg) hb.n5, h.cell (.inr hg) hb.n6, h.cell (.inr hg) hb.n7, Nat.lt_of_lt_of_le hb.lt h.size⟩
theorem Keeps.memBox {lo hi g : Nat} {W W' : World} {x : PMem} {a a2 : Option Addr} {c c2 : Nat} (h : Keeps lo hi W W') (hg : hi ≤ g) (hb : MemBox W g x a c a2 c2) : MemBox W' g x a c a2 c2 :=
  ⟨h.cell (.inr hg) hb.m0, h.cell (.inr hg) hb.m1, h.cell (.inr hg) hb.m2, h.cell (.inr hg) hb.m3, h.cell (.inr hg) hb.m4, Nat.lt_of_lt_of_le hb.lt h.size⟩
/-- The numbers xs in a block from hi on. -/
def High (w : World) (hi : Nat) (A : Option Addr) (xs : List Int) : Prop := xs ≠ [] → ∃ b o, A = some ⟨b, o, none⟩ ∧ hi ≤ b ∧ ∀ j x, xs[j]? = some x → w.cell? ⟨b, o + j, none⟩ = some (.int .i64 x)
theorem High.keeps {lo hi : Nat} {W W' : World} {A : Option Addr} {xs : List Int} (h : High W hi A xs) (hk : Keeps lo hi W W') : High W' hi A xs := fun hn => by
  obtain ⟨b, o, e, hb, hc⟩ := h hn
  exact ⟨b, o, e, hb, fun j x hj => hk.cell (.inr hb) (hc j x hj)⟩
theorem High.at {w : World} {hi k : Nat} {A : Option Addr} {xs : List Int} {x : Int} (h : High w hi A xs) (hk : xs[k]? = some x) : ∃ b o, A = some ⟨b, o, none⟩ ∧ hi ≤ b ∧ ∀ j x, xs[j]? = some x → w.cell? ⟨b, o + j, none⟩ = some (.int .i64 x) := by
  refine h ?_
  rintro rfl
  simp at hk
theorem Own.high {B hi : Nat} {w0 w : World} {v : Value} {xs : List Int} (h : Own B w0 w v xs) (hB : hi ≤ B) : ∃ A c, v = .slice A xs.length c ∧ High w hi A xs := by
  obtain ⟨A, c, rfl, hs, _⟩ := h.form
  refine ⟨A, c, rfl, fun hn => ?_⟩
  obtain ⟨b, o, rfl, hb, hc⟩ := hs hn
  exact ⟨b, o, rfl, Nat.le_trans hB (h.lt (g := b) rfl).1, hc⟩
end Go.Proofs.Ytchnpooijaalnaa
