/- A netlist as an argument: where its lists lie, that they lie so behind whatever turns nothing old, and that each argument that can be read is one (conditions: the argument can be read). -/
import Derived.Test.YtchnpooijaalnaaPNet
import Derived.Deep.Slices
import Derived.Deep.Fields
import Derived.ChangeSlices
import Derived.ProofKit
import Derived.OpenShut
namespace Go.Proofs.Ytchnpooijaalnaa
open Go.ChangeShapes Go.WideShapes Go.RowKit
set_option linter.unusedVariables false

/-- A row of values of k cells, where the slice's address says, in a block below B. -/
def Row {α : Type} (B k : Nat) (At : Nat → Nat → α → Prop) (A : Option Addr) (xs : List α) : Prop :=
  xs ≠ [] → ∃ b o, A = some ⟨b, o, none⟩ ∧ b < B ∧ ∀ j x, xs[j]? = some x → At b (o + j * k) x
theorem Row.at {α : Type} {B k j : Nat} {At : Nat → Nat → α → Prop} {A : Option Addr} {xs : List α} {x : α} (h : Row B k At A xs) (hj : xs[j]? = some x) :
    ∃ b o, A = some ⟨b, o, none⟩ ∧ b < B ∧ ∀ j x, xs[j]? = some x → At b (o + j * k) x := by
  refine h ?_
  rintro rfl
  simp at hj
theorem Row.mono {α : Type} {B B' k : Nat} {At At' : Nat → Nat → α → Prop} {A : Option Addr} {xs : List α} (h : Row B k At A xs) (hB : B ≤ B') (ha : ∀ b o x, b < B → At b o x → At' b o x) : Row B' k At' A xs := fun hn => by
  obtain ⟨b, o, e, hlt, hc⟩ := h hn
  exact ⟨b, o, e, by omega, fun j x hj => ha b _ x hlt (hc j x hj)⟩
theorem Row.nil {α : Type} {B k : Nat} {At : Nat → Nat → α → Prop} {A : Option Addr} : Row B k At A ([] : List α) := fun h => absurd rfl h

def LatchAt (w : World) (b o : Nat) (x : PLatch) : Prop :=
  w.cell? ⟨b, o, none⟩ = some (.int .i64 x.lv) ∧ w.cell? ⟨b, o + 1, none⟩ = some (.int .i64 x.ln) ∧ w.cell? ⟨b, o + 2, none⟩ = some (.int .i64 x.li)
def AndAt (w : World) (b o : Nat) (x : PAnd) : Prop :=
  w.cell? ⟨b, o, none⟩ = some (.int .i64 x.av) ∧ w.cell? ⟨b, o + 1, none⟩ = some (.int .i64 x.aa) ∧ w.cell? ⟨b, o + 2, none⟩ = some (.int .i64 x.ab)
def ReadAt (w : World) (B b o : Nat) (x : PRead) : Prop :=
  ∃ a c, w.cell? ⟨b, o, none⟩ = some (.int .i64 x.rv) ∧ w.cell? ⟨b, o + 1, none⟩ = some (.slice a x.ra.length c) ∧ Src w B a x.ra ∧ x.ra.length ≤ c ∧ c ≤ 9223372036854775807
def WriteAt (w : World) (B b o : Nat) (x : PWrite) : Prop :=
  ∃ a c a2 c2, w.cell? ⟨b, o, none⟩ = some (.int .i64 x.wo) ∧ w.cell? ⟨b, o + 1, none⟩ = some (.slice a x.wa.length c) ∧ w.cell? ⟨b, o + 2, none⟩ = some (.slice a2 x.wd.length c2) ∧
    Src w B a x.wa ∧ Src w B a2 x.wd ∧ x.wa.length ≤ c ∧ c ≤ 9223372036854775807 ∧ x.wd.length ≤ c2 ∧ c2 ≤ 9223372036854775807
/-- The ports of a memory, where its two slices say. -/
def Ports (w : World) (B : Nat) (a : Option Addr) (c : Nat) (a2 : Option Addr) (c2 : Nat) (m : PMem) : Prop :=
  Row B 2 (ReadAt w B) a m.mr ∧ Row B 3 (WriteAt w B) a2 m.mx ∧ m.mr.length ≤ c ∧ c ≤ 9223372036854775807 ∧ m.mx.length ≤ c2 ∧ c2 ≤ 9223372036854775807
def MemAt (w : World) (B b o : Nat) (m : PMem) : Prop :=
  ∃ a c a2 c2, w.cell? ⟨b, o, none⟩ = some (.int .i64 m.ma) ∧ w.cell? ⟨b, o + 1, none⟩ = some (.int .i64 m.mw) ∧ w.cell? ⟨b, o + 2, none⟩ = some (.bool m.mn) ∧
    w.cell? ⟨b, o + 3, none⟩ = some (.slice a m.mr.length c) ∧ w.cell? ⟨b, o + 4, none⟩ = some (.slice a2 m.mx.length c2) ∧ Ports w B a c a2 c2 m

/-- Where a netlist's seven lists lie, and how much room they have. -/
structure NetS where
  i : Option Addr
  ic : Nat
  l : Option Addr
  lc : Nat
  o : Option Addr
  oc : Nat
  b : Option Addr
  bc : Nat
  c : Option Addr
  cc : Nat
  m : Option Addr
  mc : Nat
  a : Option Addr
  ac : Nat
structure NetAt (w : World) (B : Nat) (S : NetS) (n : PNet) : Prop where
  inputs : Src w B S.i n.inputs
  latches : Row B 3 (LatchAt w) S.l n.latches
  outs : Src w B S.o n.outs
  bads : Src w B S.b n.bads
  cons : Src w B S.c n.cons
  mems : Row B 5 (MemAt w B) S.m n.mems
  ands : Row B 3 (AndAt w) S.a n.ands
  caps : n.inputs.length ≤ S.ic ∧ n.latches.length ≤ S.lc ∧ n.outs.length ≤ S.oc ∧ n.bads.length ≤ S.bc ∧ n.cons.length ≤ S.cc ∧ n.mems.length ≤ S.mc ∧ n.ands.length ≤ S.ac
  room : S.ic ≤ 9223372036854775807 ∧ S.lc ≤ 9223372036854775807 ∧ S.oc ≤ 9223372036854775807 ∧ S.bc ≤ 9223372036854775807 ∧ S.cc ≤ 9223372036854775807 ∧ S.mc ≤ 9223372036854775807 ∧ S.ac ≤ 9223372036854775807

section
variable {w w' : World} {B B' : Nat} (hb : Below B' w w') (hB : B ≤ B')
include hb hB
theorem LatchAt.below {b o : Nat} {x : PLatch} (hlt : b < B) (h : LatchAt w b o x) : LatchAt w' b o x := by
  have hl : b < B' := by omega
  exact ⟨(hb.cell (p := ⟨b, o, none⟩) hl).trans h.1, (hb.cell (p := ⟨b, o + 1, none⟩) hl).trans h.2.1, (hb.cell (p := ⟨b, o + 2, none⟩) hl).trans h.2.2⟩
theorem AndAt.below {b o : Nat} {x : PAnd} (hlt : b < B) (h : AndAt w b o x) : AndAt w' b o x := by
  have hl : b < B' := by omega
  exact ⟨(hb.cell (p := ⟨b, o, none⟩) hl).trans h.1, (hb.cell (p := ⟨b, o + 1, none⟩) hl).trans h.2.1, (hb.cell (p := ⟨b, o + 2, none⟩) hl).trans h.2.2⟩
theorem ReadAt.below {b o : Nat} {x : PRead} (hlt : b < B) (h : ReadAt w B b o x) : ReadAt w' B b o x := by
  have hl : b < B' := by omega
  obtain ⟨a, c, h1, h2, h3, h4⟩ := h
  exact ⟨a, c, (hb.cell (p := ⟨b, o, none⟩) hl).trans h1, (hb.cell (p := ⟨b, o + 1, none⟩) hl).trans h2, h3.below hb hB, h4⟩
theorem WriteAt.below {b o : Nat} {x : PWrite} (hlt : b < B) (h : WriteAt w B b o x) : WriteAt w' B b o x := by
  have hl : b < B' := by omega
  obtain ⟨a, c, a2, c2, h1, h2, h3, h4, h5, h6⟩ := h
  exact ⟨a, c, a2, c2, (hb.cell (p := ⟨b, o, none⟩) hl).trans h1, (hb.cell (p := ⟨b, o + 1, none⟩) hl).trans h2, (hb.cell (p := ⟨b, o + 2, none⟩) hl).trans h3, h4.below hb hB, h5.below hb hB, h6⟩
theorem Ports.below {a a2 : Option Addr} {c c2 : Nat} {m : PMem} (h : Ports w B a c a2 c2 m) : Ports w' B a c a2 c2 m :=
  ⟨h.1.mono (Nat.le_refl _) fun b o x hlt hx => ReadAt.below hb hB hlt hx, h.2.1.mono (Nat.le_refl _) fun b o x hlt hx => WriteAt.below hb hB hlt hx, h.2.2⟩
theorem MemAt.below {b o : Nat} {x : PMem} (hlt : b < B) (h : MemAt w B b o x) : MemAt w' B b o x := by
  have hl : b < B' := by omega
  obtain ⟨a, c, a2, c2, h1, h2, h3, h4, h5, h6⟩ := h
  exact ⟨a, c, a2, c2, (hb.cell (p := ⟨b, o, none⟩) hl).trans h1, (hb.cell (p := ⟨b, o + 1, none⟩) hl).trans h2, (hb.cell (p := ⟨b, o + 2, none⟩) hl).trans h3, (hb.cell (p := ⟨b, o + 3, none⟩) hl).trans h4, (hb.cell (p := ⟨b, o + 4, none⟩) hl).trans h5, Ports.below hb hB h6⟩
theorem NetAt.below {S : NetS} {n : PNet} (h : NetAt w B S n) : NetAt w' B S n where
  inputs := h.inputs.below hb hB
  latches := h.latches.mono (Nat.le_refl _) fun b o x hlt hx => LatchAt.below hb hB hlt hx
  outs := h.outs.below hb hB
  bads := h.bads.below hb hB
  cons := h.cons.below hb hB
  mems := h.mems.mono (Nat.le_refl _) fun b o x hlt hx => MemAt.below hb hB hlt hx
  ands := h.ands.mono (Nat.le_refl _) fun b o x hlt hx => AndAt.below hb hB hlt hx
  caps := h.caps
  room := h.room
end

section
variable {w : World} {B B' : Nat} (hB : B ≤ B')
include hB
theorem ReadAt.wider {b o : Nat} {x : PRead} (h : ReadAt w B b o x) : ReadAt w B' b o x := by
  obtain ⟨a, c, h1, h2, h3, h4⟩ := h
  exact ⟨a, c, h1, h2, h3.wider hB, h4⟩
theorem WriteAt.wider {b o : Nat} {x : PWrite} (h : WriteAt w B b o x) : WriteAt w B' b o x := by
  obtain ⟨a, c, a2, c2, h1, h2, h3, h4, h5, h6⟩ := h
  exact ⟨a, c, a2, c2, h1, h2, h3, h4.wider hB, h5.wider hB, h6⟩
theorem Ports.wider {a a2 : Option Addr} {c c2 : Nat} {m : PMem} (h : Ports w B a c a2 c2 m) : Ports w B' a c a2 c2 m :=
  ⟨h.1.mono hB fun b o x hlt hx => ReadAt.wider hB hx, h.2.1.mono hB fun b o x hlt hx => WriteAt.wider hB hx, h.2.2⟩
theorem MemAt.wider {b o : Nat} {x : PMem} (h : MemAt w B b o x) : MemAt w B' b o x := by
  obtain ⟨a, c, a2, c2, h1, h2, h3, h4, h5, h6⟩ := h
  exact ⟨a, c, a2, c2, h1, h2, h3, h4, h5, Ports.wider hB h6⟩
theorem NetAt.wider {S : NetS} {n : PNet} (h : NetAt w B S n) : NetAt w B' S n where
  inputs := h.inputs.wider hB
  latches := h.latches.mono hB fun b o x hlt hx => hx
  outs := h.outs.wider hB
  bads := h.bads.wider hB
  cons := h.cons.wider hB
  mems := h.mems.mono hB fun b o x hlt hx => MemAt.wider hB hx
  ands := h.ands.mono hB fun b o x hlt hx => hx
  caps := h.caps
  room := h.room
end
/-- What lay below B lies so behind whatever turned nothing below a number that is no less, and everything old is new memory's old. -/
theorem NetAt.later {w w' : World} {B : Nat} {S : NetS} {n : PNet} (h : NetAt w B S n) (hb : Below B w w') (hB : B ≤ w'.heap.size) : NetAt w' w'.heap.size S n :=
  NetAt.wider hB (NetAt.below hb (Nat.le_refl _) h)

/-- The cells of a block that the call made. -/
theorem cell_box (w : World) (cs : Array Value) (t : TypeId) (j : Nat) (v : Value) (h : cs[j]? = some v) : (w.alloc (.cells cs t)).cell? ⟨w.heap.size, j, none⟩ = some v := by
  rw [cell_of_row _ w.heap.size j cs t (0, 0) (heap_alloc_new w _)]
  exact h
/-- A netlist that lies in block g as one value; a memory. -/
structure NetBox (w : World) (g : Nat) (n : PNet) (S : NetS) : Prop where
  n0 : w.cell? ⟨g, 0, none⟩ = some (.int .i64 n.vars)
  n1 : w.cell? ⟨g, 1, none⟩ = some (.slice S.i n.inputs.length S.ic)
  n2 : w.cell? ⟨g, 2, none⟩ = some (.slice S.l n.latches.length S.lc)
  n3 : w.cell? ⟨g, 3, none⟩ = some (.slice S.o n.outs.length S.oc)
  n4 : w.cell? ⟨g, 4, none⟩ = some (.slice S.b n.bads.length S.bc)
  n5 : w.cell? ⟨g, 5, none⟩ = some (.slice S.c n.cons.length S.cc)
  n6 : w.cell? ⟨g, 6, none⟩ = some (.slice S.m n.mems.length S.mc)
  n7 : w.cell? ⟨g, 7, none⟩ = some (.slice S.a n.ands.length S.ac)
  lt : g < w.heap.size
structure MemBox (w : World) (g : Nat) (x : PMem) (a : Option Addr) (c : Nat) (a2 : Option Addr) (c2 : Nat) : Prop where
  m0 : w.cell? ⟨g, 0, none⟩ = some (.int .i64 x.ma)
  m1 : w.cell? ⟨g, 1, none⟩ = some (.int .i64 x.mw)
  m2 : w.cell? ⟨g, 2, none⟩ = some (.bool x.mn)
  m3 : w.cell? ⟨g, 3, none⟩ = some (.slice a x.mr.length c)
  m4 : w.cell? ⟨g, 4, none⟩ = some (.slice a2 x.mx.length c2)
  lt : g < w.heap.size
theorem netBox_new (w : World) (n : PNet) (S : NetS) (t : TypeId) : NetBox (w.alloc (.cells #[.int .i64 n.vars, .slice S.i n.inputs.length S.ic, .slice S.l n.latches.length S.lc, .slice S.o n.outs.length S.oc, .slice S.b n.bads.length S.bc, .slice S.c n.cons.length S.cc, .slice S.m n.mems.length S.mc, .slice S.a n.ands.length S.ac] t)) w.heap.size n S :=
  ⟨cell_box w _ t 0 _ rfl, cell_box w _ t 1 _ rfl, cell_box w _ t 2 _ rfl, cell_box w _ t 3 _ rfl, cell_box w _ t 4 _ rfl, cell_box w _ t 5 _ rfl, cell_box w _ t 6 _ rfl, cell_box w _ t 7 _ rfl, by simp⟩
theorem memBox_new (w : World) (x : PMem) (a : Option Addr) (c : Nat) (a2 : Option Addr) (c2 : Nat) (t : TypeId) : MemBox (w.alloc (.cells #[.int .i64 x.ma, .int .i64 x.mw, .bool x.mn, .slice a x.mr.length c, .slice a2 x.mx.length c2] t)) w.heap.size x a c a2 c2 :=
  ⟨cell_box w _ t 0 _ rfl, cell_box w _ t 1 _ rfl, cell_box w _ t 2 _ rfl, cell_box w _ t 3 _ rfl, cell_box w _ t 4 _ rfl, by simp⟩
theorem NetBox.below {w w' : World} {g B : Nat} {n : PNet} {S : NetS} (h : NetBox w g n S) (hb : Below B w w') (hg : g < B) : NetBox w' g n S :=
  ⟨(hb.cell (p := ⟨g, 0, none⟩) hg).trans h.n0, (hb.cell (p := ⟨g, 1, none⟩) hg).trans h.n1, (hb.cell (p := ⟨g, 2, none⟩) hg).trans h.n2, (hb.cell (p := ⟨g, 3, none⟩) hg).trans h.n3, (hb.cell (p := ⟨g, 4, none⟩) hg).trans h.n4,
    (hb.cell (p := ⟨g, 5, none⟩) hg).trans h.n5, (hb.cell (p := ⟨g, 6, none⟩) hg).trans h.n6, (hb.cell (p := ⟨g, 7, none⟩) hg).trans h.n7, Nat.lt_of_lt_of_le h.lt hb.size⟩
theorem MemBox.below {w w' : World} {g B : Nat} {x : PMem} {a a2 : Option Addr} {c c2 : Nat} (h : MemBox w g x a c a2 c2) (hb : Below B w w') (hg : g < B) : MemBox w' g x a c a2 c2 :=
  ⟨(hb.cell (p := ⟨g, 0, none⟩) hg).trans h.m0, (hb.cell (p := ⟨g, 1, none⟩) hg).trans h.m1, (hb.cell (p := ⟨g, 2, none⟩) hg).trans h.m2, (hb.cell (p := ⟨g, 3, none⟩) hg).trans h.m3, (hb.cell (p := ⟨g, 4, none⟩) hg).trans h.m4, Nat.lt_of_lt_of_le h.lt hb.size⟩
theorem below_box (w : World) (cs : Array Value) (t : TypeId) : Below w.heap.size w (w.alloc (.cells cs t)) := (Below.refl _ _).alloc (Nat.le_refl _) _
/-- What was true of old memory before a call that made a block and went on is true behind it. -/
theorem below_on {w w1 w2 : World} (h1 : Below w.heap.size w w1) (h2 : Below w1.heap.size w1 w2) : Below w.heap.size w w2 := h1.trans (h2.mono h1.size)

/-! ### An argument, opened -/
theorem list_of {α : Type} (n : Nat) {p : Nat → α → Prop} (h : ∀ i, i < n → ∃ x, p i x) : ∃ xs : List α, xs.length = n ∧ ∀ j x, xs[j]? = some x → p j x := by
  induction n with
  | zero => exact ⟨[], rfl, fun j x h => by simp at h⟩
  | succ n ih =>
    obtain ⟨xs, hl, hx⟩ := ih fun i hi => h i (by omega)
    obtain ⟨y, hy⟩ := h n (by omega)
    refine ⟨xs ++ [y], by simp [hl], fun j x hj => ?_⟩
    by_cases hjn : j < n
    · rw [List.getElem?_append_left (by omega)] at hj
      exact hx j x hj
    · have hlt := lt_of_some hj
      have : j = n := by simp [hl] at hlt; omega
      subst this
      rw [List.getElem?_append_right (by omega), hl] at hj
      simp at hj
      exact hj ▸ hy

section
variable {H : Type} {enc : TypeId × Value → H} {w : World} {spare : Nat → Bool} {held : Bool}

theorem i64_of {k : Int} (h : (Lit.int .i64 k).wf = true) : I64 k := by
  have e1 : IntKind.i64.min = -9223372036854775808 := by decide
  have e2 : IntKind.i64.max = 9223372036854775807 := by decide
  simp [Lit.wf] at h
  rw [e1] at h
  unfold I64
  omega

theorem cells_at {P : Program} {t : TypeId} {fs : Array Go.Field} {fuel : Nat} {cs : List Value} {x : DataW H × List MemPlace} (ht : P.underlying t = some (.struct fs)) (hone : Go.Deep.oneCellFields P fs = true) (hC : P.cellsOf t = fs.size)
    (h : DataW.trod enc P w 0 spare held fuel t cs = some x) : cs.length = fs.size ∧ ∀ (j : Nat) (f : Go.Field), fs[j]? = some f → ∃ v y n, cs[j]? = some v ∧ DataW.trod enc P w 0 spare held n f.type [v] = some y := by
  obtain ⟨xs, n, _, _, hl, hlen, hf⟩ := DataW.trod_struct ht h
  rw [hC] at hl
  refine ⟨hl, fun j f hj => ?_⟩
  have hjl : j < fs.size := (Array.getElem?_eq_some_iff.1 hj).1
  obtain ⟨ho, hk⟩ := Go.Deep.hone_of hone j f hj
  obtain ⟨v, hv⟩ := some_of_lt (xs := cs) (k := j) (by omega)
  obtain ⟨y, hy⟩ := some_of_lt (xs := xs) (k := j) (by omega)
  have := hf j f hj
  rw [ho, hk, drop_some hv, hy] at this
  exact ⟨v, y, n, hv, this⟩

/-- A slice whose elements lie in k cells each: element by element, what is read there. -/
theorem open_row {α : Type} {P : Program} {t e : TypeId} {fuel k : Nat} {a : Option Addr} {n c : Nat} {x : DataW H × List MemPlace} (ht : P.underlying t = some (.slice e)) (hk : P.cellsOf e = k) (hk0 : 0 < k)
    (h : DataW.trod enc P w 0 (fun _ => true) held fuel t [.slice a n c] = some x) (At : Nat → Nat → α → Prop) (Q : α → Prop)
    (each : ∀ (b o m : Nat) (cs : List Value) (y : DataW H × List MemPlace), (∀ i v, cs[i]? = some v → w.cell? ⟨b, o + i, none⟩ = some v) → DataW.trod enc P w 0 (fun _ => true) held m e cs = some y → ∃ z, At b o z ∧ Q z) :
    ∃ zs : List α, zs.length = n ∧ Row w.heap.size k At a zs ∧ (∀ z ∈ zs, Q z) ∧ n ≤ c ∧ c ≤ 9223372036854775807 := by
  rcases Go.Deep.open_slice ht h with ⟨h1, _⟩ | ⟨ad, len, cap, m, fu, D, Pl, hcs, _, hlc, hcm, hm, _, hx⟩
  · simp at h1
    obtain ⟨rfl, rfl, rfl⟩ := h1
    exact ⟨[], rfl, Row.nil, fun z hz => by simp at hz, Nat.le_refl _, by omega⟩
  · simp at hcs
    obtain ⟨rfl, rfl, rfl⟩ := hcs
    simp only [if_true] at hm
    have hplace : 0 < n → ∃ b o, ad = ⟨b, o, none⟩ ∧ b < w.heap.size := fun h0 => by
      obtain ⟨cs, hc1, hc2⟩ := hx 0 (by omega)
      obtain ⟨_, hlen, hcell⟩ := World.cells?_some hc1
      obtain ⟨v, hv⟩ := some_of_lt (xs := cs) (k := 0) (by omega)
      have g0 := (hcell 0 (by omega)).trans hv
      obtain ⟨b, o, spot⟩ := ad
      have hspot : spot = none := by simpa [Addr.add] using World.cell?_spot g0
      subst hspot
      exact ⟨b, o, rfl, by simpa [Addr.add] using World.block_lt_of_cell? w _ g0⟩
    by_cases h0 : n = 0
    · subst h0
      exact ⟨[], rfl, Row.nil, fun z hz => by simp at hz, by omega, by unfold maxLen at hcm; omega⟩
    · obtain ⟨b, o, rfl, hb⟩ := hplace (by omega)
      have key : ∀ i, i < n → ∃ z, At b (o + i * k) z ∧ Q z := fun i hi => by
        obtain ⟨cs, hc1, hc2⟩ := hx i (by omega)
        obtain ⟨_, hlen, hcell⟩ := World.cells?_some hc1
        refine each b (o + i * k) fu cs _ (fun j v hj => ?_) hc2
        have hjl := lt_of_some hj
        have := hcell j (by omega)
        rw [hk, Addr.add_lit, Addr.add_lit] at this
        rw [this, hj]
      obtain ⟨zs, hl, hz⟩ := list_of n key
      refine ⟨zs, hl, fun _ => ⟨b, o, rfl, hb, fun j z hj => (hz j z hj).1⟩, fun z hz2 => ?_, hlc, by unfold maxLen at hcm; omega⟩
      obtain ⟨j, hj⟩ := List.getElem?_of_mem hz2
      exact (hz j z hj).2

theorem cells_int : Try.prog.cellsOf 3 = 1 := by kernel_rfl
theorem cells_read : Try.prog.cellsOf 52 = 2 := by kernel_rfl
theorem cells_write : Try.prog.cellsOf 76 = 3 := by kernel_rfl
theorem cells_latch : Try.prog.cellsOf 50 = 3 := by kernel_rfl
theorem cells_and : Try.prog.cellsOf 59 = 3 := by kernel_rfl
theorem cells_mem : Try.prog.cellsOf 56 = 5 := by kernel_rfl
theorem cells_net : Try.prog.cellsOf 27 = 8 := by kernel_rfl

/-- One field of one cell: what it holds. -/
theorem field_int {n : Nat} {v : Value} {y : DataW H × List MemPlace} (h : DataW.trod enc Try.prog w 0 spare held n 3 [v] = some y) : ∃ k, v = .int .i64 k ∧ I64 k := by
  obtain ⟨k, e, _, hw⟩ := DataW.trod_int Try.underlying3 h
  simp at e
  exact ⟨k, e, i64_of hw⟩
theorem field_bool {n : Nat} {v : Value} {y : DataW H × List MemPlace} (h : DataW.trod enc Try.prog w 0 spare held n 4 [v] = some y) : ∃ k, v = .bool k := by
  obtain ⟨k, e, _⟩ := DataW.trod_bool Try.underlying4 h
  simp at e
  exact ⟨k, e⟩
theorem slice_form {P : Program} {t e : TypeId} {n : Nat} {v : Value} {y : DataW H × List MemPlace} (ht : P.underlying t = some (.slice e)) (h : DataW.trod enc P w 0 spare held n t [v] = some y) : ∃ a l c, v = .slice a l c := by
  rcases Go.Deep.open_slice ht h with ⟨h1, _⟩ | ⟨ad, len, cap, m, fu, D, Pl, hcs, _⟩
  · simp at h1
    exact ⟨_, _, _, h1⟩
  · simp at hcs
    exact ⟨_, _, _, hcs⟩
theorem field_ints {n : Nat} {v : Value} {y : DataW H × List MemPlace} (h : DataW.trod enc Try.prog w 0 (fun _ => true) held n 22 [v] = some y) :
    ∃ (a : Option Addr) (c : Nat) (xs : List Int), v = .slice a xs.length c ∧ Src w w.heap.size a xs ∧ (∀ x ∈ xs, I64 x) ∧ xs.length ≤ c ∧ c ≤ 9223372036854775807 := by
  obtain ⟨a, l, c, rfl⟩ := slice_form Try.underlying22 h
  obtain ⟨zs, rfl, h1, h2, h3, h4⟩ := open_row (α := Int) Try.underlying22 cells_int (by decide) h (fun b o z => w.cell? ⟨b, o, none⟩ = some (.int .i64 z)) I64 fun b o m cs y hc ht => by
    obtain ⟨k, e, _, hw⟩ := DataW.trod_int Try.underlying3 ht
    subst e
    exact ⟨k, hc 0 _ rfl, i64_of hw⟩
  refine ⟨a, c, zs, rfl, fun hn => ?_, h2, h3, h4⟩
  obtain ⟨b, o, e, hlt, hc⟩ := h1 hn
  exact ⟨b, o, e, hlt, fun j x hj => by simpa using hc j x hj⟩

set_option maxRecDepth 10000 in
theorem open_read {b o m : Nat} {cs : List Value} {y : DataW H × List MemPlace} (hc : ∀ i v, cs[i]? = some v → w.cell? ⟨b, o + i, none⟩ = some v) (h : DataW.trod enc Try.prog w 0 (fun _ => true) held m 52 cs = some y) :
    ∃ z, ReadAt w w.heap.size b o z ∧ z.fits := by
  obtain ⟨hl, hf⟩ := cells_at Try.underlying52 (by kernel_rfl) cells_read h
  obtain ⟨v0, y0, n0, e0, t0⟩ := hf 0 _ rfl
  obtain ⟨v1, y1, n1, e1, t1⟩ := hf 1 _ rfl
  obtain ⟨k, rfl, hk⟩ := field_int t0
  obtain ⟨a, c, xs, rfl, h1, h2, h3, h4⟩ := field_ints t1
  exact ⟨⟨k, xs⟩, ⟨a, c, hc 0 _ e0, hc 1 _ e1, h1, h3, h4⟩, hk, h2⟩
set_option maxRecDepth 10000 in
theorem open_write {b o m : Nat} {cs : List Value} {y : DataW H × List MemPlace} (hc : ∀ i v, cs[i]? = some v → w.cell? ⟨b, o + i, none⟩ = some v) (h : DataW.trod enc Try.prog w 0 (fun _ => true) held m 76 cs = some y) :
    ∃ z, WriteAt w w.heap.size b o z ∧ z.fits := by
  obtain ⟨hl, hf⟩ := cells_at Try.underlying76 (by kernel_rfl) cells_write h
  obtain ⟨v0, y0, n0, e0, t0⟩ := hf 0 _ rfl
  obtain ⟨v1, y1, n1, e1, t1⟩ := hf 1 _ rfl
  obtain ⟨v2, y2, n2, e2, t2⟩ := hf 2 _ rfl
  obtain ⟨k, rfl, hk⟩ := field_int t0
  obtain ⟨a, c, xs, rfl, h1, h2, h3, h4⟩ := field_ints t1
  obtain ⟨a2, c2, xs2, rfl, g1, g2, g3, g4⟩ := field_ints t2
  exact ⟨⟨k, xs, xs2⟩, ⟨a, c, a2, c2, hc 0 _ e0, hc 1 _ e1, hc 2 _ e2, h1, g1, h3, h4, g3, g4⟩, hk, h2, g2⟩
set_option maxRecDepth 10000 in
theorem open_latch {b o m : Nat} {cs : List Value} {y : DataW H × List MemPlace} (hc : ∀ i v, cs[i]? = some v → w.cell? ⟨b, o + i, none⟩ = some v) (h : DataW.trod enc Try.prog w 0 (fun _ => true) held m 50 cs = some y) :
    ∃ z, LatchAt w b o z ∧ z.fits := by
  obtain ⟨hl, hf⟩ := cells_at Try.underlying50 (by kernel_rfl) cells_latch h
  obtain ⟨v0, y0, n0, e0, t0⟩ := hf 0 _ rfl
  obtain ⟨v1, y1, n1, e1, t1⟩ := hf 1 _ rfl
  obtain ⟨v2, y2, n2, e2, t2⟩ := hf 2 _ rfl
  obtain ⟨k0, rfl, h0⟩ := field_int t0
  obtain ⟨k1, rfl, h1⟩ := field_int t1
  obtain ⟨k2, rfl, h2⟩ := field_int t2
  exact ⟨⟨k0, k1, k2⟩, ⟨hc 0 _ e0, hc 1 _ e1, hc 2 _ e2⟩, h0, h1, h2⟩
set_option maxRecDepth 10000 in
theorem open_and {b o m : Nat} {cs : List Value} {y : DataW H × List MemPlace} (hc : ∀ i v, cs[i]? = some v → w.cell? ⟨b, o + i, none⟩ = some v) (h : DataW.trod enc Try.prog w 0 (fun _ => true) held m 59 cs = some y) :
    ∃ z, AndAt w b o z ∧ z.fits := by
  obtain ⟨hl, hf⟩ := cells_at Try.underlying59 (by kernel_rfl) cells_and h
  obtain ⟨v0, y0, n0, e0, t0⟩ := hf 0 _ rfl
  obtain ⟨v1, y1, n1, e1, t1⟩ := hf 1 _ rfl
  obtain ⟨v2, y2, n2, e2, t2⟩ := hf 2 _ rfl
  obtain ⟨k0, rfl, h0⟩ := field_int t0
  obtain ⟨k1, rfl, h1⟩ := field_int t1
  obtain ⟨k2, rfl, h2⟩ := field_int t2
  exact ⟨⟨k0, k1, k2⟩, ⟨hc 0 _ e0, hc 1 _ e1, hc 2 _ e2⟩, h0, h1, h2⟩

set_option maxRecDepth 10000 in
/-- A memory's cells, wherever they are: its parts. -/
theorem open_memory {m : Nat} {cs : List Value} {y : DataW H × List MemPlace} (h : DataW.trod enc Try.prog w 0 (fun _ => true) held m 56 cs = some y) :
    ∃ (z : PMem) (a : Option Addr) (c : Nat) (a2 : Option Addr) (c2 : Nat), cs = [.int .i64 z.ma, .int .i64 z.mw, .bool z.mn, .slice a z.mr.length c, .slice a2 z.mx.length c2] ∧ Ports w w.heap.size a c a2 c2 z ∧ z.fits := by
  obtain ⟨hl, hf⟩ := cells_at Try.underlying56 (by kernel_rfl) cells_mem h
  obtain ⟨v0, y0, n0, e0, t0⟩ := hf 0 _ rfl
  obtain ⟨v1, y1, n1, e1, t1⟩ := hf 1 _ rfl
  obtain ⟨v2, y2, n2, e2, t2⟩ := hf 2 _ rfl
  obtain ⟨v3, y3, n3, e3, t3⟩ := hf 3 _ rfl
  obtain ⟨v4, y4, n4, e4, t4⟩ := hf 4 _ rfl
  obtain ⟨k0, rfl, h0⟩ := field_int t0
  obtain ⟨k1, rfl, h1⟩ := field_int t1
  obtain ⟨k2, rfl⟩ := field_bool t2
  obtain ⟨a, l, c, rfl⟩ := slice_form Try.underlying53 t3
  obtain ⟨rs, rfl, r1, r2, r3, r4⟩ := open_row (α := PRead) Try.underlying53 cells_read (by decide) t3 (ReadAt w w.heap.size) PRead.fits fun b o m cs y hc ht => open_read hc ht
  obtain ⟨a2, l2, c2, rfl⟩ := slice_form Try.underlying54 t4
  obtain ⟨ws, rfl, s1, s2, s3, s4⟩ := open_row (α := PWrite) Try.underlying54 cells_write (by decide) t4 (WriteAt w w.heap.size) PWrite.fits fun b o m cs y hc ht => open_write hc ht
  refine ⟨⟨k0, k1, k2, rs, ws⟩, a, c, a2, c2, ?_, ⟨r1, s1, r3, r4, s3, s4⟩, h0, h1, r2, s2⟩
  match cs, hl with
  | [u0, u1, u2, u3, u4], _ =>
    simp at e0 e1 e2 e3 e4
    simp [e0, e1, e2, e3, e4]
theorem open_mem {b o m : Nat} {cs : List Value} {y : DataW H × List MemPlace} (hc : ∀ i v, cs[i]? = some v → w.cell? ⟨b, o + i, none⟩ = some v) (h : DataW.trod enc Try.prog w 0 (fun _ => true) held m 56 cs = some y) :
    ∃ z, MemAt w w.heap.size b o z ∧ z.fits := by
  obtain ⟨z, a, c, a2, c2, rfl, hp, hz⟩ := open_memory h
  exact ⟨z, ⟨a, c, a2, c2, hc 0 _ rfl, hc 1 _ rfl, hc 2 _ rfl, hc 3 _ rfl, hc 4 _ rfl, hp⟩, hz⟩

/-- The value of a netlist as an argument. -/
def netV (n : PNet) (S : NetS) : Value := .agg #[.int .i64 n.vars, .slice S.i n.inputs.length S.ic, .slice S.l n.latches.length S.lc, .slice S.o n.outs.length S.oc, .slice S.b n.bads.length S.bc, .slice S.c n.cons.length S.cc, .slice S.m n.mems.length S.mc, .slice S.a n.ands.length S.ac]

set_option maxRecDepth 10000 in
theorem open_net {v : Value} {d : DataW H} {p : List MemPlace} {r : Reach} {b0 : Nat} (hv : Value.okWide Try.prog w r b0 27 v) (h : DataW.Trod enc Try.prog w 0 (fun _ => true) held 27 v d p) :
    ∃ n S, v = netV n S ∧ NetAt w w.heap.size S n ∧ n.fits := by
  obtain ⟨cs, rfl, hsz⟩ := okWide_struct Try.underlying27 hv
  obtain ⟨fuel, h⟩ := h
  obtain ⟨l⟩ := cs
  have h' : DataW.trod enc Try.prog w 0 (fun _ => true) held fuel 27 l = some (d, p) := by simpa [Value.cells] using h
  obtain ⟨hl, hf⟩ := cells_at Try.underlying27 (by kernel_rfl) cells_net h'
  obtain ⟨v0, y0, n0, e0, t0⟩ := hf 0 _ rfl
  obtain ⟨v1, y1, n1, e1, t1⟩ := hf 1 _ rfl
  obtain ⟨v2, y2, n2, e2, t2⟩ := hf 2 _ rfl
  obtain ⟨v3, y3, n3, e3, t3⟩ := hf 3 _ rfl
  obtain ⟨v4, y4, n4, e4, t4⟩ := hf 4 _ rfl
  obtain ⟨v5, y5, n5, e5, t5⟩ := hf 5 _ rfl
  obtain ⟨v6, y6, n6, e6, t6⟩ := hf 6 _ rfl
  obtain ⟨v7, y7, n7, e7, t7⟩ := hf 7 _ rfl
  obtain ⟨k0, rfl, h0⟩ := field_int t0
  obtain ⟨a1, c1, x1, rfl, p1, q1, r1, s1⟩ := field_ints t1
  obtain ⟨a2, l2, c2, rfl⟩ := slice_form Try.underlying23 t2
  obtain ⟨x2, rfl, p2, q2, r2, s2⟩ := open_row (α := PLatch) Try.underlying23 cells_latch (by decide) t2 (LatchAt w) PLatch.fits fun b o m cs y hc ht => open_latch hc ht
  obtain ⟨a3, c3, x3, rfl, p3, q3, r3, s3⟩ := field_ints t3
  obtain ⟨a4, c4, x4, rfl, p4, q4, r4, s4⟩ := field_ints t4
  obtain ⟨a5, c5, x5, rfl, p5, q5, r5, s5⟩ := field_ints t5
  obtain ⟨a6, l6, c6, rfl⟩ := slice_form Try.underlying24 t6
  obtain ⟨x6, rfl, p6, q6, r6, s6⟩ := open_row (α := PMem) Try.underlying24 cells_mem (by decide) t6 (MemAt w w.heap.size) PMem.fits fun b o m cs y hc ht => open_mem hc ht
  obtain ⟨a7, l7, c7, rfl⟩ := slice_form Try.underlying25 t7
  obtain ⟨x7, rfl, p7, q7, r7, s7⟩ := open_row (α := PAnd) Try.underlying25 cells_and (by decide) t7 (AndAt w) PAnd.fits fun b o m cs y hc ht => open_and hc ht
  refine ⟨⟨k0, x1, x2, x3, x4, x5, x6, x7⟩, ⟨a1, c1, a2, c2, a3, c3, a4, c4, a5, c5, a6, c6, a7, c7⟩, ?_, ⟨p1, p2, p3, p4, p5, p6, p7, ⟨r1, r2, r3, r4, r5, r6, r7⟩, ⟨s1, s2, s3, s4, s5, s6, s7⟩⟩, ⟨h0, q1, q2, q3, q4, q5, q6, q7⟩⟩
  match l, hl with
  | [u0, u1, u2, u3, u4, u5, u6, u7], _ =>
    simp at e0 e1 e2 e3 e4 e5 e6 e7
    simp [netV, e0, e1, e2, e3, e4, e5, e6, e7]
end
end Go.Proofs.Ytchnpooijaalnaa
