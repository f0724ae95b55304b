/- A netlist's nodes by definition: ands, then ports, each with its literals and its variables (conditions: the netlist lies where its value says; words of 0 to 64 bits, ports' first variables no more than 2^61 from 0). -/
import Derived.Test.YtchnpooijaalnaaRefLists
import Derived.Test.YtchnpooijaalnaaKept
import Derived.Deep.RegionHeld3
import Derived.Deep.DrawnRows
namespace Go.Proofs.Ytchnpooijaalnaa
open Go.ChangeShapes Go.WideShapes Go.RowKit
set_option linter.unusedVariables false

structure PNode where
  nr : Bool
  nm : Int
  na : Int
  nf : List Int
  nv : List Int
def andNodes : Nat → List PAnd → List PNode
  | _, [] => []
  | k, x :: l => ⟨false, 0, (k : Int), [x.aa, x.ab], [x.av]⟩ :: andNodes (k + 1) l
def portNodes (w : Int) (i : Nat) : Nat → List PRead → List PNode
  | _, [] => []
  | k, r :: l => ⟨true, (i : Int), (k : Int), r.ra, dataL r.rv w⟩ :: portNodes w i (k + 1) l
def memNodes : Nat → List PMem → List PNode
  | _, [] => []
  | i, m :: l => portNodes m.mw i 0 m.mr ++ memNodes (i + 1) l
def PNet.nodes (n : PNet) : List PNode := andNodes 0 n.ands ++ memNodes 0 n.mems

/-- Where a node's two lists lie. -/
structure NodeS where
  a : Option Addr
  c : Nat
  a2 : Option Addr
  c2 : Nat
def nodeCells (p : PNode × NodeS) : List Value := [.bool p.1.nr, .int .i64 p.1.nm, .int .i64 p.1.na, .slice p.2.a p.1.nf.length p.2.c, .slice p.2.a2 p.1.nv.length p.2.c2]
theorem flat_get {α β : Type} (f : α → List β) (k : Nat) (hk : ∀ x, (f x).length = k) : ∀ (l : List α) (j i : Nat) (x : α), l[j]? = some x → i < k → (l.flatMap f)[j * k + i]? = (f x)[i]? := by
  intro l
  induction l with
  | nil => intro j i x h _; simp at h
  | cons y l ih =>
    intro j i x h hi
    rw [List.flatMap_cons]
    cases j with
    | zero =>
      simp at h
      subst h
      rw [Nat.zero_mul, Nat.zero_add, List.getElem?_append_left (by rw [hk]; exact hi)]
    | succ j =>
      simp at h
      rw [List.getElem?_append_right (by rw [hk, Nat.succ_mul]; omega), hk, show (j + 1) * k + i - k = j * k + i from by rw [Nat.succ_mul]; omega]
      exact ih j i x h hi

/-- A list of numbers in a block of which P holds. -/
def SrcP (w : World) (P : Nat → Prop) (A : Option Addr) (xs : List Int) : Prop :=
  xs ≠ [] → ∃ b o, A = some ⟨b, o, none⟩ ∧ P b ∧ ∀ j x, xs[j]? = some x → w.cell? ⟨b, o + j, none⟩ = some (.int .i64 x)
theorem SrcP.src {w : World} {P : Nat → Prop} {A : Option Addr} {xs : List Int} {B : Nat} (h : SrcP w P A xs) (hP : ∀ b, P b → b < B) : Src w B A xs := fun hn => by
  obtain ⟨b, o, e, h1, h2⟩ := h hn
  exact ⟨b, o, e, hP b h1, h2⟩
theorem SrcP.keep {w w' : World} {P : Nat → Prop} {A : Option Addr} {xs : List Int} (h : SrcP w P A xs) (hk : ∀ b, P b → w'.heap[b]? = w.heap[b]?) : SrcP w' P A xs := fun hn => by
  obtain ⟨b, o, e, h1, h2⟩ := h hn
  exact ⟨b, o, e, h1, fun j x hj => (World.cell?_of_block (a := ⟨b, o + j, none⟩) (hk b h1)).trans (h2 j x hj)⟩

/-- A list that lies beside the row v, not in it, in a block of which P holds. -/
def Elem (P : Nat → Prop) (w : World) (v : Value) (A : Option Addr) (xs : List Int) : Prop :=
  xs ≠ [] → ∃ b o, A = some ⟨b, o, none⟩ ∧ b < w.heap.size ∧ v.ownBlock ≠ some b ∧ (∀ j x, xs[j]? = some x → w.cell? ⟨b, o + j, none⟩ = some (.int .i64 x)) ∧ P b
variable {P : Nat → Prop}
theorem Elem.call {w w' : World} {v : Value} {A : Option Addr} {xs : List Int} (h : Elem P w v A xs) (hb : Below w.heap.size w w') : Elem P w' v A xs := fun hn => by
  obtain ⟨b, o, e, h1, h2, h3, h4⟩ := h hn
  exact ⟨b, o, e, by have := hb.size; omega, h2, fun j x hj => (hb.cell (p := ⟨b, o + j, none⟩) h1).trans (h3 j x hj), h4⟩
theorem Elem.alloc {w : World} {v : Value} {A : Option Addr} {xs : List Int} (h : Elem P w v A xs) (o : Obj) : Elem P (w.alloc o) v A xs := h.call ((Below.refl _ w).alloc (Nat.le_refl _) o)
theorem Elem.went {w w' : World} {v v' : Value} {A : Option Addr} {xs : List Int} (h : Elem P w v A xs) (hW : Went w v v' w') : Elem P w' v' A xs := fun hn => by
  obtain ⟨b, o, e, h1, h2, h3, h4⟩ := h hn
  obtain ⟨g1, g2, g3⟩ := hW.other h1 h2
  exact ⟨b, o, e, g3, g2, fun j x hj => (World.cell?_of_block (a := ⟨b, o + j, none⟩) g1).trans (h3 j x hj), h4⟩
theorem Elem.srcP {w : World} {v : Value} {A : Option Addr} {xs : List Int} (h : Elem P w v A xs) : SrcP w (fun b => P b ∧ b < w.heap.size) A xs := fun hn => by
  obtain ⟨b, o, e, h1, h2, h3, h4⟩ := h hn
  exact ⟨b, o, e, ⟨h4, h1⟩, h3⟩
theorem Elem.old {B : Nat} {w : World} {v : Value} {A : Option Addr} {xs : List Int} (h : Src w B A xs) (hB : B ≤ w.heap.size) (hv : ∀ k, v.ownBlock = some k → B ≤ k) (hP : ∀ b, b < B → P b) : Elem P w v A xs := fun hn => by
  obtain ⟨b, o, e, h1, h2⟩ := h hn
  exact ⟨b, o, e, by omega, fun e2 => by have := hv b e2; omega, h2, hP b h1⟩
theorem Elem.new {w w1 : World} {v : Value} {A : Option Addr} {xs : List Int} (h : High w w1.heap.size A xs) (hs : Src w w.heap.size A xs) (hv : ∀ k, v.ownBlock = some k → k < w1.heap.size) (hP : ∀ b, w1.heap.size ≤ b → P b) : Elem P w v A xs := fun hn => by
  obtain ⟨b, o, e, h1, h2⟩ := h hn
  obtain ⟨b', o', e', h1', _⟩ := hs hn
  rw [e] at e'
  injection e' with e'
  injection e' with e1 e2
  subst e1
  exact ⟨b, o, e, h1', fun e2 => by have := hv b e2; omega, h2, hP b h1⟩
theorem Elem.one (w : World) (v : Value) (x : Int) (g : Nat) (hg : g = w.heap.size) (hv : ∀ k, v.ownBlock = some k → k < w.heap.size) (hP : P g) : Elem P (w.alloc (.cells #[.int .i64 x] 3)) v (some ⟨g, 0, none⟩) [x] := fun hn => by
  subst hg
  obtain ⟨b, o, e, h1, h2⟩ := Src.one (t := 3) (fr := (0, 0)) (heap_alloc_new w (.cells #[.int .i64 x] 3)) (Nat.lt_succ_self _) hn
  injection e with e
  injection e with e1 e2
  subst e1
  subst e2
  exact ⟨w.heap.size, 0, rfl, by simp, fun e3 => by have := hv _ e3; omega, h2, hP⟩
theorem Elem.two (w : World) (v : Value) (x y : Int) (g : Nat) (hg : g = w.heap.size) (hv : ∀ k, v.ownBlock = some k → k < w.heap.size) (hP : P g) : Elem P (w.alloc (.cells #[.int .i64 x, .int .i64 y] 3)) v (some ⟨g, 0, none⟩) [x, y] := fun hn => by
  subst hg
  obtain ⟨b, o, e, h1, h2⟩ := Src.two (t := 3) (fr := (0, 0)) (heap_alloc_new w (.cells #[.int .i64 x, .int .i64 y] 3)) (Nat.lt_succ_self _) hn
  injection e with e
  injection e with e1 e2
  subst e1
  subst e2
  exact ⟨w.heap.size, 0, rfl, by simp, fun e3 => by have := hv _ e3; omega, h2, hP⟩

/-- v is a slice of the call's own that holds nodes. -/
structure OwnN (P : Nat → Prop) (B : Nat) (w0 w : World) (v : Value) (ps : List (PNode × NodeS)) : Prop where
  row : w.ownsRow B 44 5 v ps.length (ps.flatMap nodeCells)
  elems : ∀ p ∈ ps, Elem P w v p.2.a p.1.nf ∧ Elem P w v p.2.a2 p.1.nv
  below : Below B w0 w
  size : B ≤ w.heap.size
theorem OwnN.nil (w : World) : OwnN P w.heap.size w w (.slice none 0 0) [] := ⟨World.ownsRow_nil _ _ _ _, by simp, Below.refl _ _, Nat.le_refl _⟩
theorem OwnN.lt {B : Nat} {w0 w : World} {v : Value} {ps : List (PNode × NodeS)} (h : OwnN P B w0 w v ps) : ∀ k, v.ownBlock = some k → k < w.heap.size := fun k hk => (h.row.lt k hk).2
theorem OwnN.ge {B : Nat} {w0 w : World} {v : Value} {ps : List (PNode × NodeS)} (h : OwnN P B w0 w v ps) : ∀ k, v.ownBlock = some k → B ≤ k := fun k hk => (h.row.lt k hk).1
theorem OwnN.call {B : Nat} {w0 w w' : World} {v : Value} {ps : List (PNode × NodeS)} (h : OwnN P B w0 w v ps) (hb : Below w.heap.size w w') : OwnN P B w0 w' v ps := by
  refine ⟨h.row.kept (row := none) ⟨hb.os, hb.tape, hb.output, hb.size, fun k hk _ => hb.block k hk⟩ ?_, fun p hp => ⟨(h.elems p hp).1.call hb, (h.elems p hp).2.call hb⟩, h.below.trans (hb.mono h.size), Nat.le_trans h.size hb.size⟩
  cases hv : v.ownBlock with
  | none => exact .inl rfl
  | some k => exact .inr (by simp)
theorem OwnN.alloc {B : Nat} {w0 w : World} {v : Value} {ps : List (PNode × NodeS)} (h : OwnN P B w0 w v ps) (o : Obj) : OwnN P B w0 (w.alloc o) v ps := h.call ((Below.refl _ w).alloc (Nat.le_refl _) o)

theorem node_info : (Try.prog.info? 44).map (fun i => (i.zero, i.size, i.bytes)) = some (some (.agg #[.bool false, .int .i64 0, .int .i64 0, .slice none 0 0, .slice none 0 0]), 5, 72) := by kernel_rfl

variable {ops : Array Oper} {rest : List Oper} {o : Oper} {act : Act} {Q : Exit → Act → World → Prop}
theorem run_node {w w0 : World} {B : Nat} {v : Value} {ps : List (PNode × NodeS)} (hown : OwnN P B w0 w v ps) (p : PNode × NodeS) (h1 : Elem P w v p.2.a p.1.nf) (h2 : Elem P w v p.2.a2 p.1.nv) (ty : TypeId) (hb1 : ps.length ≤ 1000000) :
    ∃ v' w', (Builtin.append_ #[37, 37] ty #[v, .slice (some ⟨w.heap.size, 0, none⟩) 1 1]).run Try.prog (w.alloc (.cells (nodeCells p).toArray 44)) = .ok v' w' ∧ OwnN P B w0 w' v' (ps ++ [p]) := by
  obtain ⟨i0, hi, hz0, hz1, hz2⟩ := info_parts node_info
  have hO := hown.alloc (.cells (nodeCells p).toArray 44)
  obtain ⟨v', w', hr, g2, g3, _, g5⟩ := run_append_own_at (P := Try.prog) (w.alloc (.cells (nodeCells p).toArray 44)) B 37 ty 44 i0 _ 5 72 Try.underlying37 hi hz0 hz1 hz2 rfl (by decide)
    v ps.length (ps.flatMap nodeCells) hO.row ⟨w.heap.size, 0, none⟩ 1 1 (nodeCells p) rfl
    (fun j u hj => by
      rw [show ((⟨w.heap.size, 0, none⟩ : Addr).add j) = ⟨w.heap.size, 0 + j, none⟩ from Addr.add_lit _ _ _, cell_of_row _ w.heap.size (0 + j) _ _ _ (heap_alloc_new w _), Nat.zero_add, List.getElem?_toArray]
      exact hj)
    (fun u hu => by simp only [nodeCells, List.mem_cons, List.not_mem_nil, or_false] at hu; rcases hu with rfl | rfl | rfl | rfl | rfl <;> rfl) (by unfold maxLen; omega) (by omega) hO.size
  have hW : Went (w.alloc (.cells (nodeCells p).toArray 44)) v v' w' := ⟨g3, g5⟩
  refine ⟨v', w', hr, ⟨?_, fun q hq => ?_, hO.below.grown g3 hO.size (fun k hk => hO.ge k hk), Nat.le_trans hO.size g3.size⟩⟩
  · rw [List.length_append, List.flatMap_append]
    simpa using g2
  · rcases List.mem_append.1 hq with hq | hq
    · exact ⟨(hO.elems q hq).1.went hW, (hO.elems q hq).2.went hW⟩
    · simp at hq
      subst hq
      exact ⟨(h1.alloc _).went hW, (h2.alloc _).went hW⟩
theorem wpl_node {w w0 : World} {B g : Nat} {v : Value} {ps : List (PNode × NodeS)} (hgd : o.guard = none) (s x : Operand) (ho : o.op = .call { callee := .builtin .append, args := #[s, x], argTypes := #[37, 37] })
    (hs : act.eval s = v) (hown : OwnN P B w0 w v ps) (p : PNode × NodeS) (h1 : Elem P w v p.2.a p.1.nf) (h2 : Elem P w v p.2.a2 p.1.nv) (hx : act.eval x = .slice (some ⟨g, 0, none⟩) 1 1) (hg : g = w.heap.size) (hb1 : ps.length ≤ 1000000)
    (h : ∀ v' w', OwnN P B w0 w' v' (ps ++ [p]) → wpList Try.prog ops Q rest (act.put o.dst v') w') :
    wpList Try.prog ops Q (o :: rest) act (w.alloc (.cells (nodeCells p).toArray 44)) := by
  subst hg
  refine wpList_plain hgd fun K hK => ?_
  obtain ⟨v', w', hr, h3⟩ := run_node hown p h1 h2 o.type hb1
  unfold Oper.wp execOp
  simp only [ho, resolve, invoke, builtin, Sem.run_bind, Sem.run_pure, Result.andThen_ok, List.map_toArray, List.map_cons, List.map_nil, hs, hx, hr]
  exact hK _ _ (h v' w' h3)
theorem step_node {w w0 : World} {B g : Nat} {v : Value} {ps : List (PNode × NodeS)} {K : Act → World → Prop} {E : Prop} (hgd : o.guard = none) (s x : Operand) (ho : o.op = .call { callee := .builtin .append, args := #[s, x], argTypes := #[37, 37] })
    (hs : act.eval s = v) (hown : OwnN P B w0 w v ps) (p : PNode × NodeS) (h1 : Elem P w v p.2.a p.1.nf) (h2 : Elem P w v p.2.a2 p.1.nv) (hx : act.eval x = .slice (some ⟨g, 0, none⟩) 1 1) (hg : g = w.heap.size) (hb1 : ps.length ≤ 1000000)
    (h : ∀ v' w', OwnN P B w0 w' v' (ps ++ [p]) → K (act.put o.dst v') w') :
    if Region.wanted o (yielded ops act.tmps) = true then Oper.wp Try.prog o act (w.alloc (.cells (nodeCells p).toArray 44)) K Q else E := by
  subst hg
  have hw : Region.wanted o (yielded ops act.tmps) = true := by simp [Region.wanted, hgd]
  rw [if_pos hw]
  obtain ⟨v', w', hr, h3⟩ := run_node hown p h1 h2 o.type hb1
  unfold Oper.wp execOp
  simp only [ho, resolve, invoke, builtin, Sem.run_bind, Sem.run_pure, Result.andThen_ok, List.map_toArray, List.map_cons, List.map_nil, hs, hx, hr]
  exact h v' w' h3
end Go.Proofs.Ytchnpooijaalnaa
