/- What the contracts of package topo say: lists, levels, nodes that are answered; what a light netlist is (no condition but those that each theorem names). -/
import Derived.Test.YtchnpooijaalnaaFirst
import Derived.Test.YtchnpooijaalnaaRefSupport
import Derived.Test.YtchnpooijaalnaaLight06
namespace Go.Proofs.Ytchnpooijaalnaa
open Go.ChangeShapes Go.WideShapes Go.RowKit
set_option linter.unusedVariables false

section
variable {H : Type} {enc : TypeId × Value → H} {w : World} {held : Bool}
set_option maxRecDepth 10000 in
theorem open_islice {v : Value} {d : DataW H} {p : List MemPlace} {r : Reach} {b0 : Nat} (hv : Value.okWide Try.prog w r b0 22 v) (h : DataW.Trod enc Try.prog w 0 (fun _ => true) held 22 v d p) :
    ∃ (a : Option Addr) (c : Nat) (xs : List Int), v = .slice a xs.length c ∧ Src w w.heap.size a xs ∧ (∀ x ∈ xs, I64 x) ∧ xs.length ≤ c ∧ c ≤ 9223372036854775807 := by
  obtain ⟨a, n, c, rfl⟩ := okWide_slice Try.underlying22 hv
  obtain ⟨fuel, hf⟩ := h
  exact field_ints (by simpa [Value.cells] using hf)
end

/-- A list of numbers is answered, old blocks as they were. -/
def Lists (w : World) (xs : List Int) (e : Ending) (w' : World) : Prop := ∃ A c, e = .returned (.slice A xs.length c) ∧ Src w' w'.heap.size A xs ∧ Below w.heap.size w w'
theorem Left.lists {w : World} {xs : List Int} {e : Ending} {w' : World} (h : Left w xs e w') : Lists w xs e w' := by
  obtain ⟨v, rfl, hO⟩ := h
  obtain ⟨A, c, rfl, hs, _⟩ := hO.form
  exact ⟨A, c, rfl, hs, hO.2.1⟩
/-- A list of levels is answered, and whether there are any. -/
def TLevels (w : World) (o : Option (List Int)) (e : Ending) (w' : World) : Prop :=
  ∃ A c, e = .returned (.tuple #[.slice A (o.getD []).length c, .bool o.isSome]) ∧ Src w' w'.heap.size A (o.getD []) ∧ Below w.heap.size w w'
theorem LevelsLeft.told {w : World} {o : Option (List Int)} {e : Ending} {w' : World} (h : LevelsLeft w o e w') : TLevels w o e w' := by
  cases o with
  | none =>
    obtain ⟨rfl, hb⟩ := h
    exact ⟨none, 0, rfl, Src.nil, hb⟩
  | some L =>
    obtain ⟨g, rfl, hI, _, hb⟩ := h
    exact ⟨_, _, rfl, hI.src, hb⟩
/-- The nodes as package topo tells them. -/
def TNodeAt (w : World) (b o : Nat) (x : PNode) : Prop :=
  w.cell? ⟨b, o, none⟩ = some (.bool x.nr) ∧ w.cell? ⟨b, o + 1, none⟩ = some (.int .i64 x.nm) ∧ w.cell? ⟨b, o + 2, none⟩ = some (.int .i64 x.na)
def TOrder (w : World) (o : Option (List PNode)) (e : Ending) (w' : World) : Prop :=
  ∃ A c, e = .returned (.tuple #[.slice A (o.getD []).length c, .bool o.isSome]) ∧ Row w'.heap.size 3 (TNodeAt w') A (o.getD []) ∧ Below w.heap.size w w'

theorem fits_light6 {n : PNet} (h6 : n.light6 = true) : n.modest ∧ n.near ∧ n.nodes.length ≤ 900 := by
  unfold PNet.light6 at h6
  rw [Bool.and_eq_true] at h6
  obtain ⟨h, ha⟩ := h6
  have ha := of_decide_eq_true ha
  unfold PNet.light PNet.few at h
  simp only [Bool.and_eq_true, decide_eq_true_eq] at h
  obtain ⟨⟨⟨⟨⟨⟨⟨h1, h2⟩, h3⟩, h4⟩, h5⟩, h6⟩, h7⟩, h8⟩ := h
  rw [List.all_eq_true] at h8
  have hm6 : ∀ m ∈ n.mems, m.mr.length ≤ 6 ∧ m.mx.length ≤ 6 := fun m hm => by
    have := h8 m hm
    simp [PMem.light] at this
    omega
  refine ⟨⟨by omega, by omega, by omega, by omega, by omega, by omega, by omega, fun m hm => by have := hm6 m hm; omega⟩, fun m hm r hr => ?_, ?_⟩
  · have := h8 m hm
    unfold PMem.light at this
    simp only [Bool.and_eq_true, decide_eq_true_eq] at this
    have h9 := List.all_eq_true.1 this.1.2 r hr
    simp [PRead.light] at h9
    omega
  · have := memNodes_len n.mems 0 fun m hm => (hm6 m hm).1
    unfold PNet.nodes
    rw [List.length_append, andNodes_len]
    omega

end Go.Proofs.Ytchnpooijaalnaa
