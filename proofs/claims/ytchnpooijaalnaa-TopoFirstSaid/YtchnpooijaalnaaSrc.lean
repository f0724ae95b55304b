/- Rows of numbers where a slice says that they lie; appending one to a row of the call's own (conditions: the cells hold the numbers; the bounds of the lengths). -/
import Derived.Test.YtchnpooijaalnaaRows
import Derived.Maps.AppendAt
import Derived.Laws.Rows
import Derived.RegionTactic
import Derived.OwnWalk
import Derived.Below
namespace Go.Proofs.Ytchnpooijaalnaa
open Go.RowKit
set_option linter.unusedVariables false

theorem lt_of_row {w : World} {b : Nat} {o : Obj} (h : w.heap[b]? = some o) : b < w.heap.size := by
  rcases Nat.lt_or_ge b w.heap.size with h1 | h1
  · exact h1
  · simp [Array.getElem?_eq_none h1] at h
theorem some_of_lt {α : Type} {xs : List α} {k : Nat} (h : k < xs.length) : ∃ x, xs[k]? = some x := ⟨xs[k], List.getElem?_eq_getElem h⟩
theorem lt_of_some {α : Type} {xs : List α} {k : Nat} {x : α} (h : xs[k]? = some x) : k < xs.length := (List.getElem?_eq_some_iff.1 h).1
theorem take_some {α : Type} {xs : List α} {k : Nat} {x : α} (h : xs[k]? = some x) : xs.take (k + 1) = xs.take k ++ [x] := by
  rw [List.take_add_one, h]; rfl
theorem drop_some {α : Type} {xs : List α} {k : Nat} {x : α} (h : xs[k]? = some x) : xs.drop k = x :: xs.drop (k + 1) := by
  obtain ⟨h1, rfl⟩ := List.getElem?_eq_some_iff.1 h
  exact List.drop_eq_getElem_cons h1
theorem mem_of_some {α : Type} {xs : List α} {k : Nat} {x : α} (h : xs[k]? = some x) : x ∈ xs := List.mem_of_getElem? h

/-- The numbers xs lie where the slice's address says, in a block below B. -/
def Src (w : World) (B : Nat) (A : Option Addr) (xs : List Int) : Prop :=
  xs ≠ [] → ∃ b o, A = some ⟨b, o, none⟩ ∧ b < B ∧ ∀ j x, xs[j]? = some x → w.cell? ⟨b, o + j, none⟩ = some (.int .i64 x)

theorem Src.nil {w : World} {B : Nat} {A : Option Addr} : Src w B A [] := fun h => absurd rfl h
theorem Src.below {w w' : World} {B B' : Nat} {A : Option Addr} {xs : List Int} (h : Src w B A xs) (hb : Below B' w w') (hB : B ≤ B') : Src w' B A xs := fun hn => by
  obtain ⟨b, o, e, hlt, hc⟩ := h hn
  exact ⟨b, o, e, hlt, fun j x hj => (hb.cell (p := ⟨b, o + j, none⟩) (show b < B' by omega)).trans (hc j x hj)⟩
theorem Src.wider {w : World} {B B' : Nat} {A : Option Addr} {xs : List Int} (h : Src w B A xs) (hB : B ≤ B') : Src w B' A xs := fun hn => by
  obtain ⟨b, o, e, hlt, hc⟩ := h hn
  exact ⟨b, o, e, by omega, hc⟩
theorem Src.at {w : World} {B k : Nat} {A : Option Addr} {xs : List Int} {x : Int} (h : Src w B A xs) (hk : xs[k]? = some x) :
    ∃ b o, A = some ⟨b, o, none⟩ ∧ b < B ∧ ∀ j x, xs[j]? = some x → w.cell? ⟨b, o + j, none⟩ = some (.int .i64 x) := by
  refine h ?_
  rintro rfl
  simp at hk
theorem Src.of_own {w : World} {base e : Nat} {A : Option Addr} {n c : Nat} {xs : List Int} (h : w.ownsRow base e 1 (.slice A n c) n (xs.map (Value.int .i64))) : Src w w.heap.size A xs := fun hn => by
  have hl : xs.length = n := by simpa using h.1
  rcases h.2 with ⟨_, h0⟩ | ⟨g, cap, cur, hv, hb, hg, hnc, hcm, hs, ht⟩
  · exact absurd (List.eq_nil_of_length_eq_zero (by omega)) hn
  · injection hv with h1 h2 h3
    subst h3
    have hlt : g < w.heap.size := lt_of_row hg
    subst h1
    refine ⟨g, 0, rfl, hlt, fun j x hj => ?_⟩
    have hj2 := lt_of_some hj
    rw [h.cellAt _ (by omega), Nat.zero_add, List.getElem?_map, hj]
    rfl
theorem Src.one {w : World} {B g : Nat} {x : Int} {t : TypeId} {fr : Nat × Nat} (h : w.heap[g]? = some (.cells #[.int .i64 x] t fr)) (hlt : g < B) : Src w B (some ⟨g, 0, none⟩) [x] := fun _ => by
  refine ⟨g, 0, rfl, hlt, fun j y hj => ?_⟩
  have hj2 := lt_of_some hj
  have : j = 0 := by simp at hj2; exact hj2
  subst this
  rw [cell_of_row w g 0 _ t fr h]
  simp at hj
  subst hj
  rfl
theorem Src.two {w : World} {B g : Nat} {x y : Int} {t : TypeId} {fr : Nat × Nat} (h : w.heap[g]? = some (.cells #[.int .i64 x, .int .i64 y] t fr)) (hlt : g < B) : Src w B (some ⟨g, 0, none⟩) [x, y] := fun _ => by
  refine ⟨g, 0, rfl, hlt, fun j z hj => ?_⟩
  have hj2 := lt_of_some hj
  rw [cell_of_row w g (0 + j) _ t fr h]
  match j, hj2 with
  | 0, _ => simp at hj; subst hj; rfl
  | 1, _ => simp at hj; subst hj; rfl

/-- A row that the call made: what the slice is, and where it lies. -/
theorem own_form {w : World} {b e : Nat} {v : Value} {xs : List Int} (h : w.ownsRow b e 1 v xs.length (xs.map (Value.int .i64))) :
    ∃ A c, v = .slice A xs.length c ∧ Src w w.heap.size A xs ∧ xs.length ≤ c ∧ c ≤ 9223372036854775807 := by
  rcases h.2 with ⟨h1, h0⟩ | ⟨g, cap, cur, hv, hb, hg, hnc, hcm, hs, ht⟩
  · have hx : xs = [] := List.eq_nil_of_length_eq_zero h0
    subst hx
    exact ⟨none, 0, h1, Src.nil, Nat.le_refl _, by omega⟩
  · refine ⟨_, cap, hv, Src.of_own (n := xs.length) (c := cap) (by rw [← hv]; exact h), hnc, by unfold maxLen at hcm; omega⟩

theorem run_app {P : Program} (w : World) (base : Nat) (t ty e : TypeId) (i : TypeInfo) (ht : P.underlying t = some (.slice e)) (hi : P.info? e = some i) (hz : i.zero = some (.int .i64 0)) (hsize : i.size = 1) (hby : i.bytes = 8)
    (v : Value) (n : Nat) (xs : List Int) (hown : w.ownsRow base e 1 v n (xs.map (Value.int .i64)))
    (B : Nat) (A : Option Addr) (m c : Nat) (ys : List Int) (hm : ys.length = m) (hsrc : Src w B A ys) (hbd : n + m ≤ 10000000) (hbase : base ≤ w.heap.size) :
    ∃ v' w', (Builtin.append_ #[t, t] ty #[v, .slice A m c]).run P w = .ok v' w' ∧ w'.ownsRow base e 1 v' (n + m) ((xs ++ ys).map (Value.int .i64)) ∧ w.grownBy w' v.ownBlock ∧
      (v'.ownBlock = v.ownBlock ∨ v'.ownBlock = some w.heap.size) := by
  rcases A with _ | ad
  · have hys : ys = [] := by
      rcases List.eq_nil_or_concat ys with h0 | ⟨l, z, h0⟩
      · exact h0
      · obtain ⟨_, _, h, _⟩ := hsrc (by rw [h0]; simp)
        cases h
    subst hys
    have hm0 : m = 0 := by simpa using hm.symm
    subst hm0
    refine ⟨v, w, ?_, by simpa using hown, World.grownBy.refl w _, .inl rfl⟩
    rcases hown.2 with ⟨rfl, rfl⟩ | ⟨g, cap, cur, rfl, _, _, hnc, _⟩
    · simp [Builtin.append_, run_underlying ht, sizeOf, typeInfo, hi, Builtin.lenOf, Builtin.firstCells]
    · simp [Builtin.append_, run_underlying ht, sizeOf, typeInfo, hi, Builtin.lenOf, Builtin.firstCells, hnc, storeCells]
  · have hcells : ∀ j u, (ys.map (Value.int .i64))[j]? = some u → w.cell? (ad.add j) = some u := by
      intro j u hu
      obtain ⟨y, hy, rfl⟩ : ∃ y, ys[j]? = some y ∧ Value.int .i64 y = u := by simpa using hu
      obtain ⟨b, o, h, _, hc⟩ := hsrc.at hy
      injection h with h
      subst h
      rw [show ((⟨b, o, none⟩ : Addr).add j) = ⟨b, o + j, none⟩ from Addr.add_lit b o j, hc j y hy]
    obtain ⟨v', w', hrun, h2, h3, _, h5⟩ := run_append_own_at (P := P) w base t ty e i (.int .i64 0) 1 8 ht hi hz hsize hby rfl (by decide) v n (xs.map (Value.int .i64)) hown ad m c (ys.map (Value.int .i64)) (by simpa using hm) hcells
      (fun u hu => by obtain ⟨x, _, rfl⟩ := List.mem_map.1 hu; rfl) (by unfold maxLen; omega) (by omega) hbase
    exact ⟨v', w', hrun, by rw [List.map_append]; exact h2, h3, h5⟩

theorem int_info : (Try.prog.info? 3).map (fun i => (i.zero, i.size, i.bytes)) = some (some (.int .i64 0), 1, 8) := by kernel_rfl
end Go.Proofs.Ytchnpooijaalnaa
