/- Appending a slice of numbers, nil or not, to a slice that the call itself made: what the new slice owns, and where it lies (conditions: the bounds of the lengths). -/
import Derived.Test.YtcaaicodnkdclaaCalls
import Derived.Maps.AppendAt
import Derived.Laws.Rows
import Derived.RegionTactic
import Derived.OwnWalk
namespace Go.Proofs.Ytcaaicodnkdclaa
open Go.RowKit

/-- The cells behind a slice's address hold the numbers; of an empty list nothing is asked. -/
def Src (w : World) (B : Nat) (A : Option Addr) (ys : List Int) : Prop :=
  ys ≠ [] → ∃ b o, A = some ⟨b, o, none⟩ ∧ b < B ∧ ∀ j, j < ys.length → w.cell? ⟨b, o + j, none⟩ = some (.int .i64 (ys.getD j 0))

theorem Src.nil {w : World} {B : Nat} {A : Option Addr} : Src w B A [] := fun h => absurd rfl h
theorem Src.below {w w' : World} {B : Nat} {A : Option Addr} {ys : List Int} (h : Src w B A ys) (hb : Below B w w') : Src w' B A ys := fun hn => by
  obtain ⟨b, o, e, hlt, hc⟩ := h hn
  exact ⟨b, o, e, hlt, fun j hj => (hb.cell (p := ⟨b, o + j, none⟩) hlt).trans (hc j hj)⟩
theorem Src.wider {w : World} {B B' : Nat} {A : Option Addr} {ys : List Int} (h : Src w B A ys) (hB : B ≤ B') : Src w B' A ys := fun hn => by
  obtain ⟨b, o, e, hlt, hc⟩ := h hn
  exact ⟨b, o, e, by omega, hc⟩
theorem Src.take {w : World} {B : Nat} {A : Option Addr} {ys : List Int} (h : Src w B A ys) (k : Nat) : Src w B A (ys.take k) := fun hn => by
  have h0 : ys ≠ [] := by rintro rfl; simp at hn
  obtain ⟨b, o, e, hlt, hc⟩ := h h0
  refine ⟨b, o, e, hlt, fun j hj => ?_⟩
  have hj2 : j < ys.length ∧ j < k := by simp at hj; omega
  rw [hc j hj2.1]
  simp [List.getD, hj2.2]
theorem Src.drop {w : World} {B : Nat} {b o : Nat} {ys : List Int} (h : Src w B (some ⟨b, o, none⟩) ys) (k : Nat) : Src w B (some ⟨b, o + k, none⟩) (ys.drop k) := fun hn => by
  have h0 : ys ≠ [] := by rintro rfl; simp at hn
  obtain ⟨b', o', e, hlt, hc⟩ := h h0
  injection e with e
  injection e with e1 e2
  subst e1; subst e2
  refine ⟨b, o + k, rfl, hlt, fun j hj => ?_⟩
  have hj2 : k + j < ys.length := by simp at hj; omega
  rw [Nat.add_assoc, hc (k + j) hj2]
  simp [List.getD, List.getElem?_drop]
theorem Src.one {w : World} {B g : Nat} {x : Int} {t : TypeId} {fr : Nat × Nat} (h : w.heap[g]? = some (.cells #[.int .i64 x] t fr)) (hlt : g < B) : Src w B (some ⟨g, 0, none⟩) [x] := fun _ => by
  refine ⟨g, 0, rfl, hlt, fun j hj => ?_⟩
  have : j = 0 := by simp at hj; exact hj
  subst this
  rw [cell_of_row w g 0 _ t fr h]; rfl
theorem Src.of_own {w : World} {base e : Nat} {A : Option Addr} {n c : Nat} {ys : List Int} (h : w.ownsRow base e 1 (.slice A n c) n (ys.map (Value.int .i64))) : Src w w.heap.size A ys := fun hn => by
  have hl : ys.length = n := by simpa using h.1
  rcases h.2 with ⟨_, h0⟩ | ⟨g, cap, cur, hv, hb, hg, hnc, hcm, hs, ht⟩
  · exact absurd (List.eq_nil_of_length_eq_zero (by omega)) hn
  · injection hv with h1 h2 h3
    subst h3
    have hlt : g < w.heap.size := by
      rcases Nat.lt_or_ge g w.heap.size with hlt | hge
      · exact hlt
      · rw [Array.getElem?_eq_none hge] at hg; cases hg
    subst h1
    refine ⟨g, 0, rfl, hlt, fun j hj => ?_⟩
    rw [h.cellAt _ (by omega), Nat.zero_add, List.getElem?_map, List.getElem?_eq_getElem hj]
    simp [List.getD, List.getElem?_eq_getElem hj]

theorem run_app {P : Program} (w : World) (base : Nat) (t ty e : TypeId) (i : TypeInfo) (ht : P.underlying t = some (.slice e)) (hi : P.info? e = some i) (hz : i.zero = some (.int .i64 0)) (hsize : i.size = 1) (hby : i.bytes = 8)
    (v : Value) (n : Nat) (xs : List Int) (hown : w.ownsRow base e 1 v n (xs.map (Value.int .i64)))
    (B : Nat) (A : Option Addr) (m c : Nat) (ys : List Int) (hm : ys.length = m) (hsrc : Src w B A ys) (hbd : n + m ≤ 10000000) (hbase : base ≤ w.heap.size) :
    ∃ v' w', (Builtin.append_ #[t, t] ty #[v, .slice A m c]).run P w = .ok v' w' ∧ w'.ownsRow base e 1 v' (n + m) ((xs ++ ys).map (Value.int .i64)) ∧ w.grownBy w' v.ownBlock ∧
      (v'.ownBlock = v.ownBlock ∨ v'.ownBlock = some w.heap.size) := by
  rcases A with _ | ad
  · have hys : ys = [] := by
      rcases List.eq_nil_or_concat ys with h0 | ⟨l, z, h0⟩
      · exact h0
      · obtain ⟨_, _, h, _⟩ := hsrc (by rw [h0]; simp)
        cases h
    subst hys
    have hm0 : m = 0 := by simpa using hm.symm
    subst hm0
    refine ⟨v, w, ?_, by simpa using hown, World.grownBy.refl w _, .inl rfl⟩
    rcases hown.2 with ⟨rfl, rfl⟩ | ⟨g, cap, cur, rfl, _, _, hnc, _⟩
    · simp [Builtin.append_, run_underlying ht, sizeOf, typeInfo, hi, Builtin.lenOf, Builtin.firstCells]
    · simp [Builtin.append_, run_underlying ht, sizeOf, typeInfo, hi, Builtin.lenOf, Builtin.firstCells, hnc, storeCells]
  · have hcells : ∀ j u, (ys.map (Value.int .i64))[j]? = some u → w.cell? (ad.add j) = some u := by
      intro j u hu
      obtain ⟨y, hy, rfl⟩ : ∃ y, ys[j]? = some y ∧ Value.int .i64 y = u := by simpa using hu
      have hj := (List.getElem?_eq_some_iff.1 hy).1
      obtain ⟨b, o, h, _, hc⟩ := hsrc (by rintro rfl; simp at hj)
      injection h with h
      subst h
      have := hc j hj
      rw [show ((⟨b, o, none⟩ : Addr).add j) = ⟨b, o + j, none⟩ from Addr.add_lit b o j, this]
      simp [List.getD, hy]
    obtain ⟨v', w', hrun, h2, h3, _, h5⟩ := run_append_own_at (P := P) w base t ty e i (.int .i64 0) 1 8 ht hi hz hsize hby rfl (by decide) v n (xs.map (Value.int .i64)) hown ad m c (ys.map (Value.int .i64)) (by simpa using hm) hcells
      (fun u hu => by obtain ⟨x, _, rfl⟩ := List.mem_map.1 hu; rfl) (by unfold maxLen; omega) (by omega) hbase
    exact ⟨v', w', hrun, by rw [List.map_append]; exact h2, h3, h5⟩

theorem step_app {P : Program} (w : World) {ops : Array Oper} {o : Oper} {a : Act} {K : Act → World → Prop} {Q : Exit → Act → World → Prop} {E : Prop} (hgd : o.guard = none) (s x : Operand) (t : TypeId)
    (ho : o.op = .call { callee := .builtin .append, args := #[s, x], argTypes := #[t, t] })
    (base : Nat) (e : TypeId) (i : TypeInfo) (ht : P.underlying t = some (.slice e)) (hi : P.info? e = some i) (hz : i.zero = some (.int .i64 0)) (hsize : i.size = 1) (hby : i.bytes = 8)
    (v : Value) (n : Nat) (xs : List Int) (hs : a.eval s = v) (hown : w.ownsRow base e 1 v n (xs.map (Value.int .i64)))
    (A : Option Addr) (m c : Nat) (ys : List Int) (hx : a.eval x = .slice A m c) (hm : ys.length = m) (hsrc : ∃ B, Src w B A ys) (hbd : n + m ≤ 10000000) (hbase : base ≤ w.heap.size)
    (h : ∀ v' w', w'.ownsRow base e 1 v' (n + m) ((xs ++ ys).map (Value.int .i64)) → w.grownBy w' v.ownBlock → (v'.ownBlock = v.ownBlock ∨ v'.ownBlock = some w.heap.size) → K (a.put o.dst v') w') :
    if Region.wanted o (yielded ops a.tmps) = true then Oper.wp P o a w K Q else E := by
  have hw : Region.wanted o (yielded ops a.tmps) = true := by simp [Region.wanted, hgd]
  rw [if_pos hw]
  obtain ⟨B, hsrc⟩ := hsrc
  obtain ⟨v', w', hrun, h2, h3, h4⟩ := run_app (P := P) w base t o.type e i ht hi hz hsize hby v n xs hown B A m c ys hm hsrc hbd hbase
  unfold Oper.wp execOp
  simp only [ho, resolve, invoke, builtin, Sem.run_bind, Sem.run_pure, Result.andThen_ok, List.map_toArray, List.map_cons, List.map_nil, hs, hx, hrun]
  exact h v' w' h2 h3 h4
end Go.Proofs.Ytcaaicodnkdclaa
