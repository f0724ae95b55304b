/- Which node defines each variable, as a plain list that is filled node by node (conditions: the nodes are a sound netlist's). -/
import Derived.Test.YtchnpooijaalnaaTAdd
namespace Go.Proofs.Ytchnpooijaalnaa
set_option linter.unusedVariables false

def dfill : Nat → List PNode → List Int → List Int
  | _, [], L => L
  | k, x :: D, L => dfill (k + 1) D (putAll L x.nv k)
theorem dfill_snoc (x : PNode) : ∀ (D : List PNode) (k : Nat) (L : List Int), dfill k (D ++ [x]) L = putAll (dfill k D L) x.nv ((k + D.length : Nat) : Int)
  | [], k, L => by simp [dfill]
  | y :: D, k, L => by
    show dfill (k + 1) (D ++ [x]) _ = _
    rw [dfill_snoc x D (k + 1)]
    show putAll (dfill (k + 1) D _) x.nv _ = putAll (dfill (k + 1) D _) x.nv _
    congr 1
    simp
    omega
theorem dfill_len : ∀ (D : List PNode) (k : Nat) (L : List Int), (dfill k D L).length = L.length
  | [], _, _ => rfl
  | x :: D, k, L => by
    show (dfill (k + 1) D _).length = _
    rw [dfill_len D, putAll_len]
theorem dfill_at {i : Nat} : ∀ (D : List PNode) (k : Nat) (L : List Int), i < L.length →
    ((∀ x ∈ D, ∀ u ∈ x.nv, u.toNat ≠ i) ∧ at0 (dfill k D L) i = at0 L i) ∨ (∃ (j : Nat) (x : PNode), D[j]? = some x ∧ (∃ u ∈ x.nv, u.toNat = i) ∧ at0 (dfill k D L) i = ((k + j : Nat) : Int))
  | [], k, L, _ => .inl ⟨by simp, rfl⟩
  | x :: D, k, L, hi => by
    rcases dfill_at D (k + 1) (putAll L x.nv k) (by rw [putAll_len]; exact hi) with ⟨h1, h2⟩ | ⟨j, y, h1, h2, h3⟩
    · by_cases hx : ∃ u ∈ x.nv, u.toNat = i
      · refine .inr ⟨0, x, rfl, hx, ?_⟩
        show at0 (dfill (k + 1) D _) i = _
        rw [h2, at0_put, if_pos ⟨hx, hi⟩]
        simp
      · refine .inl ⟨fun y hy u hu e => ?_, ?_⟩
        · rcases List.mem_cons.1 hy with rfl | hy
          · exact hx ⟨u, hu, e⟩
          · exact h1 y hy u hu e
        · show at0 (dfill (k + 1) D _) i = _
          rw [h2, at0_put, if_neg (fun h => hx h.1)]
    · refine .inr ⟨j + 1, y, h1, h2, ?_⟩
      show at0 (dfill (k + 1) D _) i = _
      rw [h3]
      congr 1
      omega
theorem below_some {D : List PNode} {V : Nat} (hG : Good6 V D) {x : PNode} (hx : x ∈ D) {v : Nat} {u : Int} (hu : u ∈ x.nv) (e : u.toNat = v) : belowOf D v = x.nf.map fun f => (f / 2).toNat := by
  unfold belowOf
  cases hf : D.find? (fun x => x.nv.any fun u => u.toNat == v) with
  | none =>
    have := List.find?_eq_none.1 hf x hx
    simp at this
    exact absurd e (this u hu)
  | some y =>
    have h1 := List.find?_some hf
    rw [List.any_eq_true] at h1
    obtain ⟨u2, hu2, e2⟩ := h1
    have e3 : u2.toNat = v := by simpa using e2
    have := owner hG (List.mem_of_find?_eq_some hf) hx hu2 hu (e3.trans e.symm)
    rw [this]
theorem below_none {D : List PNode} {v : Nat} (h : ∀ x ∈ D, ∀ u ∈ x.nv, u.toNat ≠ v) : belowOf D v = [] := by
  unfold belowOf
  cases hf : D.find? (fun x => x.nv.any fun u => u.toNat == v) with
  | none => rfl
  | some y =>
    have h1 := List.find?_some hf
    rw [List.any_eq_true] at h1
    obtain ⟨u2, hu2, e2⟩ := h1
    have e3 : u2.toNat = v := by simpa using e2
    exact absurd e3 (h y (List.mem_of_find?_eq_some hf) u2 hu2)
theorem tells_of {D : List PNode} {V : Nat} (hG : Good6 V D) : Tells D V (dfill 0 D (List.replicate (V + 1) (-1))) := by
  have hl : (dfill 0 D (List.replicate (V + 1) (-1))).length = V + 1 := by rw [dfill_len, List.length_replicate]
  refine ⟨hl, fun v hv => ?_⟩
  have hg := at0_lt (L := dfill 0 D (List.replicate (V + 1) (-1))) (i := v) (by omega)
  have h1 : at0 (List.replicate (V + 1) (-1)) v = -1 := by
    unfold at0
    rw [List.getD_eq_getElem?_getD, List.getElem?_replicate, if_pos (by omega)]
    rfl
  rcases dfill_at (i := v) D 0 (List.replicate (V + 1) (-1)) (by simp; omega) with ⟨h2, h3⟩ | ⟨j, x, h2, ⟨u, hu, e⟩, h3⟩
  · exact .inl ⟨by rw [hg, h3, h1], below_none h2⟩
  · exact .inr ⟨j, x, by rw [hg, h3, Nat.zero_add], h2, below_some hG (mem_of_some h2) hu e⟩
theorem below_le {D : List PNode} {V : Nat} (hG : Good6 V D) (v : Nat) : (∀ x ∈ belowOf D v, x ≤ V) ∧ (belowOf D v).length ≤ 1000 := by
  unfold belowOf
  cases hf : D.find? (fun x => x.nv.any fun u => u.toNat == v) with
  | none => exact ⟨by simp, by simp⟩
  | some y =>
    have hy := List.mem_of_find?_eq_some hf
    refine ⟨fun x hx => ?_, by simpa using (hG.lens y hy).1⟩
    obtain ⟨f, hf2, rfl⟩ := List.mem_map.1 hx
    have := hG.lits y hy f hf2
    omega
end Go.Proofs.Ytchnpooijaalnaa
