/- What levels are: the one list that each node's rule holds of; the rounds by definition find it if there is one, and find none else (conditions: nodes of a sound netlist). -/
import Derived.Test.YtchnpooijaalnaaLevels0
namespace Go.Proofs.Ytchnpooijaalnaa
set_option linter.unusedVariables false

/-- The level that L tells of the number i. -/
def at0 (L : List Int) (i : Nat) : Int := L.getD i 0
theorem at0_lt {L : List Int} {i : Nat} (h : i < L.length) : L[i]? = some (at0 L i) := by
  unfold at0
  rw [List.getD_eq_getElem?_getD, List.getElem?_eq_getElem h]
  rfl
theorem at0_set {L : List Int} {i j : Nat} {v : Int} : at0 (L.set j v) i = if j = i ∧ i < L.length then v else at0 L i := by
  unfold at0
  rw [List.getD_eq_getElem?_getD, List.getElem?_set, List.getD_eq_getElem?_getD]
  by_cases h : j = i
  · subst h
    rw [if_pos rfl]
    by_cases h2 : j < L.length
    · rw [if_pos h2, if_pos ⟨rfl, h2⟩]; rfl
    · rw [if_neg h2, if_neg (fun h => h2 h.2), List.getElem?_eq_none (by omega)]
  · rw [if_neg h, if_neg (fun h2 => h h2.1)]
theorem at0_put {vs : List Int} {a : Int} {i : Nat} : ∀ {L : List Int}, at0 (putAll L vs a) i = if (∃ v ∈ vs, v.toNat = i) ∧ i < L.length then a else at0 L i := by
  induction vs with
  | nil => intro L; rw [if_neg (by simp)]; rfl
  | cons u vs ih =>
    intro L
    show at0 (putAll (L.set u.toNat a) vs a) i = _
    rw [ih, List.length_set, at0_set]
    by_cases h2 : i < L.length
    · by_cases h1 : ∃ v ∈ vs, v.toNat = i
      · rw [if_pos ⟨h1, h2⟩]
        obtain ⟨v, hv, e⟩ := h1
        rw [if_pos ⟨⟨v, by simp [hv], e⟩, h2⟩]
      · rw [if_neg (fun h => h1 h.1)]
        by_cases h3 : u.toNat = i
        · rw [if_pos ⟨h3, h2⟩, if_pos ⟨⟨u, by simp, h3⟩, h2⟩]
        · rw [if_neg (fun h => h3 h.1), if_neg]
          rintro ⟨⟨v, hv, e⟩, _⟩
          rcases List.mem_cons.1 hv with rfl | hv
          · exact h3 e
          · exact h1 ⟨v, hv, e⟩
    · rw [if_neg (fun h => h2 h.2), if_neg (fun h => h2 h.2), if_neg (fun h => h2 h.2)]

theorem lvl_congr {L M : List Int} {fs : List Int} (h : ∀ f ∈ fs, at0 L (f / 2).toNat = at0 M (f / 2).toNat) : ∀ n, lvl L n fs = lvl M n fs := by
  induction fs with
  | nil => intro n; rfl
  | cons f fs ih =>
    intro n
    have h1 : L.getD (f / 2).toNat 0 = M.getD (f / 2).toNat 0 := h f (by simp)
    unfold lvl
    rw [h1, ih (fun g hg => h g (by simp [hg]))]
theorem lvl_neg {L : List Int} {fs : List Int} : ∀ n, 0 ≤ n → lvl L n fs < 0 → lvl L n fs = -1 := by
  induction fs with
  | nil => intro n h0 h; unfold lvl at h; omega
  | cons f fs ih =>
    intro n h0 h
    unfold lvl at h ⊢
    split
    · rfl
    · rename_i hf
      rw [if_neg hf] at h
      exact ih _ (by omega) h
theorem lvl_pos {L : List Int} {fs : List Int} : ∀ n, 0 ≤ n → 0 ≤ lvl L n fs → n + 1 ≤ lvl L n fs ∧ ∀ f ∈ fs, 0 ≤ at0 L (f / 2).toNat ∧ at0 L (f / 2).toNat < lvl L n fs := by
  induction fs with
  | nil => intro n h0 h; exact ⟨by unfold lvl; omega, by simp⟩
  | cons f fs ih =>
    intro n h0 h
    unfold lvl at h ⊢
    split at h
    · omega
    · rename_i hf
      rw [if_neg hf]
      obtain ⟨h1, h2⟩ := ih _ (by omega) h
      have hf' : ¬ at0 L (f / 2).toNat < 0 := hf
      have h1' : max n (at0 L (f / 2).toNat) + 1 ≤ lvl L (max n (L.getD (f / 2).toNat 0)) fs := h1
      refine ⟨by omega, fun g hg => ?_⟩
      rcases List.mem_cons.1 hg with rfl | hg
      · exact ⟨by omega, by omega⟩
      · exact h2 g hg
theorem lvl_all {L : List Int} {fs : List Int} (h : ∀ f ∈ fs, 0 ≤ at0 L (f / 2).toNat) : ∀ n, 0 ≤ n → 0 ≤ lvl L n fs := by
  induction fs with
  | nil => intro n h0; unfold lvl; omega
  | cons f fs ih =>
    intro n h0
    have h1 : 0 ≤ L.getD (f / 2).toNat 0 := h f (by simp)
    unfold lvl
    rw [if_neg (by omega)]
    exact ih (fun g hg => h g (by simp [hg])) _ (by omega)
/-- The greatest is one of them. -/
theorem lvl_hit {L : List Int} {fs : List Int} : ∀ n, 0 ≤ n → 0 ≤ lvl L n fs → lvl L n fs = n + 1 ∨ ∃ f ∈ fs, lvl L n fs = at0 L (f / 2).toNat + 1 := by
  induction fs with
  | nil => intro n h0 h; exact .inl rfl
  | cons f fs ih =>
    intro n h0 h
    unfold lvl at h ⊢
    split at h
    · omega
    · rename_i hf
      rw [if_neg hf]
      rcases ih _ (by omega) h with h1 | ⟨g, hg, h1⟩
      · rcases Int.le_total n (at0 L (f / 2).toNat) with h2 | h2
        · refine .inr ⟨f, by simp, ?_⟩
          rw [h1]
          show max n (at0 L (f / 2).toNat) + 1 = _
          omega
        · refine .inl ?_
          rw [h1]
          show max n (at0 L (f / 2).toNat) + 1 = _
          omega
      · exact .inr ⟨g, by simp [hg], h1⟩

/-- L tells the levels. -/
structure IsLevels (V : Nat) (D : List PNode) (L : List Int) : Prop where
  len : L.length = V + 1
  zero : ∀ i, i ≤ V → (∀ x ∈ D, ∀ v ∈ x.nv, v.toNat ≠ i) → at0 L i = 0
  node : ∀ x ∈ D, ∀ v ∈ x.nv, at0 L v.toNat = plevel L x
  pos : ∀ x ∈ D, 0 ≤ plevel L x
theorem IsLevels.ge {V : Nat} {D : List PNode} {L : List Int} (h : IsLevels V D L) {i : Nat} (hi : i ≤ V) : 0 ≤ at0 L i := by
  by_cases h1 : ∃ x ∈ D, ∃ v ∈ x.nv, v.toNat = i
  · obtain ⟨x, hx, v, hv, e⟩ := h1
    rw [← e, h.node x hx v hv]
    exact h.pos x hx
  · rw [h.zero i hi (fun x hx v hv e => h1 ⟨x, hx, v, hv, e⟩)]
    omega
theorem from_le {V : Nat} {D : List PNode} (hG : Good6 V D) {x : PNode} (hx : x ∈ D) {f : Int} (hf : f ∈ x.nf) : (f / 2).toNat ≤ V := by
  have := hG.lits x hx f hf
  omega
theorem IsLevels.unique {V : Nat} {D : List PNode} {L M : List Int} (hG : Good6 V D) (h : IsLevels V D L) (h' : IsLevels V D M) : L = M := by
  have key : ∀ (k : Nat) (i : Nat), i ≤ V → (at0 L i).toNat ≤ k → at0 L i = at0 M i := by
    intro k
    induction k with
    | zero =>
      intro i hi hk
      by_cases h1 : ∃ x ∈ D, ∃ v ∈ x.nv, v.toNat = i
      · obtain ⟨x, hx, v, hv, e⟩ := h1
        have h2 := h.node x hx v hv
        have h3 := (lvl_pos 0 (by omega) (h.pos x hx)).1
        have : plevel L x = lvl L 0 x.nf := rfl
        rw [e] at h2
        omega
      · rw [h.zero i hi (fun x hx v hv e => h1 ⟨x, hx, v, hv, e⟩), h'.zero i hi (fun x hx v hv e => h1 ⟨x, hx, v, hv, e⟩)]
    | succ k ih =>
      intro i hi hk
      by_cases h1 : ∃ x ∈ D, ∃ v ∈ x.nv, v.toNat = i
      · obtain ⟨x, hx, v, hv, e⟩ := h1
        have h2 := h.node x hx v hv
        have h3 := (lvl_pos 0 (by omega) (h.pos x hx)).2
        rw [← e, h2, h'.node x hx v hv]
        refine lvl_congr (fun f hf => ?_) 0
        refine ih _ (from_le hG hx hf) ?_
        have h4 := h3 f hf
        have : plevel L x = lvl L 0 x.nf := rfl
        rw [e] at h2
        omega
      · rw [h.zero i hi (fun x hx v hv e => h1 ⟨x, hx, v, hv, e⟩), h'.zero i hi (fun x hx v hv e => h1 ⟨x, hx, v, hv, e⟩)]
  apply List.ext_getElem?
  intro i
  by_cases hi : i < V + 1
  · rw [at0_lt (by rw [h.len]; exact hi), at0_lt (by rw [h'.len]; exact hi), key _ i (by omega) (Nat.le_refl _)]
  · rw [List.getElem?_eq_none (by rw [h.len]; omega), List.getElem?_eq_none (by rw [h'.len]; omega)]
end Go.Proofs.Ytchnpooijaalnaa
