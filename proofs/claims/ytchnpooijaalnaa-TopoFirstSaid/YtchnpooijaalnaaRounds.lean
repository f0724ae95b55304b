/- The rounds by definition answer the levels if there are any, and none else (condition: nodes of a sound netlist). -/
import Derived.Test.YtchnpooijaalnaaIsLevels
namespace Go.Proofs.Ytchnpooijaalnaa
set_option linter.unusedVariables false

theorem flat_inj {D : List PNode} (h : (D.flatMap PNode.nv).Nodup) : ∀ x ∈ D, ∀ y ∈ D, ∀ v, v ∈ x.nv → v ∈ y.nv → x = y := by
  induction D with
  | nil => intro x hx; simp at hx
  | cons z D ih =>
    rw [List.flatMap_cons, List.nodup_append] at h
    obtain ⟨_, h2, h3⟩ := h
    intro x hx y hy v hv hw
    rcases List.mem_cons.1 hx with ex | hx2
    · rcases List.mem_cons.1 hy with ey | hy2
      · exact ex.trans ey.symm
      · subst ex
        exact absurd rfl (h3 v hv v (List.mem_flatMap.2 ⟨y, hy2, hw⟩))
    · rcases List.mem_cons.1 hy with ey | hy2
      · subst ey
        exact absurd rfl (h3 v hw v (List.mem_flatMap.2 ⟨x, hx2, hv⟩))
      · exact ih h2 x hx2 y hy2 v hv hw
/-- Which node defines the number i is told by i. -/
theorem owner {V : Nat} {D : List PNode} (hG : Good6 V D) {x y : PNode} (hx : x ∈ D) (hy : y ∈ D) {v u : Int} (hv : v ∈ x.nv) (hu : u ∈ y.nv) (e : v.toNat = u.toNat) : x = y := by
  have h1 := hG.vars x hx v hv
  have h2 := hG.vars y hy u hu
  have : v = u := by omega
  subst this
  exact flat_inj hG.once x hx y hy v hv hu

structure Inv (V : Nat) (D : List PNode) (L : List Int) : Prop where
  len : L.length = V + 1
  zero : ∀ i, i ≤ V → (∀ x ∈ D, ∀ v ∈ x.nv, v.toNat ≠ i) → at0 L i = 0
  node : ∀ x ∈ D, ∃ a, (∀ v ∈ x.nv, at0 L v.toNat = a) ∧ (a = -1 ∨ (a = plevel L x ∧ 0 ≤ a))
theorem at0_step {L : List Int} {y : PNode} {i : Nat} : at0 (lstep L y) i = if (∃ v ∈ y.nv, v.toNat = i) ∧ i < L.length then plevel L y else at0 L i := at0_put
theorem Inv.told {V : Nat} {D : List PNode} {L : List Int} (h : Inv V D L) {x : PNode} (hx : x ∈ D) {v : Int} (hv : v ∈ x.nv) (h0 : 0 ≤ at0 L v.toNat) : at0 L v.toNat = plevel L x := by
  obtain ⟨a, h1, h2⟩ := h.node x hx
  have := h1 v hv
  rcases h2 with h2 | ⟨h2, _⟩
  · omega
  · omega
/-- What is told stays as it is. -/
theorem Inv.keep {V : Nat} {D : List PNode} {L : List Int} (h : Inv V D L) {y : PNode} (hy : y ∈ D) {i : Nat} (h0 : 0 ≤ at0 L i) : at0 (lstep L y) i = at0 L i := by
  rw [at0_step]
  split
  · rename_i h1
    obtain ⟨⟨v, hv, e⟩, _⟩ := h1
    rw [← e, h.told hy hv (by rw [e]; exact h0)]
  · rfl
theorem Inv.same {V : Nat} {D : List PNode} {L : List Int} (h : Inv V D L) {x y : PNode} (hy : y ∈ D) (h0 : 0 ≤ plevel L x) : plevel (lstep L y) x = plevel L x :=
  lvl_congr (fun f hf => h.keep hy ((lvl_pos 0 (by omega) h0).2 f hf).1) 0
theorem Inv.step {V : Nat} {D : List PNode} {L : List Int} (hG : Good6 V D) (h : Inv V D L) {y : PNode} (hy : y ∈ D) : Inv V D (lstep L y) := by
  refine ⟨by rw [lstep_len]; exact h.len, fun i hi hn => ?_, fun x hx => ?_⟩
  · rw [at0_step, if_neg]
    · exact h.zero i hi hn
    · rintro ⟨⟨v, hv, e⟩, _⟩
      exact hn y hy v hv e
  · by_cases hs : ∃ v ∈ x.nv, v ∈ y.nv
    · obtain ⟨v, hv, hw⟩ := hs
      have hxy : x = y := flat_inj hG.once x hx y hy v hv hw
      subst hxy
      refine ⟨plevel L x, fun u hu => ?_, ?_⟩
      · rw [at0_step, if_pos]
        refine ⟨⟨u, hu, rfl⟩, ?_⟩
        have := hG.vars x hx u hu
        have := h.len
        omega
      · by_cases hp : 0 ≤ plevel L x
        · exact .inr ⟨(h.same hy hp).symm, hp⟩
        · exact .inl (lvl_neg 0 (by omega) (show plevel L x < 0 by omega))
    · obtain ⟨a, h1, h2⟩ := h.node x hx
      refine ⟨a, fun v hv => ?_, ?_⟩
      · rw [at0_step, if_neg]
        · exact h1 v hv
        · rintro ⟨⟨u, hu, e⟩, _⟩
          have := owner hG hy hx hu hv e
          subst this
          exact hs ⟨v, hv, hv⟩
      · rcases h2 with h2 | ⟨h2, h3⟩
        · exact .inl h2
        · exact .inr ⟨by rw [h.same hy (by omega)]; exact h2, h3⟩
theorem Inv.round {V : Nat} {D : List PNode} (hG : Good6 V D) : ∀ {E : List PNode} {L : List Int}, (∀ x ∈ E, x ∈ D) → Inv V D L → Inv V D (lround E L)
  | [], _, _, h => h
  | y :: E, L, hE, h => Inv.round hG (E := E) (fun x hx => hE x (by simp [hx])) (h.step hG (hE y (by simp)))
theorem Inv.stay {V : Nat} {D : List PNode} (hG : Good6 V D) {i : Nat} : ∀ {E : List PNode} {L : List Int}, (∀ x ∈ E, x ∈ D) → Inv V D L → 0 ≤ at0 L i → at0 (lround E L) i = at0 L i
  | [], _, _, _, _ => rfl
  | y :: E, L, hE, h, h0 => by
    have hk := h.keep (hE y (by simp)) h0
    show at0 (lround E (lstep L y)) i = _
    rw [Inv.stay hG (fun x hx => hE x (by simp [hx])) (h.step hG (hE y (by simp))) (by rw [hk]; exact h0), hk]
theorem Inv.rounds {V : Nat} {D : List PNode} {L : List Int} (hG : Good6 V D) (h : Inv V D L) (k : Nat) : Inv V D (lrounds D k L) := by
  induction k with
  | zero => exact h
  | succ k ih => exact Inv.round hG (fun x hx => hx) ih
theorem start_at {i : Nat} : ∀ {D : List PNode} {L : List Int}, at0 (D.foldl (fun L x => putAll L x.nv (-1)) L) i = if (∃ x ∈ D, ∃ v ∈ x.nv, v.toNat = i) ∧ i < L.length then -1 else at0 L i
  | [], L => by rw [if_neg (by simp)]; rfl
  | y :: D, L => by
    show at0 (D.foldl _ (putAll L y.nv (-1))) i = _
    rw [start_at, putAll_len, at0_put]
    by_cases h2 : i < L.length
    · by_cases h1 : ∃ x ∈ D, ∃ v ∈ x.nv, v.toNat = i
      · rw [if_pos ⟨h1, h2⟩]
        obtain ⟨x, hx, h1⟩ := h1
        rw [if_pos ⟨⟨x, by simp [hx], h1⟩, h2⟩]
      · rw [if_neg (fun h => h1 h.1)]
        by_cases h3 : ∃ v ∈ y.nv, v.toNat = i
        · rw [if_pos ⟨h3, h2⟩, if_pos ⟨⟨y, by simp, h3⟩, h2⟩]
        · rw [if_neg (fun h => h3 h.1), if_neg]
          rintro ⟨⟨x, hx, hv⟩, _⟩
          rcases List.mem_cons.1 hx with rfl | hx
          · exact h3 hv
          · exact h1 ⟨x, hx, hv⟩
    · rw [if_neg (fun h => h2 h.2), if_neg (fun h => h2 h.2), if_neg (fun h => h2 h.2)]
theorem at0_zeros (n i : Nat) : at0 (List.replicate n 0) i = 0 := by
  unfold at0
  rw [List.getD_eq_getElem?_getD, List.getElem?_replicate]
  split <;> rfl
theorem Inv.start {V : Nat} {D : List PNode} (hG : Good6 V D) : Inv V D (lstart V D) := by
  refine ⟨lstart_len V D, fun i hi hn => ?_, fun x hx => ⟨-1, fun v hv => ?_, .inl rfl⟩⟩
  · unfold lstart
    rw [start_at, if_neg, at0_zeros]
    rintro ⟨⟨x, hx, v, hv, e⟩, _⟩
    exact hn x hx v hv e
  · unfold lstart
    rw [start_at, if_pos]
    have := hG.vars x hx v hv
    exact ⟨⟨x, hx, v, hv, rfl⟩, by rw [List.length_replicate]; omega⟩

theorem left_keep {i : Nat} : ∀ {E : List PNode} {L : List Int}, leftN E L = 0 → 0 ≤ at0 L i → 0 ≤ at0 (lround E L) i
  | [], _, _, h0 => h0
  | y :: E, L, h, h0 => by
    unfold leftN at h
    have h1 : 0 ≤ plevel L y := by
      by_cases hp : plevel L y < 0
      · rw [if_pos hp] at h; omega
      · omega
    refine left_keep (E := E) (L := lstep L y) (by omega) ?_
    rw [at0_step]
    split
    · exact h1
    · exact h0
theorem left_set {x : PNode} {v : Int} (hv : v ∈ x.nv) : ∀ {E : List PNode} {L : List Int}, leftN E L = 0 → x ∈ E → v.toNat < L.length → 0 ≤ at0 (lround E L) v.toNat
  | [], _, _, hx, _ => by simp at hx
  | y :: E, L, h, hx, hl => by
    unfold leftN at h
    have h1 : 0 ≤ plevel L y := by
      by_cases hp : plevel L y < 0
      · rw [if_pos hp] at h; omega
      · omega
    rcases List.mem_cons.1 hx with e | hx
    · subst e
      refine left_keep (E := E) (L := lstep L x) (by omega) ?_
      rw [at0_step, if_pos ⟨⟨v, hv, rfl⟩, hl⟩]
      exact h1
    · exact left_set hv (E := E) (L := lstep L y) (by omega) hx (by rw [lstep_len]; exact hl)
theorem levels_found {V : Nat} {D : List PNode} {L : List Int} (hG : Good6 V D) (h : Inv V D L) (h0 : leftN D L = 0) : IsLevels V D (lround D L) := by
  have hI := Inv.round hG (E := D) (fun x hx => hx) h
  have hn : ∀ x ∈ D, ∀ v ∈ x.nv, at0 (lround D L) v.toNat = plevel (lround D L) x ∧ 0 ≤ plevel (lround D L) x := fun x hx v hv => by
    have h1 := left_set hv h0 hx (by have := hG.vars x hx v hv; have := h.len; omega)
    have h2 := hI.told hx hv h1
    omega
  refine ⟨hI.len, hI.zero, fun x hx v hv => (hn x hx v hv).1, fun x hx => ?_⟩
  obtain ⟨v, hv⟩ := List.exists_mem_of_ne_nil _ (hG.some x hx)
  exact (hn x hx v hv).2

/-- A list without repeats is no longer than one that holds all of it. -/
theorem nodup_sub {α : Type} [DecidableEq α] : ∀ {l m : List α}, l.Nodup → (∀ x ∈ l, x ∈ m) → l.length ≤ m.length
  | [], _, _, _ => Nat.zero_le _
  | a :: l, m, h, hs => by
    rw [List.nodup_cons] at h
    have ha : a ∈ m := hs a (by simp)
    have h1 := nodup_sub (l := l) (m := m.erase a) h.2 fun x hx => (List.mem_erase_of_ne (fun e => h.1 (by rw [← e]; exact hx))).2 (hs x (by simp [hx]))
    rw [List.length_erase_of_mem ha] at h1
    have := List.length_pos_of_mem ha
    simp only [List.length_cons]
    omega
theorem IsLevels.defined {V : Nat} {D : List PNode} {M : List Int} (h : IsLevels V D M) {i : Nat} (hi : i ≤ V) (h1 : 0 < at0 M i) : ∃ x ∈ D, ∃ v ∈ x.nv, v.toNat = i ∧ plevel M x = at0 M i := by
  by_cases h2 : ∃ x ∈ D, ∃ v ∈ x.nv, v.toNat = i
  · obtain ⟨x, hx, v, hv, e⟩ := h2
    exact ⟨x, hx, v, hv, e, by rw [← h.node x hx v hv, e]⟩
  · have := h.zero i hi (fun x hx v hv e => h2 ⟨x, hx, v, hv, e⟩)
    omega
theorem IsLevels.chain {V : Nat} {D : List PNode} {M : List Int} (hG : Good6 V D) (h : IsLevels V D M) : ∀ (k i : Nat), i ≤ V → at0 M i = (k : Int) + 1 → ∀ j : Nat, j ≤ k → ∃ x ∈ D, plevel M x = (j : Int) + 1
  | 0, i, hi, hk, j, hj => by
    obtain ⟨x, hx, v, hv, e, hp⟩ := h.defined hi (by omega)
    exact ⟨x, hx, by omega⟩
  | k + 1, i, hi, hk, j, hj => by
    obtain ⟨x, hx, v, hv, e, hp⟩ := h.defined hi (by omega)
    by_cases hjk : j = k + 1
    · exact ⟨x, hx, by omega⟩
    · rcases lvl_hit (L := M) (fs := x.nf) 0 (by omega) (h.pos x hx) with h1 | ⟨f, hf, h1⟩
      · have : plevel M x = 0 + 1 := h1
        omega
      · have h2 : plevel M x = at0 M (f / 2).toNat + 1 := h1
        exact IsLevels.chain hG h k (f / 2).toNat (from_le hG hx hf) (by omega) j (by omega)
theorem IsLevels.low {V : Nat} {D : List PNode} {M : List Int} (hG : Good6 V D) (h : IsLevels V D M) {i : Nat} (hi : i ≤ V) : at0 M i ≤ D.length := by
  by_cases h0 : 0 < at0 M i
  · obtain ⟨k, hk⟩ : ∃ k : Nat, at0 M i = (k : Int) + 1 := ⟨(at0 M i - 1).toNat, by omega⟩
    have h1 := h.chain hG k i hi hk
    have h2 := nodup_sub (l := (List.range (k + 1)).map fun (j : Nat) => (j : Int) + 1) (m := D.map (plevel M)) ?_ ?_
    · simp at h2
      omega
    · rw [List.nodup_iff_pairwise_ne, List.pairwise_map]
      refine List.Pairwise.imp ?_ (List.nodup_iff_pairwise_ne.1 List.nodup_range)
      intro a b hab e
      omega
    · intro y hy
      obtain ⟨j, hj, rfl⟩ := List.mem_map.1 hy
      obtain ⟨x, hx, e⟩ := h1 j (by have := List.mem_range.1 hj; omega)
      exact List.mem_map.2 ⟨x, hx, e⟩
  · omega
/-- After k rounds all levels up to k are told. -/
theorem rounds_tell {V : Nat} {D : List PNode} {M : List Int} (hG : Good6 V D) (h : IsLevels V D M) : ∀ (k i : Nat), i ≤ V → at0 M i ≤ k → 0 ≤ at0 (lrounds D k (lstart V D)) i
  | 0, i, hi, hk => by
    have hI := Inv.start hG
    rw [show lrounds D 0 (lstart V D) = lstart V D from rfl, hI.zero i hi]
    · omega
    · intro x hx v hv e
      have h1 := h.node x hx v hv
      have h2 := (lvl_pos 0 (by omega) (h.pos x hx)).1
      have : plevel M x = lvl M 0 x.nf := rfl
      rw [e] at h1
      omega
  | k + 1, i, hi, hk => by
    have hI := (Inv.start hG).rounds hG k
    by_cases h1 : ∃ x ∈ D, ∃ v ∈ x.nv, v.toNat = i
    · obtain ⟨x, hx, v, hv, e⟩ := h1
      obtain ⟨D1, D2, hD⟩ := List.append_of_mem hx
      have hD1 : ∀ y ∈ D1, y ∈ D := fun y hy => by rw [hD]; simp [hy]
      have hD2 : ∀ y ∈ D2, y ∈ D := fun y hy => by rw [hD]; simp [hy]
      have hI1 := Inv.round hG hD1 hI
      have hr : lround D (lrounds D k (lstart V D)) = lround D2 (lstep (lround D1 (lrounds D k (lstart V D))) x) := by
        conv => lhs; arg 1; rw [hD]
        simp [lround]
      have hp : 0 ≤ plevel (lround D1 (lrounds D k (lstart V D))) x := by
        refine lvl_all (fun f hf => ?_) 0 (by omega)
        have h2 := (lvl_pos 0 (by omega) (h.pos x hx)).2 f hf
        have h3 := h.node x hx v hv
        have : plevel M x = lvl M 0 x.nf := rfl
        rw [e] at h3
        have h4 := rounds_tell hG h k (f / 2).toNat (from_le hG hx hf) (by omega)
        rw [Inv.stay hG hD1 hI h4]
        exact h4
      show 0 ≤ at0 (lround D (lrounds D k (lstart V D))) i
      have h5 : at0 (lstep (lround D1 (lrounds D k (lstart V D))) x) i = plevel (lround D1 (lrounds D k (lstart V D))) x := by
        rw [at0_step, if_pos ⟨⟨v, hv, e⟩, by rw [hI1.len]; omega⟩]
      rw [hr, Inv.stay hG hD2 (hI1.step hG hx) (by rw [h5]; exact hp), h5]
      exact hp
    · have hI2 := (Inv.start hG).rounds hG (k + 1)
      rw [hI2.zero i hi (fun x hx v hv e => h1 ⟨x, hx, v, hv, e⟩)]
      omega
theorem left_none {V : Nat} {D : List PNode} (hG : Good6 V D) : ∀ {E : List PNode} {L : List Int}, (∀ x ∈ E, x ∈ D) → (∀ i, i ≤ V → 0 ≤ at0 L i) → leftN E L = 0
  | [], _, _, _ => rfl
  | y :: E, L, hE, h => by
    have h1 : 0 ≤ plevel L y := lvl_all (fun f hf => h _ (from_le hG (hE y (by simp)) hf)) 0 (by omega)
    unfold leftN
    rw [if_neg (by omega), left_none hG (fun x hx => hE x (by simp [hx])) (fun i hi => ?_)]
    rw [at0_step]
    split
    · exact h1
    · exact h i hi
/-- The rounds answer what the levels are. -/
theorem levelsOf_iff {V : Nat} {D : List PNode} (hG : Good6 V D) {L : List Int} : levelsOf V D = some L ↔ IsLevels V D L := by
  have hf : leftN D (lrounds D D.length (lstart V D)) = 0 → IsLevels V D (lrounds D (D.length + 1) (lstart V D)) := levels_found hG ((Inv.start hG).rounds hG D.length)
  constructor
  · intro h
    unfold levelsOf at h
    split at h
    · rename_i h0
      injection h with h
      rw [← h]
      exact hf h0
    · cases h
  · intro h
    have h0 := left_none hG (E := D) (fun x hx => hx) fun i hi => rounds_tell hG h D.length i hi (h.low hG hi)
    unfold levelsOf
    rw [if_pos h0, (hf h0).unique hG h]
theorem levelsOf_none {V : Nat} {D : List PNode} (hG : Good6 V D) (h : ∀ L, ¬ IsLevels V D L) : levelsOf V D = none := by
  cases hl : levelsOf V D with
  | none => rfl
  | some L => exact absurd ((levelsOf_iff hG).1 hl) (h L)
end Go.Proofs.Ytchnpooijaalnaa
