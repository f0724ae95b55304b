/- Of the order by definition: as many nodes as there are, each behind those that define its literals; what a node's numbers say of the netlist (condition: a sound netlist that has levels). -/
import Derived.Test.YtchnpooijaalnaaRounds
import Derived.Test.YtchnpooijaalnaaRefOrder
namespace Go.Proofs.Ytchnpooijaalnaa
set_option linter.unusedVariables false

theorem andNodes_at {x : PNode} : ∀ {l : List PAnd} {k : Nat}, x ∈ andNodes k l → x.nr = false ∧ x.nm = 0 ∧ ∃ j a, x.na = ((k + j : Nat) : Int) ∧ l[j]? = some a ∧ x.nf = [a.aa, a.ab] ∧ x.nv = [a.av]
  | [], _, h => by simp [andNodes] at h
  | a :: l, k, h => by
    rw [andNodes, List.mem_cons] at h
    rcases h with rfl | h
    · exact ⟨rfl, rfl, 0, a, rfl, rfl, rfl, rfl⟩
    · obtain ⟨h1, h0, j, b, h2, h3, h4⟩ := andNodes_at h
      exact ⟨h1, h0, j + 1, b, by rw [h2]; congr 1; omega, h3, h4⟩
theorem portNodes_at {x : PNode} {w : Int} {i : Nat} : ∀ {l : List PRead} {k : Nat}, x ∈ portNodes w i k l → x.nr = true ∧ x.nm = (i : Int) ∧ ∃ j r, x.na = ((k + j : Nat) : Int) ∧ l[j]? = some r ∧ x.nf = r.ra ∧ x.nv = dataL r.rv w
  | [], _, h => by simp [portNodes] at h
  | a :: l, k, h => by
    rw [portNodes, List.mem_cons] at h
    rcases h with rfl | h
    · exact ⟨rfl, rfl, 0, a, rfl, rfl, rfl, rfl⟩
    · obtain ⟨h1, h0, j, b, h2, h3, h4⟩ := portNodes_at h
      exact ⟨h1, h0, j + 1, b, by rw [h2]; congr 1; omega, h3, h4⟩
theorem memNodes_at {x : PNode} : ∀ {l : List PMem} {i : Nat}, x ∈ memNodes i l → x.nr = true ∧ ∃ t m j r, x.nm = ((i + t : Nat) : Int) ∧ l[t]? = some m ∧ x.na = (j : Nat) ∧ m.mr[j]? = some r ∧ x.nf = r.ra ∧ x.nv = dataL r.rv m.mw
  | [], _, h => by simp [memNodes] at h
  | m :: l, i, h => by
    rw [memNodes, List.mem_append] at h
    rcases h with h | h
    · obtain ⟨h1, h0, j, r, h2, h3, h4, h5⟩ := portNodes_at h
      exact ⟨h1, 0, m, j, r, by rw [h0]; rfl, rfl, by rw [h2]; congr 1; omega, h3, h4, h5⟩
    · obtain ⟨h1, t, m2, j, r, h0, h2, h3⟩ := memNodes_at h
      exact ⟨h1, t + 1, m2, j, r, by rw [h0]; congr 1; omega, h2, h3⟩
/-- An and of the netlist, or a port of reading. -/
theorem node_at {n : PNet} {x : PNode} (h : x ∈ n.nodes) :
    (x.nr = false ∧ x.nm = 0 ∧ ∃ j a, x.na = (j : Nat) ∧ n.ands[j]? = some a ∧ x.nf = [a.aa, a.ab] ∧ x.nv = [a.av]) ∨
    (x.nr = true ∧ ∃ t m j r, x.nm = (t : Nat) ∧ n.mems[t]? = some m ∧ x.na = (j : Nat) ∧ m.mr[j]? = some r ∧ x.nf = r.ra ∧ x.nv = dataL r.rv m.mw) := by
  unfold PNet.nodes at h
  rcases List.mem_append.1 h with h | h
  · obtain ⟨h1, h0, j, a, h2, h3⟩ := andNodes_at h
    exact .inl ⟨h1, h0, j, a, by rw [h2]; congr 1; omega, h3⟩
  · obtain ⟨h1, t, m, j, r, h0, h2⟩ := memNodes_at h
    exact .inr ⟨h1, t, m, j, r, by rw [h0]; congr 1; omega, h2⟩

/-- The level of a node: that of its first variable. -/
def levOf (L : List Int) (x : PNode) : Int := L.getD (x.nv.headD 0).toNat 0
theorem levOf_plevel {V : Nat} {D : List PNode} {L : List Int} (hG : Good6 V D) (h : IsLevels V D L) {x : PNode} (hx : x ∈ D) : levOf L x = plevel L x := by
  have hn := hG.some x hx
  cases hv : x.nv with
  | nil => exact absurd hv hn
  | cons v l =>
    unfold levOf
    rw [hv]
    exact h.node x hx v (by rw [hv]; simp)
theorem filter_add {α : Type} {p q r : α → Bool} (h : ∀ x, r x = (p x || q x)) (hd : ∀ x, p x = true → q x = false) : ∀ l : List α, (l.filter p).length + (l.filter q).length = (l.filter r).length
  | [] => rfl
  | a :: l => by
    have ih := filter_add h hd l
    have h1 := h a
    have h2 := hd a
    rw [List.filter_cons, List.filter_cons, List.filter_cons, h1]
    cases hp : p a <;> cases hq : q a <;> simp [hp, hq] at h2 ⊢ <;> omega
theorem orderTo_count (D : List PNode) (L : List Int) : ∀ k : Nat, (orderTo D L k).length = (D.filter fun x => decide (1 ≤ levOf L x ∧ levOf L x ≤ k)).length
  | 0 => by
    rw [show orderTo D L 0 = [] from rfl, List.filter_eq_nil_iff.2]
    intro x _
    simp
    omega
  | k + 1 => by
    rw [orderTo_succ, List.length_append, orderTo_count D L k]
    refine filter_add (fun x => ?_) (fun x hx => ?_) D
    · unfold atLevel
      show decide (1 ≤ levOf L x ∧ levOf L x ≤ ((k + 1 : Nat) : Int)) = (decide (1 ≤ levOf L x ∧ levOf L x ≤ (k : Int)) || decide (levOf L x = (k : Int) + 1))
      rw [Bool.eq_iff_iff]
      simp
      omega
    · unfold atLevel
      show decide (levOf L x = (k : Int) + 1) = false
      simp at hx ⊢
      omega
theorem mem_orderTo {D : List PNode} {L : List Int} {k : Nat} {x : PNode} : x ∈ orderTo D L k ↔ x ∈ D ∧ 1 ≤ levOf L x ∧ levOf L x ≤ k := by
  unfold orderTo
  rw [List.mem_flatMap]
  constructor
  · rintro ⟨j, hj, hx⟩
    obtain ⟨h1, h2⟩ := List.mem_filter.1 hx
    have h3 : levOf L x = (j : Int) + 1 := of_decide_eq_true h2
    have := List.mem_range.1 hj
    exact ⟨h1, by omega, by omega⟩
  · rintro ⟨h1, h2, h3⟩
    refine ⟨(levOf L x - 1).toNat, List.mem_range.2 (by omega), List.mem_filter.2 ⟨h1, ?_⟩⟩
    unfold atLevel
    show decide (levOf L x = _) = true
    simp
    omega
theorem orderTo_part (D : List PNode) (L : List Int) {a k : Nat} (h : a ≤ k) : ∃ R, orderTo D L k = orderTo D L a ++ R := by
  induction k with
  | zero => exact ⟨[], by rw [show a = 0 by omega]; simp⟩
  | succ k ih =>
    by_cases he : a = k + 1
    · exact ⟨[], by rw [he]; simp⟩
    · obtain ⟨R, hR⟩ := ih (by omega)
      exact ⟨R ++ D.filter (atLevel L ((k : Int) + 1)), by rw [orderTo_succ, hR, List.append_assoc]⟩
theorem lev_in {V : Nat} {D : List PNode} {L : List Int} (hG : Good6 V D) (h : IsLevels V D L) {x : PNode} (hx : x ∈ D) : 1 ≤ levOf L x ∧ levOf L x ≤ D.length := by
  rw [levOf_plevel hG h hx]
  obtain ⟨v, hv⟩ := List.exists_mem_of_ne_nil _ (hG.some x hx)
  have h1 := h.node x hx v hv
  have h2 := h.low hG (i := v.toNat) (by have := hG.vars x hx v hv; omega)
  have h3 := (lvl_pos 0 (by omega) (h.pos x hx)).1
  have : plevel L x = lvl L 0 x.nf := rfl
  omega
theorem order_len {V : Nat} {D : List PNode} {L : List Int} (hG : Good6 V D) (h : IsLevels V D L) : (orderTo D L D.length).length = D.length := by
  rw [orderTo_count]
  congr 1
  rw [List.filter_eq_self]
  intro x hx
  have := lev_in hG h hx
  simp
  omega
/-- What defines a node's literal comes ahead of it. -/
theorem order_first {V : Nat} {D : List PNode} {L : List Int} (hG : Good6 V D) (h : IsLevels V D L) {i : Nat} {x y : PNode} (hx : (orderTo D L D.length)[i]? = some x) (hy : y ∈ D) {f : Int} (hf : f ∈ x.nf) (hv : f / 2 ∈ y.nv) : y ∈ (orderTo D L D.length).take i := by
  have hxm := mem_orderTo.1 (mem_of_some hx)
  have h1 := lev_in hG h hxm.1
  have h2 := lev_in hG h hy
  have h3 : levOf L y < levOf L x := by
    rw [levOf_plevel hG h hy, levOf_plevel hG h hxm.1, ← h.node y hy _ hv]
    exact ((lvl_pos 0 (by omega) (h.pos x hxm.1)).2 f hf).2
  obtain ⟨R, hR⟩ := orderTo_part D L (a := (levOf L x - 1).toNat) (k := D.length) (by omega)
  have h4 : y ∈ orderTo D L (levOf L x - 1).toNat := mem_orderTo.2 ⟨hy, by omega, by omega⟩
  have h5 : (orderTo D L (levOf L x - 1).toNat).length ≤ i := by
    rcases Nat.lt_or_ge i (orderTo D L (levOf L x - 1).toNat).length with hl | hl
    · rw [hR, List.getElem?_append_left hl] at hx
      have := mem_orderTo.1 (mem_of_some hx)
      omega
    · exact hl
  rw [hR, List.take_append]
  refine List.mem_append_left _ ?_
  rw [List.take_of_length_le h5]
  exact h4
/-- Every variable is defined. -/
theorem all_defined {n : PNet} (h : n.sound = 0) {v : Int} (h1 : 1 ≤ v) (h2 : v ≤ n.vars) : v ∈ n.defs := by
  obtain ⟨hW, hF, hG6, hG, _⟩ := good6_of h
  have ho := (sound_parts h).2.2.1
  rw [good_all hG] at ho
  have hl : ¬ ((n.defs.length : Int) < n.vars) := by intro hl; rw [if_pos hl] at ho; omega
  by_cases hm : v ∈ n.defs
  · exact hm
  · have h3 := nodup_sub (l := v :: n.defs) (m := (List.range n.vars.toNat).map fun (j : Nat) => (j : Int) + 1) (List.nodup_cons.2 ⟨hm, hG.1⟩) ?_
    · simp at h3
      omega
    · intro y hy
      have hy2 : 1 ≤ y ∧ y ≤ n.vars := by
        rcases List.mem_cons.1 hy with rfl | hy
        · exact ⟨h1, h2⟩
        · exact hG.2 y hy
      exact List.mem_map.2 ⟨(y - 1).toNat, List.mem_range.2 (by omega), by omega⟩
theorem defined_by {n : PNet} {v : Int} (h : v ∈ n.defs) : v ∈ n.inputs ∨ v ∈ n.latches.map PLatch.lv ∨ ∃ y ∈ n.nodes, v ∈ y.nv := by
  unfold PNet.defs at h
  rcases List.mem_append.1 h with h | h
  · rcases List.mem_append.1 h with h | h
    · rcases List.mem_append.1 h with h | h
      · exact .inl h
      · exact .inr (.inl h)
    · rw [← memNodes_vars n.mems 0] at h
      obtain ⟨y, hy, hv⟩ := List.mem_flatMap.1 h
      exact .inr (.inr ⟨y, List.mem_append_right _ hy, hv⟩)
  · rw [← andNodes_vars n.ands 0] at h
    obtain ⟨y, hy, hv⟩ := List.mem_flatMap.1 h
    exact .inr (.inr ⟨y, List.mem_append_left _ hy, hv⟩)
/-- In the order by definition each literal's variable is there ahead of the node. -/
theorem there_first {n : PNet} {l : List PNode} (hl : n.order = some l) {i : Nat} {x : PNode} (hx : l[i]? = some x) {f : Int} (hf : f ∈ x.nf) :
    0 ≤ f ∧ f / 2 ≤ n.vars ∧ (f / 2 = 0 ∨ f / 2 ∈ n.inputs ∨ f / 2 ∈ n.latches.map PLatch.lv ∨ ∃ y ∈ l.take i, f / 2 ∈ y.nv) := by
  unfold PNet.order at hl
  cases hL : n.levels with
  | none => rw [hL] at hl; cases hl
  | some L =>
    rw [hL] at hl
    injection hl with hl
    have hs := (levels_len hL).1
    obtain ⟨hW, hF, hG, _, _⟩ := good6_of hs
    have hI : IsLevels n.vars.toNat n.nodes L := by
      unfold PNet.levels at hL
      rw [if_pos hs] at hL
      exact (levelsOf_iff hG).1 hL
    have hv := hW.vars
    rw [← hl] at hx ⊢
    have hxD := (mem_orderTo.1 (mem_of_some hx)).1
    have hlit := hG.lits x hxD f hf
    refine ⟨hlit.1, by omega, ?_⟩
    by_cases h0 : f / 2 = 0
    · exact .inl h0
    · rcases defined_by (all_defined hs (v := f / 2) (by omega) (by omega)) with h1 | h1 | ⟨y, hy, hyv⟩
      · exact .inr (.inl h1)
      · exact .inr (.inr (.inl h1))
      · exact .inr (.inr (.inr ⟨y, order_first hG hI hx hy hf hyv, hyv⟩))
end Go.Proofs.Ytchnpooijaalnaa
