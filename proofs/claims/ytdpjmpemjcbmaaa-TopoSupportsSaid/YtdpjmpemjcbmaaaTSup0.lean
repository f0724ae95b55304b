/- On which variables literals hang, as plain lists: what the walk into the depth leaves behind, rising, is what the document's walk back over the order finds (conditions: the netlist is right). -/
import Derived.Test.YtdpjmpemjcbmaaaTLv
import Derived.Test.YtdpjmpemjcbmaaaRefSupport
namespace Go.Proofs.Ytdpjmpemjcbmaaa
set_option linter.unusedVariables false

theorem rise_eq : ∀ {l m : List Int}, l.Pairwise (· < ·) → m.Pairwise (· < ·) → (∀ x, x ∈ l ↔ x ∈ m) → l = m
  | [], [], _, _, _ => rfl
  | [], b :: m, _, _, h => by have := (h b).2 (by simp); simp at this
  | a :: l, [], _, _, h => by have := (h a).1 (by simp); simp at this
  | a :: l, b :: m, h1, h2, h => by
    rw [List.pairwise_cons] at h1 h2
    have e : a = b := by
      rcases List.mem_cons.1 ((h a).1 (by simp)) with e | e
      · exact e
      · rcases List.mem_cons.1 ((h b).2 (by simp)) with e2 | e2
        · exact e2.symm
        · have := h2.1 a e
          have := h1.1 b e2
          omega
    subst e
    congr 1
    refine rise_eq h1.2 h2.2 fun x => ?_
    constructor
    · intro hx
      rcases List.mem_cons.1 ((h x).1 (by simp [hx])) with e | e
      · have := h1.1 x hx
        omega
      · exact e
    · intro hx
      rcases List.mem_cons.1 ((h x).2 (by simp [hx])) with e | e
      · have := h2.1 x hx
        omega
      · exact e
theorem pickOf_rise (k : Nat) (s : List Int) : (pickOf k s).Pairwise (· < ·) := by
  unfold pickOf
  refine List.Pairwise.filter _ ?_
  rw [List.pairwise_map]
  refine List.Pairwise.imp ?_ (List.pairwise_lt_range (n := k))
  intro a b h
  omega
theorem mem_pickOf {k : Nat} {s : List Int} {x : Int} : x ∈ pickOf k s ↔ 1 ≤ x ∧ x ≤ k ∧ x ∈ s := by
  unfold pickOf
  rw [List.mem_filter, List.mem_map]
  constructor
  · rintro ⟨⟨i, hi, rfl⟩, h⟩
    have := List.mem_range.1 hi
    exact ⟨by omega, by omega, by simpa using h⟩
  · rintro ⟨h1, h2, h3⟩
    exact ⟨⟨(x - 1).toNat, List.mem_range.2 (by omega), by omega⟩, by simpa using h3⟩

theorem backStep_sub {x : PNode} {s : List Int} {v : Int} (h : v ∈ s) : v ∈ backStep x s := by
  unfold backStep
  split
  · exact List.mem_append_left _ h
  · exact h
theorem backAll_mono {s : List Int} {v : Int} : ∀ {D : List PNode} {j k : Nat}, j ≤ k → v ∈ backAll (D.drop k) s → v ∈ backAll (D.drop j) s
  | [], j, k, _, h => by simpa using h
  | x :: D, 0, 0, _, h => h
  | x :: D, 0, k + 1, _, h => backStep_sub (backAll_mono (D := D) (j := 0) (k := k) (Nat.zero_le _) h)
  | x :: D, j + 1, k + 1, hjk, h => backAll_mono (D := D) (by omega) h
theorem backAll_seed {s : List Int} {v : Int} (h : v ∈ s) : ∀ D : List PNode, v ∈ backAll D s
  | [] => h
  | x :: D => backStep_sub (backAll_seed h D)
theorem backAll_from {s : List Int} {v : Int} : ∀ {D : List PNode}, v ∈ backAll D s → v ∈ s ∨ ∃ (j : Nat) (x : PNode), D[j]? = some x ∧ v ∈ fromOf x.nf ∧ v ∈ backAll (D.drop j) s
  | [], h => .inl h
  | x :: D, h => by
    have h' : v ∈ backStep x (backAll D s) := h
    unfold backStep at h'
    split at h'
    · rcases List.mem_append.1 h' with h1 | h1
      · rcases backAll_from h1 with h2 | ⟨j, y, h2, h3, h4⟩
        · exact .inl h2
        · exact .inr ⟨j + 1, y, h2, h3, h4⟩
      · exact .inr ⟨0, x, rfl, h1, h⟩
    · rcases backAll_from h' with h2 | ⟨j, y, h2, h3, h4⟩
      · exact .inl h2
      · exact .inr ⟨j + 1, y, h2, h3, h4⟩
theorem back_at {s : List Int} {D : List PNode} {i : Nat} {y : PNode} {v : Int} (hi : D[i]? = some y) (hv : v ∈ y.nv) (hs : v ∈ backAll (D.drop (i + 1)) s) : ∀ u ∈ fromOf y.nf, u ∈ backAll D s := fun u hu => by
  refine backAll_mono (D := D) (j := 0) (k := i) (Nat.zero_le _) ?_
  rw [backAll_drop hi]
  unfold backStep
  rw [if_pos (by rw [List.any_eq_true]; exact ⟨v, hv, by simpa using hs⟩)]
  exact List.mem_append_right _ hu
/-- In the order, what is found is closed: what hangs on something found is found. -/
theorem back_closed {V : Nat} {D : List PNode} {L : List Int} (hG : Good6 V D) (h : IsLevels V D L) {s : List Int} {y : PNode} (hy : y ∈ D) {v : Int} (hv : v ∈ y.nv) (hs : v ∈ backAll (orderTo D L D.length) s) : ∀ u ∈ fromOf y.nf, u ∈ backAll (orderTo D L D.length) s := by
  rcases backAll_from hs with h1 | ⟨j, x, hj, hx, h1⟩
  · have hm : y ∈ orderTo D L D.length := mem_orderTo.2 ⟨hy, lev_in hG h hy⟩
    obtain ⟨i, hi⟩ := List.mem_iff_getElem?.1 hm
    exact back_at hi hv (backAll_seed h1 _)
  · unfold fromOf at hx
    obtain ⟨hx1, hx2⟩ := List.mem_filter.1 hx
    obtain ⟨f, hf, e⟩ := List.mem_map.1 hx1
    have ht := order_first hG h hj hy hf (by rw [e]; exact hv)
    obtain ⟨i, hi⟩ := List.mem_iff_getElem?.1 ht
    have hil : i < j := by
      have := lt_of_some hi
      rw [List.length_take] at this
      omega
    rw [List.getElem?_take_of_lt hil] at hi
    exact back_at hi hv (backAll_mono (by omega) h1)

theorem seed_nats {V : Int} {l : List Int} : nats ((seedOf V l).map Int.toNat) = seedOf V l := by
  unfold nats
  rw [List.map_map]
  have : ∀ x ∈ seedOf V l, ((fun (k : Nat) => (k : Int)) ∘ Int.toNat) x = x := fun x hx => by
    unfold seedOf at hx
    have := (List.mem_filter.1 hx).2
    simp at this
    show ((x.toNat : Nat) : Int) = x
    omega
  rw [List.map_congr_left this]
  simp
theorem support_same {n : PNet} {L : List Int} {l : List Int} {F : List Nat} {s : List Int} (hs : n.sound = 0) (hI : IsLevels n.vars.toNat n.nodes L) (hF : Whole (belowOf n.nodes) n.vars.toNat ((seedOf n.vars l).map Int.toNat) F)
    (hr : s.Pairwise (· < ·)) (hm : ∀ x, x ∈ s ↔ x ∈ nats (F.filter fun u => decide (0 < u))) : s = n.support l := by
  obtain ⟨hW, _, hG, _, _⟩ := good6_of hs
  have hv0 := hW.vars.1
  have hlv : n.levels = some L := by unfold PNet.levels; rw [if_pos hs]; exact (levelsOf_iff hG).2 hI
  have hck : n.check = 0 := by unfold PNet.check; rw [if_pos hs, hlv]
  have hor : n.order = some (orderTo n.nodes L n.nodes.length) := by unfold PNet.order; rw [hlv]; rfl
  have hsup : n.support l = pickOf n.vars.toNat (backAll (orderTo n.nodes L n.nodes.length) (seedOf n.vars l)) := by
    unfold PNet.support
    rw [if_pos hck, hor]
    show supportOf _ _ _ = _
    unfold supportOf
    rw [show ((n.vars.toNat : Nat) : Int) = n.vars from by omega]
  rw [hsup]
  refine rise_eq hr (pickOf_rise _ _) fun x => ?_
  rw [hm, mem_pickOf]
  constructor
  · intro hx
    obtain ⟨u, hu, rfl⟩ := List.mem_map.1 hx
    obtain ⟨hu1, hu2⟩ := List.mem_filter.1 hu
    have hu3 : 0 < u := by simpa using hu2
    have hle := hF.le u hu1
    refine ⟨by omega, by omega, ?_⟩
    have := hF.part (fun u => u = 0 ∨ (u : Int) ∈ backAll (orderTo n.nodes L n.nodes.length) (seedOf n.vars l)) (fun a ha x hx => ?_) (fun x hx => ?_) u hu1
    · rcases this with h0 | h0
      · omega
      · exact h0
    · by_cases hd : ∃ y ∈ n.nodes, ∃ v ∈ y.nv, v.toNat = a
      · obtain ⟨y, hy, v, hv, e⟩ := hd
        rw [below_some hG hy hv e] at hx
        obtain ⟨f, hf, rfl⟩ := List.mem_map.1 hx
        have hv1 := hG.vars y hy v hv
        have hf0 := hG.lits y hy f hf
        rcases ha with h0 | h0
        · omega
        · have hva : (a : Int) = v := by omega
          rw [hva] at h0
          by_cases hz : f / 2 = 0
          · left; omega
          · right
            have h3 := back_closed hG hI hy hv h0 (f / 2) (by unfold fromOf; rw [List.mem_filter]; exact ⟨List.mem_map.2 ⟨f, hf, rfl⟩, by simp; omega⟩)
            rw [show (((f / 2).toNat : Nat) : Int) = f / 2 from by omega]
            exact h3
      · rw [below_none (fun y hy v hv e => hd ⟨y, hy, v, hv, e⟩)] at hx
        simp at hx
    · right
      have h1 : (x : Int) ∈ nats ((seedOf n.vars l).map Int.toNat) := List.mem_map.2 ⟨x, hx, rfl⟩
      rw [seed_nats] at h1
      exact backAll_seed h1 _
  · rintro ⟨h1, h2, h3⟩
    have key : ∀ (D : List PNode), (∀ y ∈ D, y ∈ n.nodes) → ∀ v ∈ backAll D (seedOf n.vars l), v.toNat ∈ F := by
      intro D
      induction D with
      | nil =>
        intro _ v hv
        exact hF.all _ (List.mem_map.2 ⟨v, hv, rfl⟩)
      | cons y D ih =>
        intro hD v hv
        have hv' : v ∈ backStep y (backAll D (seedOf n.vars l)) := hv
        unfold backStep at hv'
        split at hv'
        · rename_i ha
          rcases List.mem_append.1 hv' with h4 | h4
          · exact ih (fun z hz => hD z (by simp [hz])) v h4
          · rw [List.any_eq_true] at ha
            obtain ⟨u, hu, hu2⟩ := ha
            have huF := ih (fun z hz => hD z (by simp [hz])) u (by simpa using hu2)
            unfold fromOf at h4
            obtain ⟨h5, h6⟩ := List.mem_filter.1 h4
            obtain ⟨f, hf, rfl⟩ := List.mem_map.1 h5
            exact hF.closed _ huF _ (by rw [below_some hG (hD y (by simp)) hu rfl]; exact List.mem_map.2 ⟨f, hf, rfl⟩)
        · exact ih (fun z hz => hD z (by simp [hz])) v hv'
    have hxF := key _ (fun y hy => (mem_orderTo.1 hy).1) x h3
    exact List.mem_map.2 ⟨x.toNat, List.mem_filter.2 ⟨hxF, by simp; omega⟩, by omega⟩
end Go.Proofs.Ytdpjmpemjcbmaaa
