/- The levels that the walk into the depth leaves, as plain lists: they are the levels; and where values hang on themselves there are none (conditions: the nodes are a sound netlist's, each hangs on something). -/
import Derived.Test.YtchnpooijaalnaaTGraph
namespace Go.Proofs.Ytchnpooijaalnaa
set_option linter.unusedVariables false

/-- One more than the greatest level of these; 0 if there are none. -/
def amax (L : List Int) (l : List Nat) : Int := l.foldl (fun a x => max a (at0 L x + 1)) 0
theorem amax_snoc (L : List Int) (l : List Nat) (x : Nat) : amax L (l ++ [x]) = max (amax L l) (at0 L x + 1) := by simp [amax]
theorem amax_congr {L M : List Int} {l : List Nat} (h : ∀ x ∈ l, at0 L x = at0 M x) : amax L l = amax M l := by
  unfold amax
  have : ∀ (l : List Nat) (a : Int), (∀ x ∈ l, at0 L x = at0 M x) → l.foldl (fun a x => max a (at0 L x + 1)) a = l.foldl (fun a x => max a (at0 M x + 1)) a := by
    intro l
    induction l with
    | nil => intro a _; rfl
    | cons x l ih =>
      intro a h
      simp only [List.foldl_cons]
      rw [h x (by simp), ih _ (fun y hy => h y (by simp [hy]))]
  exact this l 0 h
theorem fold_bound {L : List Int} {c : Int} : ∀ (l : List Nat) (a : Int), 0 ≤ a → a ≤ c + 1 → (∀ x ∈ l, at0 L x ≤ c) → 0 ≤ l.foldl (fun a x => max a (at0 L x + 1)) a ∧ l.foldl (fun a x => max a (at0 L x + 1)) a ≤ c + 1
  | [], a, h0, h1, _ => ⟨h0, h1⟩
  | x :: l, a, h0, h1, h => by
    have hx := h x (by simp)
    show 0 ≤ l.foldl (fun a x => max a (at0 L x + 1)) (max a (at0 L x + 1)) ∧ l.foldl (fun a x => max a (at0 L x + 1)) (max a (at0 L x + 1)) ≤ c + 1
    exact fold_bound l _ (by omega) (by omega) (fun y hy => h y (by simp [hy]))
theorem amax_bound {L : List Int} {c : Int} {l : List Nat} (hc : 0 ≤ c) (h : ∀ x ∈ l, at0 L x ≤ c) : 0 ≤ amax L l ∧ amax L l ≤ c + 1 := fold_bound l 0 (Int.le_refl _) (by omega) h
/-- For a node: its level. -/
theorem lvl_fold {L : List Int} : ∀ (fs : List Int) (n : Int), 0 ≤ n → (∀ f ∈ fs, 0 ≤ at0 L (f / 2).toNat) → lvl L n fs = (fs.map fun f => (f / 2).toNat).foldl (fun a x => max a (at0 L x + 1)) (n + 1)
  | [], n, _, _ => rfl
  | f :: fs, n, h0, h => by
    have hf := h f (by simp)
    show (if L.getD (f / 2).toNat 0 < 0 then -1 else lvl L (max n (L.getD (f / 2).toNat 0)) fs) = _
    have hf' : ¬ L.getD (f / 2).toNat 0 < 0 := by show ¬ at0 L (f / 2).toNat < 0; omega
    rw [if_neg hf', lvl_fold fs _ (by omega) (fun g hg => h g (by simp [hg]))]
    simp only [List.map_cons, List.foldl_cons]
    congr 1
    show max n (at0 L (f / 2).toNat) + 1 = max (n + 1) (at0 L (f / 2).toNat + 1)
    omega
theorem amax_plevel {L : List Int} {x : PNode} (hn : x.nf ≠ []) (h : ∀ f ∈ x.nf, 0 ≤ at0 L (f / 2).toNat) : amax L (x.nf.map fun f => (f / 2).toNat) = plevel L x := by
  unfold plevel
  rw [lvl_fold _ 0 (Int.le_refl _) h]
  cases hx : x.nf with
  | nil => exact absurd hx hn
  | cons f fs =>
    have hf := h f (by rw [hx]; simp)
    unfold amax
    simp only [List.map_cons, List.foldl_cons]
    congr 1
    omega

structure LvInv (D : List PNode) (V : Nat) (F : List Nat) (L : List Int) : Prop where
  len : L.length = V + 1
  le : ∀ u ∈ F, u ≤ V
  nodup : F.Nodup
  closed : ∀ u ∈ F, ∀ x ∈ belowOf D u, x ∈ F
  off : ∀ u, u ∉ F → at0 L u = 0
  on : ∀ u ∈ F, at0 L u = amax L (belowOf D u)
  low : ∀ u, 0 ≤ at0 L u ∧ at0 L u ≤ F.length
theorem nodup_le {V : Nat} {F : List Nat} (hn : F.Nodup) (h : ∀ u ∈ F, u ≤ V) : F.length ≤ V + 1 := by
  have := nodup_sub (m := List.range (V + 1)) hn fun u hu => List.mem_range.2 (by have := h u hu; omega)
  simpa using this
theorem LvInv.start (D : List PNode) (V : Nat) : LvInv D V [] (List.replicate (V + 1) 0) :=
  ⟨by simp, by simp, by simp, by simp, fun u _ => at0_zeros _ _, by simp, fun u => by rw [at0_zeros]; simp⟩
theorem LvInv.size {D : List PNode} {V : Nat} {F : List Nat} {L : List Int} (h : LvInv D V F L) : F.length ≤ V + 1 := nodup_le h.nodup h.le
theorem LvInv.step {D : List PNode} {V : Nat} {F : List Nat} {L : List Int} (h : LvInv D V F L) {v : Nat} (hv : v ≤ V) (hF : v ∉ F) (hb : ∀ x ∈ belowOf D v, x ∈ F) : LvInv D V (F ++ [v]) (L.set v (amax L (belowOf D v))) := by
  have hl := h.len
  have hat : ∀ u, at0 (L.set v (amax L (belowOf D v))) u = if v = u then amax L (belowOf D v) else at0 L u := fun u => by
    rw [at0_set]
    by_cases e : v = u
    · rw [if_pos ⟨e, by omega⟩, if_pos e]
    · rw [if_neg (fun h => e h.1), if_neg e]
  have hsame : ∀ l : List Nat, (∀ x ∈ l, x ∈ F) → amax (L.set v (amax L (belowOf D v))) l = amax L l := fun l hl => amax_congr fun x hx => by
    rw [hat, if_neg (fun e => hF (by rw [e]; exact hl x hx))]
  have hbd := amax_bound (L := L) (c := (F.length : Int)) (l := belowOf D v) (by omega) (fun x _ => (h.low x).2)
  refine ⟨by simp [hl], fun u hu => ?_, ?_, fun u hu x hx => ?_, fun u hu => ?_, fun u hu => ?_, fun u => ?_⟩
  · rcases List.mem_append.1 hu with hu | hu
    · exact h.le u hu
    · simp at hu; omega
  · rw [List.nodup_append]
    exact ⟨h.nodup, by simp, fun a ha b hb e => by simp at hb; subst hb; subst e; exact hF ha⟩
  · rcases List.mem_append.1 hu with hu | hu
    · exact List.mem_append_left _ (h.closed u hu x hx)
    · simp at hu; subst hu; exact List.mem_append_left _ (hb x hx)
  · rw [hat, if_neg (fun e => hu (by simp [e]))]
    exact h.off u (fun e => hu (by simp [e]))
  · rcases List.mem_append.1 hu with hu | hu
    · rw [hat, if_neg (fun e => hF (by rw [e]; exact hu)), hsame _ (h.closed u hu), h.on u hu]
    · simp at hu
      subst hu
      rw [hat, if_pos rfl, hsame _ hb]
  · rw [hat]
    have := h.low u
    simp only [List.length_append, List.length_singleton]
    split
    · omega
    · omega
theorem LvInv.whole {D : List PNode} {V : Nat} {F : List Nat} {L : List Int} (hG : Good6 V D) (hn : ∀ x ∈ D, x.nf ≠ []) (h : LvInv D V F L) (hall : ∀ u, u ≤ V → u ∈ F) : IsLevels V D L := by
  have hx : ∀ x ∈ D, ∀ v ∈ x.nv, at0 L v.toNat = plevel L x := fun x hx v hv => by
    have hv2 := hG.vars x hx v hv
    rw [h.on v.toNat (hall _ (by omega)), below_some hG hx hv rfl]
    exact amax_plevel (hn x hx) fun f _ => (h.low _).1
  refine ⟨h.len, fun i hi hno => ?_, hx, fun x hxD => ?_⟩
  · rw [h.on i (hall i hi), below_none hno]
    rfl
  · obtain ⟨v, hv⟩ := List.exists_mem_of_ne_nil _ (hG.some x hxD)
    rw [← hx x hxD v hv]
    exact (h.low _).1
theorem none_of_loops {D : List PNode} {V : Nat} (hG : Good6 V D) (h : Loops (belowOf D) V) : ∀ L, ¬ IsLevels V D L := fun L hL => by
  refine h (fun u => at0 L u) fun u hu x hx => ?_
  by_cases hd : ∃ y ∈ D, ∃ v ∈ y.nv, v.toNat = u
  · obtain ⟨y, hy, v, hv, e⟩ := hd
    rw [below_some hG hy hv e] at hx
    obtain ⟨f, hf, rfl⟩ := List.mem_map.1 hx
    show at0 L (f / 2).toNat < at0 L u
    rw [← e, hL.node y hy v hv]
    exact ((lvl_pos (L := L) 0 (Int.le_refl _) (hL.pos y hy)).2 f hf).2
  · rw [below_none (fun y hy v hv e => hd ⟨y, hy, v, hv, e⟩)] at hx
    simp at hx
theorem nf_some {n : PNet} (h : n.sound = 0) : ∀ x ∈ n.nodes, x.nf ≠ [] := fun x hx => by
  obtain ⟨_, hF, _⟩ := good6_of h
  rcases node_at hx with ⟨_, _, j, a, _, _, rf, _⟩ | ⟨_, t, m, j, r, _, hmm, _, hr, rf, _⟩
  · rw [rf]; simp
  · rw [rf]
    intro e
    have h1 := (hF m (mem_of_some hmm)).reads r (mem_of_some hr)
    have h2 := (hF m (mem_of_some hmm)).addr
    rw [e] at h1
    simp at h1
    omega
end Go.Proofs.Ytchnpooijaalnaa
