/- A walk into the depth, as plain lists: marks, what is left behind in which order, and why a walk that meets what is on the way has found values that hang on themselves (no condition but those that each theorem names). -/
import Derived.Test.YtchnpooijaalnaaRounds
namespace Go.Proofs.Ytchnpooijaalnaa
set_option linter.unusedVariables false

/-- How many are not met yet. -/
def unseen (M : List Int) : Nat := M.count 0
theorem unseen_le : ∀ {M M' : List Int}, M.length = M'.length → (∀ u, u < M.length → at0 M' u = 0 → at0 M u = 0) → unseen M' ≤ unseen M
  | [], [], _, _ => Nat.le_refl _
  | a :: M, b :: M', hl, h => by
    have h1 := unseen_le (M := M) (M' := M') (by simpa using hl) fun u hu h0 => by
      have := h (u + 1) (by simp; omega) (by simpa [at0] using h0)
      simpa [at0] using this
    have h2 := h 0 (by simp)
    simp [at0] at h2
    unfold unseen at h1 ⊢
    rw [List.count_cons, List.count_cons]
    by_cases hb : b = 0
    · have := h2 hb
      simp [hb, this]; omega
    · simp [hb]; omega
theorem unseen_set {M : List Int} {v : Nat} (hv : v < M.length) (h : at0 M v = 0) : unseen (M.set v 1) < unseen M := by
  have hg := at0_lt hv
  rw [h] at hg
  have hm : (0 : Int) ∈ M := mem_of_some hg
  have h1 : 0 < M.count 0 := List.count_pos_iff.2 hm
  unfold unseen
  rw [List.count_set hv]
  have h2 : M[v] = 0 := by rw [List.getElem?_eq_getElem hv] at hg; injection hg
  simp [h2]
  omega

structure Way (bel : Nat → List Nat) (V : Nat) (M : List Int) (F : List Nat) : Prop where
  len : M.length = V + 1
  vals : ∀ u, u ≤ V → at0 M u = 0 ∨ at0 M u = 1 ∨ at0 M u = 2
  done : ∀ u, u ≤ V → (at0 M u = 2 ↔ u ∈ F)
  le : ∀ u ∈ F, u ≤ V
  nodup : F.Nodup
  closed : ∀ u ∈ F, ∀ x ∈ bel u, x ∈ F
/-- What is below has less. -/
def Falls (bel : Nat → List Nat) (V : Nat) (r : Nat → Int) : Prop := ∀ u, u ≤ V → ∀ x ∈ bel u, r x < r u
/-- All that is on the way hangs on v. -/
def Above (bel : Nat → List Nat) (V : Nat) (M : List Int) (v : Nat) : Prop := ∀ r, Falls bel V r → ∀ u, u ≤ V → at0 M u = 1 → r v < r u
def Loops (bel : Nat → List Nat) (V : Nat) : Prop := ∀ r, ¬ Falls bel V r
structure Gone (bel : Nat → List Nat) (V : Nat) (M : List Int) (F : List Nat) (M' : List Int) (F' : List Nat) (v : Nat) : Prop where
  way : Way bel V M' F'
  part : ∃ N, F' = F ++ N ∧ ∀ P : Nat → Prop, (∀ u, P u → ∀ x ∈ bel u, P x) → P v → ∀ u ∈ N, P u
  on : ∀ u, u ≤ V → (at0 M' u = 1 ↔ at0 M u = 1)
  here : v ∈ F'
theorem Gone.behind {bel : Nat → List Nat} {V v : Nat} {M : List Int} {F : List Nat} (h : Way bel V M F) (hv : v ≤ V) (h2 : at0 M v = 2) : Gone bel V M F M F v :=
  ⟨h, ⟨[], by simp, by simp⟩, fun _ _ => Iff.rfl, (h.done v hv).1 h2⟩
theorem loops_of {bel : Nat → List Nat} {V v : Nat} {M : List Int} (hv : v ≤ V) (h1 : at0 M v = 1) (ha : Above bel V M v) : Loops bel V :=
  fun r hr => Int.lt_irrefl _ (ha r hr v hv h1)

/-- In the midst of what is below v: k of them are left behind. -/
structure Mid (bel : Nat → List Nat) (V : Nat) (M : List Int) (F : List Nat) (v k : Nat) (Mk : List Int) (Fk : List Nat) : Prop where
  way : Way bel V Mk Fk
  part : ∃ N, Fk = F ++ N ∧ ∀ P : Nat → Prop, (∀ u, P u → ∀ x ∈ bel u, P x) → P v → ∀ u ∈ N, P u
  on : ∀ u, u ≤ V → (at0 Mk u = 1 ↔ (at0 M u = 1 ∨ u = v))
  took : ∀ x ∈ (bel v).take k, x ∈ Fk
variable {bel : Nat → List Nat} {V v : Nat} {M : List Int} {F : List Nat}
theorem Mid.start (h : Way bel V M F) (hv : v ≤ V) (h0 : at0 M v = 0) : Mid bel V M F v 0 (M.set v 1) F := by
  have hl := h.len
  have hat : ∀ u, u ≤ V → at0 (M.set v 1) u = if v = u then 1 else at0 M u := fun u hu => by
    rw [at0_set]
    by_cases e : v = u
    · rw [if_pos ⟨e, by omega⟩, if_pos e]
    · rw [if_neg (fun h => e h.1), if_neg e]
  have hvF : v ∉ F := fun hm => by have := (h.done v hv).2 hm; omega
  refine ⟨⟨by simp [hl], fun u hu => ?_, fun u hu => ?_, h.le, h.nodup, h.closed⟩, ⟨[], by simp, by simp⟩, fun u hu => ?_, by simp⟩
  · rw [hat u hu]
    split
    · exact .inr (.inl rfl)
    · exact h.vals u hu
  · rw [hat u hu]
    split
    · rename_i e
      subst e
      exact ⟨fun h => by omega, fun h => absurd h hvF⟩
    · exact h.done u hu
  · rw [hat u hu]
    split
    · rename_i e
      exact ⟨fun _ => .inr e.symm, fun _ => rfl⟩
    · rename_i e
      exact ⟨fun h => .inl h, fun h => h.resolve_right fun h => e h.symm⟩
theorem Mid.step {k x : Nat} {Mk M' : List Int} {Fk F' : List Nat} (h : Mid bel V M F v k Mk Fk) (hx : (bel v)[k]? = some x) (hg : Gone bel V Mk Fk M' F' x) : Mid bel V M F v (k + 1) M' F' := by
  obtain ⟨N, e, hN⟩ := h.part
  obtain ⟨N', e', hN'⟩ := hg.part
  refine ⟨hg.way, ⟨N ++ N', by rw [e', e, List.append_assoc], fun P hP hv u hu => ?_⟩, fun u hu => (hg.on u hu).trans (h.on u hu), fun y hy => ?_⟩
  · rcases List.mem_append.1 hu with hu | hu
    · exact hN P hP hv u hu
    · exact hN' P hP (hP v hv x (mem_of_some hx)) u hu
  · rw [take_some hx] at hy
    rcases List.mem_append.1 hy with hy | hy
    · rw [e']
      exact List.mem_append_left _ (h.took y hy)
    · simp at hy
      subst hy
      exact hg.here
theorem Mid.above {k x : Nat} {Mk : List Int} {Fk : List Nat} (h : Mid bel V M F v k Mk Fk) (hv : v ≤ V) (ha : Above bel V M v) (hx : (bel v)[k]? = some x) : Above bel V Mk x := fun r hr u hu h1 => by
  have h2 := hr v hv x (mem_of_some hx)
  rcases (h.on u hu).1 h1 with h3 | h3
  · have := ha r hr u hu h3
    omega
  · subst h3
    exact h2
theorem Mid.less {k : Nat} {Mk : List Int} {Fk : List Nat} (h : Mid bel V M F v k Mk Fk) (hM : Way bel V M F) (hv : v ≤ V) (h0 : at0 M v = 0) : unseen Mk < unseen M := by
  refine Nat.lt_of_le_of_lt (unseen_le (M := M.set v 1) (by simp [hM.len, h.way.len]) fun u hu hz => ?_) (unseen_set (by have := hM.len; omega) h0)
  have hu2 : u ≤ V := by have := hM.len; simp at hu; omega
  have hne : u ≠ v := fun e => by
    have := (h.on u hu2).2 (.inr e)
    omega
  rw [at0_set, if_neg (fun h => hne h.1.symm)]
  rcases hM.vals u hu2 with h1 | h1 | h1
  · exact h1
  · have := (h.on u hu2).2 (.inl h1)
    omega
  · have h3 := (hM.done u hu2).1 h1
    obtain ⟨N, e, _⟩ := h.part
    have : u ∈ Fk := by rw [e]; exact List.mem_append_left _ h3
    have := (h.way.done u hu2).2 this
    omega
theorem Mid.last {Mk : List Int} {Fk : List Nat} {k : Nat} (h : Mid bel V M F v k Mk Fk) (hk : (bel v).length ≤ k) (hM : Way bel V M F) (hv : v ≤ V) (h0 : at0 M v = 0) :
    v ∉ Fk ∧ (∀ x ∈ bel v, x ∈ Fk) ∧ Gone bel V M F (Mk.set v 2) (Fk ++ [v]) v := by
  have hl := h.way.len
  have h1 : at0 Mk v = 1 := (h.on v hv).2 (.inr rfl)
  have hvF : v ∉ Fk := fun hm => by have := (h.way.done v hv).2 hm; omega
  have hb : ∀ x ∈ bel v, x ∈ Fk := fun x hx => h.took x (by rw [List.take_of_length_le hk]; exact hx)
  have hat : ∀ u, u ≤ V → at0 (Mk.set v 2) u = if v = u then 2 else at0 Mk u := fun u hu => by
    rw [at0_set]
    by_cases e : v = u
    · rw [if_pos ⟨e, by omega⟩, if_pos e]
    · rw [if_neg (fun h => e h.1), if_neg e]
  obtain ⟨N, e, hN⟩ := h.part
  refine ⟨hvF, hb, ⟨⟨by simp [hl], fun u hu => ?_, fun u hu => ?_, fun u hu => ?_, ?_, fun u hu x hx => ?_⟩, ⟨N ++ [v], by rw [e, List.append_assoc], fun P hP hp u hu => ?_⟩, fun u hu => ?_, by simp⟩⟩
  · rw [hat u hu]
    split
    · exact .inr (.inr rfl)
    · exact h.way.vals u hu
  · rw [hat u hu]
    split
    · rename_i e
      exact ⟨fun _ => by simp [e], fun _ => rfl⟩
    · rename_i e
      rw [h.way.done u hu]
      simp
      exact fun h => absurd h.symm e
  · rcases List.mem_append.1 hu with hu | hu
    · exact h.way.le u hu
    · simp at hu; omega
  · rw [List.nodup_append]
    exact ⟨h.way.nodup, by simp, fun a ha b hb e => by simp at hb; subst hb; subst e; exact hvF ha⟩
  · rcases List.mem_append.1 hu with hu | hu
    · exact List.mem_append_left _ (h.way.closed u hu x hx)
    · simp at hu
      subst hu
      exact List.mem_append_left _ (hb x hx)
  · rcases List.mem_append.1 hu with hu | hu
    · exact hN P hP hp u hu
    · simp at hu; subst hu; exact hp
  · rw [hat u hu]
    split
    · rename_i e
      subst e
      exact ⟨fun h => by omega, fun h => by omega⟩
    · rename_i e
      rw [h.on u hu]
      exact ⟨fun h => h.resolve_right fun h => e h.symm, fun h => .inl h⟩

/-- The whole walk, behind k of those that it begins with. -/
structure Trip (bel : Nat → List Nat) (V : Nat) (first : List Nat) (k : Nat) (M : List Int) (F : List Nat) : Prop where
  way : Way bel V M F
  off : ∀ u, u ≤ V → at0 M u ≠ 1
  took : ∀ x ∈ first.take k, x ∈ F
  part : ∀ P : Nat → Prop, (∀ u, P u → ∀ x ∈ bel u, P x) → (∀ x ∈ first, P x) → ∀ u ∈ F, P u
theorem Trip.start (first : List Nat) : Trip bel V first 0 (List.replicate (V + 1) 0) [] :=
  ⟨⟨by simp, fun u _ => .inl (at0_zeros _ _), fun u _ => by rw [at0_zeros]; simp, by simp, by simp, by simp⟩, fun u _ => by rw [at0_zeros]; omega, by simp, by simp⟩
theorem Trip.above {first : List Nat} {k : Nat} (h : Trip bel V first k M F) (v : Nat) : Above bel V M v := fun r _ u hu h1 => absurd h1 (h.off u hu)
theorem Trip.step {first F' : List Nat} {M' : List Int} {k x : Nat} (h : Trip bel V first k M F) (hx : first[k]? = some x) (hg : Gone bel V M F M' F' x) : Trip bel V first (k + 1) M' F' := by
  obtain ⟨N, e, hN⟩ := hg.part
  refine ⟨hg.way, fun u hu h1 => h.off u hu ((hg.on u hu).1 h1), fun y hy => ?_, fun P hP hf u hu => ?_⟩
  · rw [take_some hx] at hy
    rcases List.mem_append.1 hy with hy | hy
    · rw [e]
      exact List.mem_append_left _ (h.took y hy)
    · simp at hy
      subst hy
      exact hg.here
  · rw [e] at hu
    rcases List.mem_append.1 hu with hu | hu
    · exact h.part P hP hf u hu
    · exact hN P hP (hf x (mem_of_some hx)) u hu
/-- What the walk leaves behind. -/
structure Whole (bel : Nat → List Nat) (V : Nat) (first F : List Nat) : Prop where
  le : ∀ u ∈ F, u ≤ V
  nodup : F.Nodup
  closed : ∀ u ∈ F, ∀ x ∈ bel u, x ∈ F
  all : ∀ x ∈ first, x ∈ F
  part : ∀ P : Nat → Prop, (∀ u, P u → ∀ x ∈ bel u, P x) → (∀ x ∈ first, P x) → ∀ u ∈ F, P u
theorem Trip.last {first : List Nat} {k : Nat} (h : Trip bel V first k M F) (hk : first.length ≤ k) : Whole bel V first F :=
  ⟨h.way.le, h.way.nodup, h.way.closed, fun x hx => h.took x (by rw [List.take_of_length_le hk]; exact hx), h.part⟩
end Go.Proofs.Ytchnpooijaalnaa
