/- Plain facts on lists of numbers: what is left of a rising list when each number is kept once is what insertion, each once, makes of any list with the same numbers. No condition but those that each theorem names. -/
namespace Go.Proofs.Ytcaaicodnkdclaa

/-- What follows x in a list, each run of one number kept once. -/
def ddGo (x : Int) : List Int → List Int
  | [] => []
  | y :: l => if y = x then ddGo x l else y :: ddGo y l
def dd : List Int → List Int
  | [] => []
  | x :: l => x :: ddGo x l
/-- Insertion, each once. -/
def ins (x : Int) : List Int → List Int
  | [] => [x]
  | y :: l => if y < x then y :: ins x l else if y = x then y :: l else x :: y :: l
def isort (l : List Int) : List Int := l.foldl (fun out x => ins x out) []

theorem drop_at (l : List Int) (k : Nat) (h : k < l.length) : l.drop k = l.getD k 0 :: l.drop (k + 1) := by
  rw [List.drop_eq_getElem_cons h]; simp [List.getD, List.getElem?_eq_getElem h]
theorem ddGo_same (x : Int) (s : List Int) (k : Nat) (h : k < s.length) (e : s.getD k 0 = x) : ddGo x (s.drop k) = ddGo x (s.drop (k + 1)) := by
  rw [drop_at s k h, e]; simp [ddGo]
theorem ddGo_other (x : Int) (s : List Int) (k : Nat) (h : k < s.length) (e : s.getD k 0 ≠ x) : ddGo x (s.drop k) = dd (s.drop k) := by
  rw [drop_at s k h]; simp only [ddGo, dd]; rw [if_neg e]
theorem dd_at (s : List Int) (k : Nat) (h : k < s.length) : dd (s.drop k) = s.getD k 0 :: ddGo (s.getD k 0) (s.drop k) := by
  rw [drop_at s k h]; simp [ddGo, dd]

theorem ddGo_mem (l : List Int) : ∀ (x : Int), (x :: l).Pairwise (· ≤ ·) → ∀ y, y ∈ ddGo x l ↔ (y ∈ l ∧ y ≠ x) := by
  induction l with
  | nil => intro x _ y; simp [ddGo]
  | cons z l ih =>
    intro x hp y
    rw [List.pairwise_cons] at hp
    have hp2 := hp.2
    rw [List.pairwise_cons] at hp2
    unfold ddGo
    by_cases hz : z = x
    · subst hz
      rw [if_pos rfl, ih z (by rw [List.pairwise_cons]; exact hp2) y]
      simp
      intro h1 h2; exact absurd h2 h1
    · have hzx : x < z := by have := hp.1 z (by simp); omega
      rw [if_neg hz, List.mem_cons, ih z (by rw [List.pairwise_cons]; exact hp2) y]
      constructor
      · rintro (h | ⟨h1, h2⟩)
        · subst h; exact ⟨by simp, by omega⟩
        · have := hp2.1 y h1; exact ⟨by simp [h1], by omega⟩
      · rintro ⟨h1, h2⟩
        by_cases h3 : y = z
        · exact Or.inl h3
        · rcases List.mem_cons.1 h1 with h4 | h4
          · exact Or.inl h4
          · exact Or.inr ⟨h4, h3⟩
theorem ddGo_strict (l : List Int) : ∀ (x : Int), (x :: l).Pairwise (· ≤ ·) → (x :: ddGo x l).Pairwise (· < ·) := by
  induction l with
  | nil => intro x _; simp [ddGo]
  | cons z l ih =>
    intro x hp
    rw [List.pairwise_cons] at hp
    have hp2 := hp.2
    rw [List.pairwise_cons] at hp2
    unfold ddGo
    by_cases hz : z = x
    · subst hz
      rw [if_pos rfl]
      exact ih z (by rw [List.pairwise_cons]; exact hp2)
    · have hzx : x < z := by have := hp.1 z (by simp); omega
      rw [if_neg hz, List.pairwise_cons]
      have h := ih z (by rw [List.pairwise_cons]; exact hp2)
      refine ⟨fun y hy => ?_, h⟩
      rcases List.mem_cons.1 hy with h4 | h4
      · omega
      · have := (List.pairwise_cons.1 h).1 y h4; omega
theorem dd_strict (s : List Int) (h : s.Pairwise (· ≤ ·)) : (dd s).Pairwise (· < ·) := by
  cases s with
  | nil => simp [dd]
  | cons x l => exact ddGo_strict l x h
theorem dd_mem (s : List Int) (h : s.Pairwise (· ≤ ·)) (y : Int) : y ∈ dd s ↔ y ∈ s := by
  cases s with
  | nil => simp [dd]
  | cons x l =>
    simp only [dd, List.mem_cons]
    rw [ddGo_mem l x h]
    by_cases hy : y = x <;> simp [hy]

theorem ins_mem (x : Int) (l : List Int) (y : Int) : y ∈ ins x l ↔ (y = x ∨ y ∈ l) := by
  induction l with
  | nil => simp [ins]
  | cons z l ih =>
    unfold ins
    by_cases h1 : z < x
    · rw [if_pos h1, List.mem_cons, ih, List.mem_cons]
      constructor
      · rintro (h | h | h) <;> simp [h]
      · rintro (h | h | h) <;> simp [h]
    · rw [if_neg h1]
      by_cases h2 : z = x
      · rw [if_pos h2]; subst h2; simp
      · rw [if_neg h2]; simp
theorem ins_strict (x : Int) (l : List Int) (h : l.Pairwise (· < ·)) : (ins x l).Pairwise (· < ·) := by
  induction l with
  | nil => simp [ins]
  | cons z l ih =>
    have hp := List.pairwise_cons.1 h
    unfold ins
    by_cases h1 : z < x
    · rw [if_pos h1, List.pairwise_cons]
      refine ⟨fun y hy => ?_, ih hp.2⟩
      rcases (ins_mem x l y).1 hy with h4 | h4
      · omega
      · exact hp.1 y h4
    · rw [if_neg h1]
      by_cases h2 : z = x
      · rw [if_pos h2]; exact h
      · rw [if_neg h2, List.pairwise_cons]
        refine ⟨fun y hy => ?_, h⟩
        rcases List.mem_cons.1 hy with h4 | h4
        · omega
        · have := hp.1 y h4; omega
theorem ins_fold (l : List Int) : ∀ out : List Int, out.Pairwise (· < ·) → (l.foldl (fun out x => ins x out) out).Pairwise (· < ·) ∧ ∀ y, y ∈ l.foldl (fun out x => ins x out) out ↔ (y ∈ l ∨ y ∈ out) := by
  induction l with
  | nil => intro out h; exact ⟨h, by simp⟩
  | cons x l ih =>
    intro out h
    have h2 := ih (ins x out) (ins_strict x out h)
    refine ⟨h2.1, fun y => ?_⟩
    have h3 := h2.2 y
    rw [List.foldl_cons, h3, ins_mem, List.mem_cons]
    constructor
    · rintro (h | h | h) <;> simp [h]
    · rintro ((h | h) | h) <;> simp [h]
theorem isort_strict (l : List Int) : (isort l).Pairwise (· < ·) := (ins_fold l [] (by simp)).1
theorem isort_mem (l : List Int) (y : Int) : y ∈ isort l ↔ y ∈ l := by have := (ins_fold l [] (by simp)).2 y; unfold isort; simpa using this
theorem isort_snoc (l : List Int) (x : Int) : isort (l ++ [x]) = ins x (isort l) := by
  unfold isort; rw [List.foldl_append]; rfl

theorem strict_ext (l : List Int) : ∀ m : List Int, l.Pairwise (· < ·) → m.Pairwise (· < ·) → (∀ y, y ∈ l ↔ y ∈ m) → l = m := by
  induction l with
  | nil =>
    intro m _ _ h
    cases m with
    | nil => rfl
    | cons z m => have := (h z).2 (by simp); simp at this
  | cons x l ih =>
    intro m hl hm h
    cases m with
    | nil => have := (h x).1 (by simp); simp at this
    | cons z m =>
      have pl := List.pairwise_cons.1 hl
      have pm := List.pairwise_cons.1 hm
      have e : x = z := by
        have a1 := (h x).1 (by simp)
        have a2 := (h z).2 (by simp)
        rcases List.mem_cons.1 a1 with b1 | b1
        · exact b1
        · rcases List.mem_cons.1 a2 with b2 | b2
          · exact b2.symm
          · have c1 := pm.1 x b1
            have c2 := pl.1 z b2
            omega
      subst e
      rw [ih m pl.2 pm.2 fun y => ?_]
      have hy := h y
      simp only [List.mem_cons] at hy
      constructor
      · intro h1
        have := pl.1 y h1
        rcases hy.1 (Or.inr h1) with h2 | h2
        · omega
        · exact h2
      · intro h1
        have := pm.1 y h1
        rcases hy.2 (Or.inr h1) with h2 | h2
        · omega
        · exact h2

theorem merge_sorted (xs : List Int) : (xs.mergeSort fun x y => decide (x ≤ y)).Pairwise (· ≤ ·) := by
  have h := List.pairwise_mergeSort (le := fun x y : Int => decide (x ≤ y)) (fun a b c h1 h2 => by simp at *; omega) (fun a b => by simp; omega) xs
  exact h.imp fun h => by simpa using h
theorem dd_isort (xs : List Int) : dd (xs.mergeSort fun x y => decide (x ≤ y)) = isort xs :=
  strict_ext _ _ (dd_strict _ (merge_sorted xs)) (isort_strict xs) fun y => by
    rw [dd_mem _ (merge_sorted xs), isort_mem, List.mem_mergeSort]

theorem ins_len (x : Int) (l : List Int) : (ins x l).length ≤ l.length + 1 := by
  induction l with
  | nil => simp [ins]
  | cons z l ih =>
    unfold ins
    by_cases h1 : z < x
    · rw [if_pos h1]; simp; exact ih
    · rw [if_neg h1]
      by_cases h2 : z = x
      · rw [if_pos h2]; omega
      · rw [if_neg h2]; simp
theorem ins_fold_len (l : List Int) : ∀ out : List Int, (l.foldl (fun out x => ins x out) out).length ≤ l.length + out.length := by
  induction l with
  | nil => intro out; simp
  | cons x l ih => intro out; have h1 := ih (ins x out); have h2 := ins_len x out; simp only [List.foldl_cons, List.length_cons]; omega
theorem isort_len (l : List Int) : (isort l).length ≤ l.length := by have := ins_fold_len l []; unfold isort; simpa using this
/-- The place k up to which all are below x. -/
theorem ins_step (x : Int) (out : List Int) (k : Nat) (h : k < out.length) (e : out.getD k 0 < x) : out.take k ++ ins x (out.drop k) = out.take (k + 1) ++ ins x (out.drop (k + 1)) := by
  have ht : out.take (k + 1) = out.take k ++ [out.getD k 0] := by
    rw [List.take_add_one, List.getElem?_eq_getElem h]; simp [List.getD, List.getElem?_eq_getElem h]
  rw [drop_at out k h, ins, if_pos e, ht, List.append_assoc]
  rfl
theorem ins_end (x : Int) (out : List Int) : out.take out.length ++ ins x (out.drop out.length) = out.take out.length ++ x :: out.drop out.length := by
  simp [ins]
theorem ins_there (x : Int) (out : List Int) (k : Nat) (h : k < out.length) (e : out.getD k 0 = x) : out.take k ++ ins x (out.drop k) = out := by
  rw [drop_at out k h, ins, if_neg (by omega), if_pos e, ← drop_at out k h, List.take_append_drop]
theorem ins_here (x : Int) (out : List Int) (k : Nat) (h : k < out.length) (e1 : ¬ out.getD k 0 < x) (e2 : out.getD k 0 ≠ x) : out.take k ++ ins x (out.drop k) = out.take k ++ x :: out.drop k := by
  rw [drop_at out k h, ins, if_neg e1, if_neg e2]

end Go.Proofs.Ytcaaicodnkdclaa
