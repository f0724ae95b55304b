/- Numbers from 1 to V, each once: how many there are (no condition); marks in a row of bools. -/
import Derived.Test.YtchnpooijaalnaaPNet
import Derived.WalkKit
import Derived.Laws.MakeOwn
namespace Go.Proofs.Ytchnpooijaalnaa
open Go.RowKit
set_option linter.unusedVariables false

theorem once_le (V : Nat) : ∀ l : List Int, l.Nodup → (∀ x ∈ l, 1 ≤ x ∧ x ≤ (V : Int)) → l.length ≤ V := by
  induction V with
  | zero =>
    intro l _ h
    cases l with
    | nil => simp
    | cons x l => have := h x (by simp); omega
  | succ V ih =>
    intro l hn h
    have h1 := ih (l.erase ((V + 1 : Nat) : Int)) (hn.erase _) fun x hx => by
      have hm := hn.mem_erase_iff.1 hx
      have := h x hm.2
      have := hm.1
      omega
    have h2 := List.length_erase (a := ((V + 1 : Nat) : Int)) (l := l)
    split at h2 <;> omega
theorem once_lt (V : Nat) (l : List Int) (v : Int) (hn : l.Nodup) (h : ∀ x ∈ l, 1 ≤ x ∧ x ≤ (V : Int)) (h1 : 1 ≤ v) (h2 : v ≤ (V : Int)) (hv : v ∉ l) : l.length < V := by
  have := once_le V (v :: l) (List.nodup_cons.2 ⟨hv, hn⟩) fun x hx => by
    rcases List.mem_cons.1 hx with rfl | hx
    · exact ⟨h1, h2⟩
    · exact h x hx
  simp at this
  omega
theorem once_ge (V : Nat) : ∀ l : List Int, (∀ v : Int, 1 ≤ v → v ≤ (V : Int) → v ∈ l) → V ≤ l.length := by
  induction V with
  | zero => intro l _; simp
  | succ V ih =>
    intro l h
    have hm := h ((V + 1 : Nat) : Int) (by omega) (by omega)
    have h1 := ih (l.erase ((V + 1 : Nat) : Int)) fun v hv1 hv2 => by
      rw [List.mem_erase_of_ne (by omega)]
      exact h v hv1 (by omega)
    have h2 := List.length_erase_of_mem hm
    have h3 : 0 < l.length := List.length_pos_of_mem hm
    omega

/-- What is left of the search for a fault in definitions: the ones that are over are right, each once. -/
structure Sofar (n : PNet) (k : Nat) : Prop where
  go : defsGo n.vars (n.defs.drop k) (n.defs.take k) = n.once
  inside : ∀ x ∈ n.defs.take k, 1 ≤ x ∧ x ≤ n.vars
  nodup : (n.defs.take k).Nodup
theorem Sofar.zero (n : PNet) : Sofar n 0 := ⟨rfl, by simp, by simp⟩
theorem Sofar.dangling {n : PNet} {k : Nat} {x : Int} (h : Sofar n k) (hx : n.defs[k]? = some x) (hb : x < 1 ∨ n.vars < x) : n.once = 5 := by
  rw [← h.go, drop_some hx]
  unfold defsGo
  rw [if_pos hb]
theorem Sofar.twice {n : PNet} {k : Nat} {x : Int} (h : Sofar n k) (hx : n.defs[k]? = some x) (h1 : 1 ≤ x) (h2 : x ≤ n.vars) (hm : x ∈ n.defs.take k) : n.once = 6 := by
  rw [← h.go, drop_some hx]
  unfold defsGo
  rw [if_neg (by omega), if_pos hm]
theorem Sofar.next {n : PNet} {k : Nat} {x : Int} (h : Sofar n k) (hx : n.defs[k]? = some x) (h1 : 1 ≤ x) (h2 : x ≤ n.vars) (hm : x ∉ n.defs.take k) : Sofar n (k + 1) := by
  refine ⟨?_, ?_, ?_⟩
  · rw [← h.go, drop_some hx, take_some hx]
    conv => rhs; unfold defsGo
    rw [if_neg (by omega), if_neg hm]
  · rw [take_some hx]
    intro y hy
    rcases List.mem_append.1 hy with hy | hy
    · exact h.inside y hy
    · simp at hy; subst hy; exact ⟨h1, h2⟩
  · rw [take_some hx, List.nodup_append]
    refine ⟨h.nodup, by simp, fun a ha b hb e => ?_⟩
    simp at hb
    subst hb
    subst e
    exact hm ha
theorem Sofar.done {n : PNet} {k : Nat} (h : Sofar n k) (hk : ¬ k < n.defs.length) : n.once = (if (n.defs.length : Int) < n.vars then 7 else 0) ∧ n.defs.Nodup ∧ ∀ x ∈ n.defs, 1 ≤ x ∧ x ≤ n.vars := by
  have h1 := h.go
  have h2 := h.inside
  have h3 := h.nodup
  rw [List.take_of_length_le (by omega)] at h1 h2 h3
  rw [List.drop_eq_nil_of_le (by omega)] at h1
  exact ⟨h1.symm, h3, h2⟩
theorem missing_yes {n : PNet} {v : Int} (hn : n.defs.Nodup) (h : ∀ x ∈ n.defs, 1 ≤ x ∧ x ≤ n.vars) (h1 : 1 ≤ v) (h2 : v ≤ n.vars) (hv : v ∉ n.defs) : (n.defs.length : Int) < n.vars := by
  have := once_lt n.vars.toNat n.defs v hn (fun x hx => by have := h x hx; omega) h1 (by omega) hv
  omega
theorem missing_no {n : PNet} (h : ∀ v : Int, 1 ≤ v → v ≤ n.vars → v ∈ n.defs) : ¬ (n.defs.length : Int) < n.vars := by
  have := once_ge n.vars.toNat n.defs fun v h1 h2 => h v h1 (by omega)
  omega

theorem sofar_of {n : PNet} : ∀ k, k ≤ n.defs.length → (n.defs.take k).Nodup → (∀ x ∈ n.defs.take k, 1 ≤ x ∧ x ≤ n.vars) → Sofar n k := by
  intro k
  induction k with
  | zero => intro _ _ _; exact Sofar.zero n
  | succ k ih =>
    intro hk h1 h2
    obtain ⟨x, hx⟩ := some_of_lt (show k < n.defs.length by omega)
    rw [take_some hx] at h1 h2
    rw [List.nodup_append] at h1
    have hr := h2 x (by simp)
    exact (ih (by omega) h1.1 fun y hy => h2 y (by simp [hy])).next hx hr.1 hr.2 fun hm => h1.2.2 x hm x (by simp) rfl
/-- Numbers from 1 to V, each once. -/
def Good (V : Int) (l : List Int) : Prop := l.Nodup ∧ ∀ x ∈ l, 1 ≤ x ∧ x ≤ V
theorem Good.snoc {V x : Int} {l : List Int} (h : Good V l) (h1 : 1 ≤ x) (h2 : x ≤ V) (hx : x ∉ l) : Good V (l ++ [x]) := by
  refine ⟨?_, fun y hy => ?_⟩
  · rw [List.nodup_append]
    refine ⟨h.1, by simp, fun a ha b hb e => ?_⟩
    simp at hb
    subst hb
    subst e
    exact hx ha
  · rcases List.mem_append.1 hy with hy | hy
    · exact h.2 y hy
    · simp at hy; subst hy; exact ⟨h1, h2⟩
theorem Good.len {V : Int} {l : List Int} (h : Good V l) (hV : 0 ≤ V) : (l.length : Int) ≤ V := by
  have := once_le V.toNat l h.1 fun x hx => by have := h.2 x hx; omega
  omega
theorem good_all {n : PNet} (h : Good n.vars n.defs) : n.once = if (n.defs.length : Int) < n.vars then 7 else 0 := by
  have h3 := (sofar_of n.defs.length (Nat.le_refl _) (by rw [List.take_length]; exact h.1) (by rw [List.take_length]; exact h.2)).done (by omega)
  exact h3.1
theorem good_part {n : PNet} {ini : List Int} {x : Int} (h : Good n.vars ini) (hp : ini ++ [x] <+: n.defs) :
    ((x < 1 ∨ n.vars < x) → n.once = 5) ∧ (1 ≤ x → x ≤ n.vars → x ∈ ini → n.once = 6) := by
  obtain ⟨T, hT⟩ := hp
  have ht : n.defs.take ini.length = ini := by rw [← hT]; simp
  have hx : n.defs[ini.length]? = some x := by rw [← hT]; simp
  have hl := lt_of_some hx
  have hS := sofar_of (n := n) ini.length (by omega) (by rw [ht]; exact h.1) (by rw [ht]; exact h.2)
  exact ⟨fun hb => hS.dangling hx hb, fun h1 h2 hm => hS.twice hx h1 h2 (by rw [ht]; exact hm)⟩

/-- A row of N marks, at the numbers that were seen. -/
def Marked (w : World) (g N : Nat) (seen : List Int) : Prop :=
  ∃ C : Array Value, w.heap[g]? = some (.cells C 4 (0, 0)) ∧ C.size = N ∧ ∀ i, i < N → C[i]? = some (.bool (decide ((i : Int) ∈ seen)))
theorem Marked.cell {w : World} {g N i : Nat} {seen : List Int} (h : Marked w g N seen) (hi : i < N) : w.cell? ⟨g, i, none⟩ = some (.bool (decide ((i : Int) ∈ seen))) := by
  obtain ⟨C, h1, _, h3⟩ := h
  rw [cell_of_row w g i C 4 (0, 0) h1]
  exact h3 i hi
theorem Marked.free {w : World} {g N : Nat} {seen : List Int} (h : Marked w g N seen) (i : Nat) : w.frozen? ⟨g, i, none⟩ = false := by
  obtain ⟨C, h1, _, h3⟩ := h
  exact frozen_of_row w g i C 4 h1
theorem Marked.lt {w : World} {g N : Nat} {seen : List Int} (h : Marked w g N seen) : g < w.heap.size := by
  obtain ⟨C, h1, _⟩ := h
  exact lt_of_row h1
theorem Marked.same {w w' : World} {g N : Nat} {seen : List Int} (h : Marked w g N seen) (hg : w'.heap[g]? = w.heap[g]?) : Marked w' g N seen := by
  obtain ⟨C, h1, h2⟩ := h
  exact ⟨C, hg.trans h1, h2⟩
theorem Marked.set {w : World} {g N x : Nat} {seen : List Int} (h : Marked w g N seen) (hx : x < N) : Marked (w.setCell ⟨g, x, none⟩ (.bool true)) g N (seen ++ [(x : Int)]) := by
  obtain ⟨C, h1, h2, h3⟩ := h
  refine ⟨C.setIfInBounds x (.bool true), heap_setCell_same w g x C 4 _ h1, by simp [h2], fun i hi => ?_⟩
  rw [Array.getElem?_setIfInBounds]
  by_cases e : x = i
  · subst e
    rw [if_pos rfl, if_pos (by omega)]
    simp
  · rw [if_neg e, h3 i hi]
    have : ¬ (i : Int) = (x : Int) := by omega
    simp [this]
theorem Marked.new (w : World) (N : Nat) : Marked (w.alloc (.cells (madeCells #[.bool false] N) 4)) w.heap.size N [] := by
  refine ⟨_, heap_alloc_new w _, size_madeCells _ _, fun i hi => ?_⟩
  simp [madeCells, hi, Nat.mod_one]
theorem bool_info : (Try.prog.info? 4).map (fun i => (i.zero, i.size, i.bytes)) = some (some (.bool false), 1, 1) := by kernel_rfl
theorem run_marks (v : Int) (h0 : 0 ≤ v) (h1 : v ≤ 1000000) (w : World) :
    (Instr.makeSlice 48 (.int .i64 (v + 1)) (.int .i64 (v + 1))).run Try.prog w = .ok (.slice (some ⟨w.heap.size, 0, none⟩) (v.toNat + 1) (v.toNat + 1)) (w.alloc (.cells (madeCells #[.bool false] (v.toNat + 1)) 4)) := by
  obtain ⟨i, hi, hz, hs, hb⟩ := info_parts bool_info
  have := run_make (P := Try.prog) w 48 4 i (.bool false) Try.underlying48 hi hz .i64 .i64 (v + 1) (v + 1) (by omega) (Int.le_refl _) (by rw [hb]; omega) (by omega)
  rw [this, hs, show (v + 1).toNat = v.toNat + 1 from by omega, Nat.mul_one]
  rfl
end Go.Proofs.Ytchnpooijaalnaa
