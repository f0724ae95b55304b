/- Levels by definition, as plain lists: one round, all rounds, what is left (no condition); the bounds of what lies in them. -/
import Derived.Test.YtchnpooijaalnaaLevel
import Derived.Test.YtchnpooijaalnaaRefSound
import Derived.Test.YtchnpooijaalnaaOnce
namespace Go.Proofs.Ytchnpooijaalnaa
set_option linter.unusedVariables false

def putAll (L : List Int) (vs : List Int) (v : Int) : List Int := vs.foldl (fun L k => L.set k.toNat v) L
theorem putAll_nil (L : List Int) (v : Int) : putAll L [] v = L := rfl
theorem putAll_snoc (L vs : List Int) (u v : Int) : putAll L (vs ++ [u]) v = (putAll L vs v).set u.toNat v := by simp [putAll]
theorem putAll_len (vs : List Int) (v : Int) : ∀ L : List Int, (putAll L vs v).length = L.length := by
  induction vs with
  | nil => intro L; rfl
  | cons u vs ih => intro L; show (putAll (L.set u.toNat v) vs v).length = _; rw [ih, List.length_set]
theorem putAll_mem {L vs : List Int} {v l : Int} (h : l ∈ putAll L vs v) : l ∈ L ∨ l = v := by
  induction vs generalizing L with
  | nil => exact .inl h
  | cons u vs ih =>
    rcases ih (L := L.set u.toNat v) h with h1 | h1
    · exact List.mem_or_eq_of_mem_set h1
    · exact .inr h1
def lstep (L : List Int) (x : PNode) : List Int := putAll L x.nv (plevel L x)
def lround (D : List PNode) (L : List Int) : List Int := D.foldl lstep L
def leftN : List PNode → List Int → Nat
  | [], _ => 0
  | x :: D, L => (if plevel L x < 0 then 1 else 0) + leftN D (lstep L x)
def lrounds (D : List PNode) : Nat → List Int → List Int
  | 0, L => L
  | k + 1, L => lround D (lrounds D k L)
def lstart (V : Nat) (D : List PNode) : List Int := D.foldl (fun L x => putAll L x.nv (-1)) (List.replicate (V + 1) 0)
def pleft (D : List PNode) (L : List Int) : Nat → Nat
  | 0 => 0
  | r + 1 => leftN D (lrounds D r L)
def levelsOf (V : Nat) (D : List PNode) : Option (List Int) := if leftN D (lrounds D D.length (lstart V D)) = 0 then some (lrounds D (D.length + 1) (lstart V D)) else none
def PNet.levels (n : PNet) : Option (List Int) := if n.sound = 0 then levelsOf n.vars.toNat n.nodes else none

theorem lround_snoc (D : List PNode) (x : PNode) (L : List Int) : lround (D ++ [x]) L = lstep (lround D L) x := by simp [lround]
theorem leftN_snoc (D : List PNode) (x : PNode) : ∀ L, leftN (D ++ [x]) L = leftN D L + (if plevel (lround D L) x < 0 then 1 else 0) := by
  induction D with
  | nil => intro L; show (if plevel L x < 0 then 1 else 0) + 0 = 0 + (if plevel L x < 0 then 1 else 0); omega
  | cons y D ih =>
    intro L
    show (if plevel L y < 0 then 1 else 0) + leftN (D ++ [x]) (lstep L y) = (if plevel L y < 0 then 1 else 0) + leftN D (lstep L y) + (if plevel (lround D (lstep L y)) x < 0 then 1 else 0)
    rw [ih]
    omega
theorem leftN_le (D : List PNode) : ∀ L, leftN D L ≤ D.length := by
  induction D with
  | nil => intro L; exact Nat.le_refl _
  | cons y D ih =>
    intro L
    have := ih (lstep L y)
    unfold leftN
    simp only [List.length_cons]
    split <;> omega
theorem lstep_len (L : List Int) (x : PNode) : (lstep L x).length = L.length := putAll_len _ _ _
theorem lround_len (D : List PNode) : ∀ L, (lround D L).length = L.length := by
  induction D with
  | nil => intro L; rfl
  | cons y D ih => intro L; show (lround D (lstep L y)).length = _; rw [ih, lstep_len]
theorem lrounds_len (D : List PNode) (L : List Int) : ∀ k, (lrounds D k L).length = L.length
  | 0 => rfl
  | k + 1 => by rw [lrounds, lround_len, lrounds_len D L k]
theorem lstart_aux (D : List PNode) : ∀ L, (D.foldl (fun L x => putAll L x.nv (-1)) L).length = L.length := by
  induction D with
  | nil => intro L; rfl
  | cons y D ih => intro L; show (D.foldl _ (putAll L y.nv (-1))).length = _; rw [ih, putAll_len]
theorem lstart_len (V : Nat) (D : List PNode) : (lstart V D).length = V + 1 := by rw [lstart, lstart_aux, List.length_replicate]

/-- All levels between -1 and c. -/
def LB (c : Int) (L : List Int) : Prop := ∀ l ∈ L, -1 ≤ l ∧ l ≤ c
theorem LB.mono {c d : Int} {L : List Int} (h : LB c L) (hd : c ≤ d) : LB d L := fun l hl => ⟨(h l hl).1, by have := (h l hl).2; omega⟩
theorem LB.get {c : Int} {L : List Int} (h : LB c L) (hc : 0 ≤ c) (i : Nat) : -1 ≤ L.getD i 0 ∧ L.getD i 0 ≤ c := by
  rw [List.getD_eq_getElem?_getD]
  cases hi : L[i]? with
  | none => simp; exact hc
  | some l => exact h l (mem_of_some hi)
theorem lvl_bound {c : Int} {L : List Int} (h : LB c L) (hc : 0 ≤ c) (fs : List Int) : ∀ n, 0 ≤ n → n ≤ c → -1 ≤ lvl L n fs ∧ lvl L n fs ≤ c + 1 := by
  induction fs with
  | nil => intro n h0 h1; unfold lvl; omega
  | cons f fs ih =>
    intro n h0 h1
    have hg := h.get hc (f / 2).toNat
    unfold lvl
    split
    · omega
    · exact ih _ (by omega) (by omega)
theorem plevel_bound {c : Int} {L : List Int} (h : LB c L) (hc : 0 ≤ c) (x : PNode) : -1 ≤ plevel L x ∧ plevel L x ≤ c + 1 := lvl_bound h hc _ 0 (by omega) hc
theorem LB.put {c v : Int} {L : List Int} (h : LB c L) (vs : List Int) (h0 : -1 ≤ v) (h1 : v ≤ c) : LB c (putAll L vs v) := fun l hl => by
  rcases putAll_mem hl with h2 | rfl
  · exact h l h2
  · exact ⟨h0, h1⟩
theorem LB.step {c : Int} {L : List Int} (h : LB c L) (hc : 0 ≤ c) (x : PNode) : LB (c + 1) (lstep L x) :=
  (h.mono (by omega)).put _ (plevel_bound h hc x).1 (plevel_bound h hc x).2
theorem LB.round {D : List PNode} : ∀ {c : Int} {L : List Int}, LB c L → 0 ≤ c → LB (c + D.length) (lround D L) := by
  induction D with
  | nil => intro c L h hc; exact h.mono (by simp)
  | cons y D ih =>
    intro c L h hc
    have := ih (h.step hc y) (by omega)
    exact this.mono (by simp; omega)
theorem LB.rounds {D : List PNode} {c : Int} {L : List Int} (h : LB c L) (hc : 0 ≤ c) (k : Nat) : LB (c + ((k * D.length : Nat) : Int)) (lrounds D k L) := by
  induction k with
  | zero => exact h.mono (by omega)
  | succ k ih =>
    have := LB.round (D := D) ih (by omega)
    refine this.mono ?_
    rw [Nat.succ_mul]
    omega
theorem LB.start (V : Nat) (D : List PNode) : LB 0 (lstart V D) := by
  have : ∀ (D : List PNode) (L : List Int), LB 0 L → LB 0 (D.foldl (fun L x => putAll L x.nv (-1)) L) := by
    intro D
    induction D with
    | nil => intro L h; exact h
    | cons y D ih => intro L h; exact ih _ (h.put _ (by omega) (by omega))
  refine this D _ fun l hl => ?_
  rw [List.mem_replicate] at hl
  omega
/-- What lies in the row at any time. -/
theorem level_fits {V : Nat} {D : List PNode} (hD : D.length ≤ 10000) {r i : Nat} (hr : r ≤ D.length) (hi : i ≤ D.length) : LB 4000000000 (lround (D.take i) (lrounds D r (lstart V D))) := by
  have h1 := LB.round (D := D.take i) ((LB.start V D).rounds (D := D) (Int.le_refl _) r) (by omega)
  refine h1.mono ?_
  have h2 : r * D.length ≤ 10000 * 10000 := Nat.mul_le_mul (by omega) hD
  have h3 : (D.take i).length ≤ D.length := by rw [List.length_take]; omega
  omega

/-- Nodes of a sound netlist of V variables. -/
structure Good6 (V : Nat) (D : List PNode) : Prop where
  lits : ∀ x ∈ D, ∀ f ∈ x.nf, 0 ≤ f ∧ f < 2 * ((V : Int) + 1)
  vars : ∀ x ∈ D, ∀ v ∈ x.nv, 1 ≤ v ∧ v ≤ (V : Int)
  some : ∀ x ∈ D, x.nv ≠ []
  lens : ∀ x ∈ D, x.nf.length ≤ 1000 ∧ x.nv.length ≤ 1000
  once : (D.flatMap PNode.nv).Nodup

theorem andNodes_mem {x : PNode} : ∀ {l : List PAnd} {k : Nat}, x ∈ andNodes k l → ∃ a ∈ l, x.nf = [a.aa, a.ab] ∧ x.nv = [a.av]
  | [], _, h => by simp [andNodes] at h
  | a :: l, k, h => by
    rw [andNodes, List.mem_cons] at h
    rcases h with rfl | h
    · exact ⟨a, by simp, rfl, rfl⟩
    · obtain ⟨b, hb, h2⟩ := andNodes_mem h
      exact ⟨b, by simp [hb], h2⟩
theorem portNodes_mem {x : PNode} {w : Int} {i : Nat} : ∀ {l : List PRead} {k : Nat}, x ∈ portNodes w i k l → ∃ r ∈ l, x.nf = r.ra ∧ x.nv = dataL r.rv w
  | [], _, h => by simp [portNodes] at h
  | r :: l, k, h => by
    rw [portNodes, List.mem_cons] at h
    rcases h with rfl | h
    · exact ⟨r, by simp, rfl, rfl⟩
    · obtain ⟨b, hb, h2⟩ := portNodes_mem h
      exact ⟨b, by simp [hb], h2⟩
theorem memNodes_mem {x : PNode} : ∀ {l : List PMem} {i : Nat}, x ∈ memNodes i l → ∃ m ∈ l, ∃ r ∈ m.mr, x.nf = r.ra ∧ x.nv = dataL r.rv m.mw
  | [], _, h => by simp [memNodes] at h
  | m :: l, i, h => by
    rw [memNodes, List.mem_append] at h
    rcases h with h | h
    · obtain ⟨r, hr, h2⟩ := portNodes_mem h
      exact ⟨m, by simp, r, hr, h2⟩
    · obtain ⟨b, hb, h2⟩ := memNodes_mem h
      exact ⟨b, by simp [hb], h2⟩
theorem andNodes_vars : ∀ (l : List PAnd) (k : Nat), (andNodes k l).flatMap PNode.nv = l.map PAnd.av
  | [], _ => rfl
  | a :: l, k => by rw [andNodes, List.flatMap_cons, andNodes_vars l]; rfl
theorem portNodes_vars (w : Int) (i : Nat) : ∀ (l : List PRead) (k : Nat), (portNodes w i k l).flatMap PNode.nv = l.flatMap (fun r => dataL r.rv w)
  | [], _ => rfl
  | r :: l, k => by rw [portNodes, List.flatMap_cons, portNodes_vars w i l, List.flatMap_cons]
theorem memNodes_vars : ∀ (l : List PMem) (i : Nat), (memNodes i l).flatMap PNode.nv = l.flatMap PMem.data
  | [], _ => rfl
  | m :: l, i => by rw [memNodes, List.flatMap_append, memNodes_vars l, portNodes_vars, List.flatMap_cons]; rfl
theorem portNodes_len (w : Int) (i : Nat) : ∀ (l : List PRead) (k : Nat), (portNodes w i k l).length = l.length
  | [], _ => rfl
  | r :: l, k => by rw [portNodes, List.length_cons, portNodes_len w i l]; rfl
theorem andNodes_len : ∀ (l : List PAnd) (k : Nat), (andNodes k l).length = l.length
  | [], _ => rfl
  | r :: l, k => by rw [andNodes, List.length_cons, andNodes_len l]; rfl
theorem memNodes_len {K : Nat} : ∀ (l : List PMem) (i : Nat), (∀ m ∈ l, m.mr.length ≤ K) → (memNodes i l).length ≤ l.length * K
  | [], _, _ => by simp [memNodes]
  | m :: l, i, h => by
    rw [memNodes, List.length_append, portNodes_len, List.length_cons, Nat.succ_mul]
    have := memNodes_len l (i + 1) fun m hm => h m (by simp [hm])
    have := h m (by simp)
    omega
theorem nodes_len {n : PNet} (h : n.Within) : n.nodes.length ≤ 10000 := by
  unfold PNet.nodes
  rw [List.length_append, andNodes_len]
  have := memNodes_len n.mems 0 fun m hm => (h.ports m hm).1
  have := h.mems
  have := h.ands
  omega
theorem sound_parts {n : PNet} (h : n.sound = 0) : n.lim = false ∧ n.mems.any PMem.wide = false ∧ n.once = 0 ∧ n.loose = false := by
  unfold PNet.sound at h
  split at h
  · omega
  · rename_i h1
    split at h
    · omega
    · rename_i h2
      split at h
      · omega
      · split at h
        · rename_i h3; exact absurd h h3
        · rename_i h3
          split at h
          · omega
          · rename_i h4
            exact ⟨by simpa using h1, by simpa using h2, by simpa using h3, by simpa using h4⟩
theorem defs_of_once {n : PNet} (hv : 0 ≤ n.vars) (h : n.once = 0) : Good n.vars n.defs := by
  have hS : ∀ k, k ≤ n.defs.length → Sofar n k := by
    intro k
    induction k with
    | zero => intro _; exact Sofar.zero n
    | succ k ih =>
      intro hk
      have hs := ih (by omega)
      obtain ⟨x, hx⟩ := some_of_lt (show k < n.defs.length by omega)
      by_cases hb : x < 1 ∨ n.vars < x
      · have := hs.dangling hx hb; omega
      · by_cases hm : x ∈ n.defs.take k
        · have := hs.twice hx (by omega) (by omega) hm; omega
        · refine sofar_of (k + 1) hk ?_ ?_
          · rw [take_some hx]
            exact (Good.snoc (V := n.vars) ⟨hs.nodup, hs.inside⟩ (by omega) (by omega) hm).1
          · rw [take_some hx]
            exact (Good.snoc (V := n.vars) ⟨hs.nodup, hs.inside⟩ (by omega) (by omega) hm).2
  have := hS n.defs.length (Nat.le_refl _)
  exact ⟨by have := this.nodup; rwa [List.take_length] at this, by have := this.inside; rwa [List.take_length] at this⟩
theorem good6_of {n : PNet} (h : n.sound = 0) : n.Within ∧ (∀ m ∈ n.mems, m.Fit) ∧ Good6 n.vars.toNat n.nodes ∧ Good n.vars n.defs ∧ ∀ l ∈ n.lits, 0 ≤ l ∧ l ≤ 2 * n.vars + 1 := by
  obtain ⟨h1, h2, h3, h4⟩ := sound_parts h
  have hW := within_of h1
  have hF : ∀ m ∈ n.mems, m.Fit := fun m hm => fit_of (any_no h2 m hm)
  have hv := hW.vars
  have hG := defs_of_once hv.1 h3
  have hL : ∀ l ∈ n.lits, 0 ≤ l ∧ l ≤ 2 * n.vars + 1 := fun l hl => by
    have := any_no h4 l hl
    simp [outB] at this
    omega
  have hV : ((n.vars.toNat : Nat) : Int) = n.vars := by omega
  refine ⟨hW, hF, ⟨fun x hx f hf => ?_, fun x hx v hvv => ?_, fun x hx => ?_, fun x hx => ?_, ?_⟩, hG, hL⟩
  · rw [hV]
    have : f ∈ n.lits := by
      unfold PNet.nodes at hx
      rcases List.mem_append.1 hx with hx | hx
      · obtain ⟨a, ha, e, _⟩ := andNodes_mem hx
        rw [e] at hf
        exact List.mem_append_right _ (List.mem_flatMap.2 ⟨a, ha, hf⟩)
      · obtain ⟨m, hm, r, hr, e, _⟩ := memNodes_mem hx
        rw [e] at hf
        exact List.mem_append_left _ (List.mem_append_right _ (List.mem_flatMap.2 ⟨m, hm, List.mem_append_left _ (List.mem_flatMap.2 ⟨r, hr, hf⟩)⟩))
    have := hL f this
    omega
  · rw [hV]
    refine hG.2 v ?_
    unfold PNet.nodes at hx
    rcases List.mem_append.1 hx with hx | hx
    · obtain ⟨a, ha, _, e⟩ := andNodes_mem hx
      rw [e] at hvv
      simp at hvv
      subst hvv
      exact List.mem_append_right _ (List.mem_map.2 ⟨a, ha, rfl⟩)
    · obtain ⟨m, hm, r, hr, _, e⟩ := memNodes_mem hx
      rw [e] at hvv
      exact List.mem_append_left _ (List.mem_append_right _ (List.mem_flatMap.2 ⟨m, hm, List.mem_flatMap.2 ⟨r, hr, hvv⟩⟩))
  · unfold PNet.nodes at hx
    rcases List.mem_append.1 hx with hx | hx
    · obtain ⟨a, ha, _, e⟩ := andNodes_mem hx
      rw [e]; simp
    · obtain ⟨m, hm, r, hr, _, e⟩ := memNodes_mem hx
      intro h0
      rw [e] at h0
      have h5 := dataL_len r.rv m.mw
      rw [h0] at h5
      have := (hF m hm).word
      simp at h5
      omega
  · unfold PNet.nodes at hx
    rcases List.mem_append.1 hx with hx | hx
    · obtain ⟨a, ha, e, e2⟩ := andNodes_mem hx
      rw [e, e2]; simp
    · obtain ⟨m, hm, r, hr, e, e2⟩ := memNodes_mem hx
      rw [e, e2, dataL_len]
      have := (hF m hm).word
      have := (hF m hm).addr
      have := (hF m hm).reads r hr
      omega
  · have := hG.1
    unfold PNet.nodes
    rw [List.flatMap_append, andNodes_vars, memNodes_vars]
    unfold PNet.defs at this
    rw [List.append_assoc, List.append_assoc, List.nodup_append] at this
    have := this.2.1
    rw [List.nodup_append] at this
    have h5 := this.2.1
    exact (List.perm_append_comm.nodup_iff).1 h5
end Go.Proofs.Ytchnpooijaalnaa
