/- How long the lists of a netlist within its limits and widths can be (no condition). -/
import Derived.Test.YtchnpooijaalnaaRefLists
namespace Go.Proofs.Ytchnpooijaalnaa
set_option linter.unusedVariables false

theorem flat_len {α : Type} (l : List α) (f : α → List Int) (K : Nat) (h : ∀ x ∈ l, (f x).length ≤ K) : (l.flatMap f).length ≤ l.length * K := by
  induction l with
  | nil => simp
  | cons x l ih =>
    have h1 := h x (by simp)
    have h2 := ih fun y hy => h y (by simp [hy])
    simp only [List.flatMap_cons, List.length_append, List.length_cons, Nat.add_mul, Nat.one_mul]
    omega
theorem any_no {α : Type} {l : List α} {p : α → Bool} (h : l.any p = false) : ∀ x ∈ l, p x = false := fun x hx => by
  rw [List.any_eq_false] at h
  simpa using h x hx
structure PNet.Within (n : PNet) : Prop where
  vars : 0 ≤ n.vars ∧ n.vars ≤ 2000
  lits : n.outs.length + n.bads.length + n.cons.length ≤ 1000
  mems : n.mems.length ≤ 4
  ports : ∀ m ∈ n.mems, m.mr.length ≤ 4 ∧ m.mx.length ≤ 4
  inputs : n.inputs.length ≤ 2000
  latches : n.latches.length ≤ 2000
  ands : n.ands.length ≤ 2000
theorem within_of {n : PNet} (h : n.lim = false) : n.Within := by
  unfold PNet.lim at h
  simp only [Bool.or_eq_false_iff, decide_eq_false_iff_not] at h
  obtain ⟨⟨⟨⟨⟨⟨⟨h1, h2⟩, h3⟩, h4⟩, h5⟩, h6⟩, h7⟩, h8⟩ := h
  refine ⟨by omega, by omega, by omega, fun m hm => ?_, by omega, by omega, by omega⟩
  have := any_no h5 m hm
  simp [PMem.many] at this
  omega
structure PMem.Fit (m : PMem) : Prop where
  addr : 1 ≤ m.ma ∧ m.ma ≤ 62
  word : 1 ≤ m.mw ∧ m.mw ≤ 64
  reads : ∀ r ∈ m.mr, (r.ra.length : Int) = m.ma
  writes : ∀ x ∈ m.mx, (x.wa.length : Int) = m.ma ∧ (x.wd.length : Int) = m.mw
theorem fit_of {m : PMem} (h : m.wide = false) : m.Fit := by
  unfold PMem.wide at h
  simp only [Bool.or_eq_false_iff, decide_eq_false_iff_not] at h
  obtain ⟨⟨⟨⟨⟨h1, h2⟩, h3⟩, h4⟩, h5⟩, h6⟩ := h
  refine ⟨by omega, by omega, fun r hr => ?_, fun x hx => ?_⟩
  · have := any_no h5 r hr
    simpa [PRead.wide] using this
  · have := any_no h6 x hx
    simpa [PWrite.wide] using this
theorem defs_small {n : PNet} (h : n.Within) (hf : ∀ m ∈ n.mems, m.Fit) : n.defs.length ≤ 10000 := by
  have h1 := flat_len n.mems PMem.data 256 fun m hm => by
    have h2 := flat_len m.mr (fun r => dataL r.rv m.mw) 64 fun r hr => by rw [dataL_len]; have := (hf m hm).word; omega
    have h3 := (h.ports m hm).1
    unfold PMem.data
    omega
  have := h.mems
  have := h.inputs
  have := h.latches
  have := h.ands
  unfold PNet.defs
  simp only [List.length_append, List.length_map]
  omega
theorem lits_small {n : PNet} (h : n.Within) (hf : ∀ m ∈ n.mems, m.Fit) : n.lits.length ≤ 20000 := by
  have h1 := flat_len n.mems PMem.lits 1000 fun m hm => by
    have h2 := flat_len m.mr PRead.ra 62 fun r hr => by have := (hf m hm).reads r hr; have := (hf m hm).addr; omega
    have h4 := flat_len m.mx PWrite.lits 127 fun x hx => by
      have := (hf m hm).writes x hx
      have := (hf m hm).addr
      have := (hf m hm).word
      simp [PWrite.lits]
      omega
    have h3 := h.ports m hm
    unfold PMem.lits
    simp only [List.length_append]
    omega
  have h2 := flat_len n.ands PAnd.lits 2 fun x hx => by simp [PAnd.lits]
  have := h.mems
  have := h.lits
  have := h.latches
  have := h.ands
  unfold PNet.lits
  simp only [List.length_append, List.length_map]
  omega
theorem fits_lits {n : PNet} (h : n.fits) : ∀ x ∈ n.lits, I64 x := by
  intro x hx
  simp only [PNet.lits, List.mem_append, List.mem_map, List.mem_flatMap] at hx
  rcases hx with ((((⟨l, hl, rfl⟩ | hx) | hx) | hx) | ⟨m, hm, hx⟩) | ⟨a, ha, hx⟩
  · exact (h.latches l hl).2.1
  · exact h.outs x hx
  · exact h.bads x hx
  · exact h.cons x hx
  · simp only [PMem.lits, List.mem_append, List.mem_flatMap] at hx
    rcases hx with ⟨r, hr, hx⟩ | ⟨y, hy, hx⟩
    · exact ((h.mems m hm).2.2.1 r hr).2 x hx
    · have hw := (h.mems m hm).2.2.2 y hy
      simp only [PWrite.lits, List.mem_append, List.mem_cons, List.not_mem_nil, or_false] at hx
      rcases hx with (rfl | hx) | hx
      · exact hw.1
      · exact hw.2.1 x hx
      · exact hw.2.2 x hx
  · simp only [PAnd.lits, List.mem_cons, List.not_mem_nil, or_false] at hx
    rcases hx with rfl | rfl
    · exact (h.ands a ha).2.1
    · exact (h.ands a ha).2.2
/-- Ports begin near 0. -/
def PNet.near (n : PNet) : Prop := ∀ m ∈ n.mems, ∀ r ∈ m.mr, -2305843009213693952 ≤ r.rv ∧ r.rv ≤ 2305843009213693952
theorem told_of {n : PNet} (hn : n.near) (hf : ∀ m ∈ n.mems, m.Fit) : ∀ m ∈ n.mems, m.told := fun m hm => ⟨by have := (hf m hm).word; omega, (hf m hm).word.2, hn m hm⟩
theorem modest_of {n : PNet} (h : n.Within) : n.modest :=
  ⟨by have := h.inputs; omega, by have := h.latches; omega, by have := h.lits; omega, by have := h.lits; omega, by have := h.lits; omega, by have := h.mems; omega, by have := h.ands; omega, fun m hm => by have := h.ports m hm; omega⟩
end Go.Proofs.Ytchnpooijaalnaa
