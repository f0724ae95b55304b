/- Netlists as plain lists, and the plain answers of chapter 5: definitions, literals, what is wrong first (no condition). -/
import Derived.Test.YtchnpooijaalnaaSrc
namespace Go.Proofs.Ytchnpooijaalnaa
set_option linter.unusedVariables false

structure PLatch where
  lv : Int
  ln : Int
  li : Int
structure PAnd where
  av : Int
  aa : Int
  ab : Int
structure PRead where
  rv : Int
  ra : List Int
structure PWrite where
  wo : Int
  wa : List Int
  wd : List Int
structure PMem where
  ma : Int
  mw : Int
  mn : Bool
  mr : List PRead
  mx : List PWrite
structure PNet where
  vars : Int
  inputs : List Int
  latches : List PLatch
  outs : List Int
  bads : List Int
  cons : List Int
  mems : List PMem
  ands : List PAnd

/-- The data of a port that begins at v, of w bits. -/
def dataL (v w : Int) : List Int := (List.range w.toNat).map fun (i : Nat) => v + (i : Int)
theorem dataL_len (v w : Int) : (dataL v w).length = w.toNat := by simp [dataL]
theorem dataL_at {v w x : Int} {k : Nat} (h : (dataL v w)[k]? = some x) : x = v + (k : Int) ∧ (k : Int) < w := by
  have hk := lt_of_some h
  rw [dataL_len] at hk
  unfold dataL at h
  rw [List.getElem?_map, List.getElem?_range hk] at h
  simp at h
  exact ⟨h.symm, by omega⟩
theorem dataL_mem {v w x : Int} (h : x ∈ dataL v w) : v ≤ x ∧ x < v + w := by
  obtain ⟨k, hk⟩ := List.getElem?_of_mem h
  have := dataL_at hk
  omega
theorem dataL_snoc (v : Int) (k : Nat) : dataL v (((k + 1 : Nat) : Int)) = dataL v ((k : Nat) : Int) ++ [v + (k : Int)] := by
  unfold dataL
  simp only [Int.toNat_natCast, List.range_succ, List.map_append, List.map_cons, List.map_nil]
theorem dataL_nil (v w : Int) (h : w ≤ 0) : dataL v w = [] := by
  unfold dataL
  rw [show w.toNat = 0 from by omega]
  rfl

def PMem.data (m : PMem) : List Int := m.mr.flatMap fun r => dataL r.rv m.mw
def PNet.defs (n : PNet) : List Int := n.inputs ++ n.latches.map PLatch.lv ++ n.mems.flatMap PMem.data ++ n.ands.map PAnd.av
def PWrite.lits (x : PWrite) : List Int := [x.wo] ++ x.wa ++ x.wd
def PMem.lits (m : PMem) : List Int := m.mr.flatMap PRead.ra ++ m.mx.flatMap PWrite.lits
def PAnd.lits (x : PAnd) : List Int := [x.aa, x.ab]
def PNet.lits (n : PNet) : List Int := n.latches.map PLatch.ln ++ n.outs ++ n.bads ++ n.cons ++ n.mems.flatMap PMem.lits ++ n.ands.flatMap PAnd.lits

/-- More than may be. -/
def PMem.many (m : PMem) : Bool := decide (4 < m.mr.length) || decide (4 < m.mx.length)
def PNet.lim (n : PNet) : Bool :=
  decide (n.vars < 0) || decide (2000 < n.vars) || decide (1000 < n.outs.length + n.bads.length + n.cons.length) || decide (4 < n.mems.length) || n.mems.any PMem.many ||
    decide (2000 < n.inputs.length) || decide (2000 < n.latches.length) || decide (2000 < n.ands.length)
/-- A width that can't be, or is another one. -/
def PRead.wide (a : Int) (r : PRead) : Bool := decide ((r.ra.length : Int) ≠ a)
def PWrite.wide (a d : Int) (x : PWrite) : Bool := decide ((x.wa.length : Int) ≠ a) || decide ((x.wd.length : Int) ≠ d)
def PMem.wide (m : PMem) : Bool :=
  decide (m.ma < 1) || decide (62 < m.ma) || decide (m.mw < 1) || decide (64 < m.mw) || m.mr.any (PRead.wide m.ma) || m.mx.any (PWrite.wide m.ma m.mw)
def PLatch.wrong (l : PLatch) : Bool := decide (l.li < 0) || decide (2 < l.li)

/-- What is wrong with definitions, those of 'seen' ahead. -/
def defsGo (vars : Int) : List Int → List Int → Int
  | [], seen => if (seen.length : Int) < vars then 7 else 0
  | x :: l, seen => if x < 1 ∨ vars < x then 5 else if x ∈ seen then 6 else defsGo vars l (seen ++ [x])
def PNet.once (n : PNet) : Int := defsGo n.vars n.defs []
def outB (vars x : Int) : Bool := decide (x < 0) || decide (2 * vars + 1 < x)
def PNet.loose (n : PNet) : Bool := n.lits.any (outB n.vars)

/-- What is wrong with a netlist first. -/
def PNet.sound (n : PNet) : Int :=
  if n.lim = true then 10 else if n.mems.any PMem.wide = true then 9 else if n.latches.any PLatch.wrong = true then 1 else
  if n.once ≠ 0 then n.once else if n.loose = true then 5 else 0

def I64 (x : Int) : Prop := -9223372036854775808 ≤ x ∧ x < 9223372036854775808
def PLatch.fits (l : PLatch) : Prop := I64 l.lv ∧ I64 l.ln ∧ I64 l.li
def PAnd.fits (x : PAnd) : Prop := I64 x.av ∧ I64 x.aa ∧ I64 x.ab
def PRead.fits (r : PRead) : Prop := I64 r.rv ∧ ∀ x ∈ r.ra, I64 x
def PWrite.fits (x : PWrite) : Prop := I64 x.wo ∧ (∀ y ∈ x.wa, I64 y) ∧ ∀ y ∈ x.wd, I64 y
def PMem.fits (m : PMem) : Prop := I64 m.ma ∧ I64 m.mw ∧ (∀ r ∈ m.mr, r.fits) ∧ ∀ x ∈ m.mx, x.fits
/-- All numbers are int's. -/
structure PNet.fits (n : PNet) : Prop where
  vars : I64 n.vars
  inputs : ∀ x ∈ n.inputs, I64 x
  latches : ∀ x ∈ n.latches, x.fits
  outs : ∀ x ∈ n.outs, I64 x
  bads : ∀ x ∈ n.bads, I64 x
  cons : ∀ x ∈ n.cons, I64 x
  mems : ∀ x ∈ n.mems, x.fits
  ands : ∀ x ∈ n.ands, x.fits
end Go.Proofs.Ytchnpooijaalnaa
