/- The laws' arguments as cells: bytes, and a list of acts; the three calls that read, as each law of this layer meets them (conditions: the arguments can be read). -/
import Derived.Test.YtffidpbhlfbmhaaNew
import Derived.Test.YtffidpbhlfbmhaaLaw
import Derived.Deep.Slices
import Derived.Deep.Strs
import Derived.ChangeSlices
namespace Go.Proofs.Ytffidpbhlfbmhaa
open Go.ChangeShapes Go.WideShapes Go.RowKit
set_option linter.unusedVariables false

/-- The act number i lies where the list begins. -/
def ActAt (w : World) (b o i : Nat) (k : Int) (s : ByteArray) (m : Int) : Prop :=
  w.cell? ⟨b, o + i * 3, none⟩ = some (.int .i64 k) ∧ w.cell? ⟨b, o + i * 3 + 1, none⟩ = some (.string s) ∧ w.cell? ⟨b, o + i * 3 + 2, none⟩ = some (.int .i64 m) ∧
    s.size ≤ 9223372036854775807 ∧ -9223372036854775808 ≤ m ∧ m < 9223372036854775808
/-- A list of n acts. -/
def Acts (w : World) (a : Option Addr) (n : Nat) : Prop := 0 < n → ∃ b o, a = some ⟨b, o, none⟩ ∧ b < w.heap.size ∧ ∀ i, i < n → ∃ k s m, ActAt w b o i k s m

theorem cells_act : Try.prog.cellsOf 31 = 3 := by kernel_rfl
theorem cells_int : Try.prog.cellsOf 3 = 1 := by kernel_rfl
theorem cells_string : Try.prog.cellsOf 9 = 1 := by kernel_rfl

theorem open_acts {H : Type} {enc : TypeId × Value → H} {w : World} {fuel : Nat} {a : Option Addr} {n c : Nat} {x : DataW H × List MemPlace} (h : DataW.trod enc Try.prog w 0 (fun _ => true) true fuel 23 [.slice a n c] = some x) : Acts w a n ∧ n ≤ c ∧ c ≤ 9223372036854775807 := by
  rcases Go.Deep.open_slice Try.underlying23 h with ⟨h1, _⟩ | ⟨ad, len, cap, m, fu, D, Pl, hcs, _, hlc, hcm, hm, _, hx⟩
  · simp at h1
    obtain ⟨rfl, rfl, rfl⟩ := h1
    exact ⟨fun h => absurd h (by omega), by omega, by omega⟩
  · simp at hcs
    obtain ⟨rfl, rfl, rfl⟩ := hcs
    refine ⟨fun h0 => ?_, hlc, by unfold maxLen at hcm; omega⟩
    have key : ∀ i, i < n → ∃ k s m, w.cell? ((ad.add (i * 3)).add 0) = some (.int .i64 k) ∧ w.cell? ((ad.add (i * 3)).add 1) = some (.string s) ∧ w.cell? ((ad.add (i * 3)).add 2) = some (.int .i64 m) ∧ s.size ≤ 9223372036854775807 ∧ -9223372036854775808 ≤ m ∧ m < 9223372036854775808 := by
      intro i hi
      obtain ⟨cs, hc1, hc2⟩ := hx i (by rw [hm]; simp only [if_true]; omega)
      rw [cells_act] at hc1
      obtain ⟨_, hlen, hcell⟩ := World.cells?_some hc1
      match cs, hlen with
      | [v0, v1, v2], _ =>
        obtain ⟨y0, y1, y2, n', _, _, t0, t1, t2⟩ := Go.Deep.trod_struct3 Try.underlying31 hc2
        rw [cells_int] at t0 t2
        rw [cells_string] at t1
        obtain ⟨k, e0, _, _⟩ := DataW.trod_int Try.underlying3 t0
        obtain ⟨s, e1, _, hs⟩ := DataW.trod_string Try.underlying9 t1
        obtain ⟨m', e2, _, hm'⟩ := DataW.trod_int Try.underlying3 t2
        simp at e0 e1 e2
        subst e0 e1 e2
        have g0 := hcell 0 (by omega)
        have g1 := hcell 1 (by omega)
        have g2 := hcell 2 (by omega)
        simp at g0 g1 g2
        have hw : -9223372036854775808 ≤ m' ∧ m' < 9223372036854775808 := by
          have e1 : IntKind.i64.min = -9223372036854775808 := by decide
          simp [Lit.wf] at hm'
          rw [e1] at hm'
          omega
        exact ⟨k, s, m', g0, g1, g2, by unfold maxLen at hs; omega, hw.1, hw.2⟩
    obtain ⟨k, s, m, g0, _⟩ := key 0 h0
    obtain ⟨b, o, spot⟩ := ad
    have hspot : spot = none := by simpa [Addr.add] using World.cell?_spot g0
    subst hspot
    have hb : b < w.heap.size := by
      have := World.block_lt_of_cell? w _ g0
      simpa [Addr.add] using this
    refine ⟨b, o, rfl, hb, fun i hi => ?_⟩
    obtain ⟨k, s, m, g0, g1, g2, gs⟩ := key i hi
    rw [Addr.add_lit, Addr.add_lit] at g0 g1 g2
    exact ⟨k, s, m, g0, g1, g2, gs⟩

theorem Acts.below {w w' : World} {a : Option Addr} {n : Nat} (h : Acts w a n) (hb : Below w.heap.size w w') : Acts w' a n := fun h0 => by
  obtain ⟨b, o, rfl, hbl, hi⟩ := h h0
  refine ⟨b, o, rfl, by have := hb.size; omega, fun i hin => ?_⟩
  obtain ⟨k, s, m, g0, g1, g2, gs⟩ := hi i hin
  exact ⟨k, s, m, (hb.cell hbl).trans g0, (hb.cell hbl).trans g1, (hb.cell hbl).trans g2, gs⟩

/-- The bytes xs as an argument. -/
def Bytes (w : World) (a : Option Addr) (c : Nat) (xs : List Int) : Prop := (a = none ∧ xs = [] ∧ c = 0) ∨ ∃ ad, a = some ad ∧ xs.length ≤ c ∧ c ≤ 9223372036854775807 ∧ ∀ i, i < xs.length → w.cell? (ad.add i) = some (.int .u8 (xs.getD i 0))

theorem open_bytes {H : Type} {enc : TypeId × Value → H} {w : World} {fuel : Nat} {a : Option Addr} {n c : Nat} {x : DataW H × List MemPlace} (h : DataW.trod enc Try.prog w 0 (fun _ => true) true fuel 22 [.slice a n c] = some x) :
    ∃ xs : List Int, xs.length = n ∧ Bytes w a c xs ∧ (∀ x ∈ xs, 0 ≤ x ∧ x < 256) := by
  rcases open_ints Try.underlying22 Try.underlying5 cells_u8 h with ⟨hcs, hx⟩ | ⟨ad, len', cap', zs, hcs, _, hl, hm, hz, hx, hcell, hwz⟩
  · simp at hcs
    obtain ⟨rfl, rfl, rfl⟩ := hcs
    exact ⟨[], rfl, .inl ⟨rfl, rfl, rfl⟩, by simp⟩
  · simp at hcs
    obtain ⟨rfl, rfl, rfl⟩ := hcs
    simp only [if_true] at hz
    refine ⟨zs.take n, by rw [List.length_take]; omega, .inr ⟨ad, rfl, by rw [List.length_take]; omega, by unfold maxLen at hm; omega, fun i hi => ?_⟩, fun x hx => ?_⟩
    · rw [List.length_take] at hi
      rw [hcell i (by omega)]
      simp [List.getD, show i < n by omega]
    · have := hwz x (List.mem_of_mem_take hx)
      have e1 : IntKind.u8.min = 0 := by decide
      have e2 : IntKind.u8.max = 255 := by decide
      simp [Lit.wf] at this
      rw [e1, e2] at this
      omega

theorem new_any (a : Option Addr) (c : Nat) (xs : List Int) (w : World) (hn : xs.length ≤ 1000) (h : Bytes w a c xs) : Calls Try.prog 7 #[.slice a xs.length c] w (Made w xs) := by
  rcases h with ⟨rfl, rfl, rfl⟩ | ⟨ad, rfl, _, _, hc⟩
  · exact new_nil w
  · exact new_at ad c xs w hn hc

/-- A reader of xs that stands at j. -/
def St (w : World) (r : Nat) (xs : List Int) (j : Nat) (l : List Int) : Prop := Rd w r l j ∧ l = xs.drop j ∧ j ≤ xs.length
theorem St.sum {w : World} {r : Nat} {xs l : List Int} {j : Nat} (h : St w r xs j l) : (j : Int) + (l.length : Int) = (xs.length : Int) := by
  have := h.2.2
  rw [h.2.1, List.length_drop]; omega
theorem St.go {w w' : World} {r n : Nat} {xs l : List Int} {j : Nat} (h : St w r xs j l) (hr : Rd w' r (l.drop n) (j + n)) (hn : n ≤ l.length) : St w' r xs (j + n) (l.drop n) := by
  have h1 := h.2.1
  have h2 := h.2.2
  refine ⟨hr, ?_, ?_⟩
  · rw [h1, List.drop_drop]
  · rw [h1, List.length_drop] at hn; omega

theorem mat_le (l bs : List Int) : mat l bs ≤ l.length ∧ mat l bs ≤ bs.length := by
  induction l generalizing bs with
  | nil => unfold mat; simp
  | cons x xs ih =>
    cases bs with
    | nil => unfold mat; simp
    | cons y ys =>
      have := ih ys
      unfold mat
      split <;> simp <;> omega
theorem wantN_le (l bs : List Int) : wantN l bs ≤ l.length := by
  unfold wantN
  have := mat_le l bs
  split <;> omega
theorem wantN_bad (l bs : List Int) (i : Nat) (h : (wantA l bs i).2 ≠ 0) : wantN l bs = 0 := by
  unfold wantA at h
  unfold wantN
  split
  · rename_i h1; rw [if_pos h1] at h; exact absurd rfl h
  · rfl
theorem digs_len (l : List Int) : digs l ≤ l.length := by unfold digs; exact (List.takeWhile_sublist _).length_le
theorem numN_le (l : List Int) (most : Int) : numN l most ≤ l.length := by
  unfold numN
  have := digs_len l
  split
  · omega
  · split
    · omega
    · split <;> omega
theorem numN_bad (l : List Int) (most : Int) (h : (numA l most).2 ≠ 0) : numN l most = 0 := by
  unfold numA at h
  unfold numN
  split
  · rfl
  · rename_i h1
    rw [if_neg h1] at h
    split
    · rfl
    · rename_i h2
      rw [if_neg h2] at h
      split
      · rfl
      · rename_i h3
        rw [if_neg h3] at h
        exact absurd rfl h

/-- What Byte answers, and how many bytes it reads. -/
def byteV : List Int → Int
  | [] => 0
  | x :: _ => x
def byteB : List Int → Bool
  | [] => false
  | _ :: _ => true
def byteN : List Int → Nat
  | [] => 0
  | _ :: _ => 1
theorem byteN_le (l : List Int) : byteN l ≤ l.length := by cases l <;> simp [byteN]
theorem byteN_bad (l : List Int) (h : byteB l = false) : byteN l = 0 := by cases l <;> simp [byteN, byteB] at h ⊢
theorem byte_any (r i : Nat) (l : List Int) (w : World) (h : Rd w r l i) (hi : i ≤ 1000) :
    Calls Try.prog 12 #[.pointer (some ⟨r, 0, none⟩)] w (Reads r w (.tuple #[.int .u8 (byteV l), .bool (byteB l)]) (l.drop (byteN l)) (i + byteN l)) := by
  cases l with
  | nil =>
    refine (byte_none r i w h).mono ?_
    rintro e w' ⟨rfl, rfl⟩
    exact ⟨rfl, h, Only.refl _ _⟩
  | cons x l =>
    refine (byte_some r i x l w h (by omega)).mono ?_
    rintro e w' ⟨rfl, h1, h2⟩
    exact ⟨rfl, h1, h2⟩
end Go.Proofs.Ytffidpbhlfbmhaa
