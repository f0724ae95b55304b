/- The law's 'act': the program's reader and the document's answer alike, and stand alike behind it (conditions: both rows lie in memory, the bytes can be read; texts of at most 60 bytes). -/
import Derived.Test.YtffidpbhlfbmhaaRest
namespace Go.Proofs.Ytffidpbhlfbmhaa
open Go.ChangeShapes Go.WideShapes Go.RowKit
set_option linter.unusedVariables false

/-- What a call leaves that may have changed two rows, and made new ones. -/
structure Duo (r x : Nat) (w w' : World) : Prop where
  os : w'.os = w.os
  tape : w'.tape = w.tape
  output : w'.output = w.output
  size : w.heap.size ≤ w'.heap.size
  block : ∀ k, k < w.heap.size → k ≠ r → k ≠ x → w'.heap[k]? = w.heap[k]?
theorem Duo.trans {r x : Nat} {a b c : World} (h : Duo r x a b) (k : Duo r x b c) : Duo r x a c :=
  ⟨k.os.trans h.os, k.tape.trans h.tape, k.output.trans h.output, Nat.le_trans h.size k.size, fun i hi h1 h2 => (k.block i (by have := h.size; omega) h1 h2).trans (h.block i hi h1 h2)⟩
theorem Duo.left {r x : Nat} {w w' : World} (h : Only r w w') : Duo r x w w' := ⟨h.os, h.tape, h.output, h.size, fun k hk h1 _ => h.block k hk h1⟩
theorem Duo.right {r x : Nat} {w w' : World} (h : Only x w w') : Duo r x w w' := ⟨h.os, h.tape, h.output, h.size, fun k hk _ h2 => h.block k hk h2⟩
theorem Duo.below {r x n : Nat} {w w' : World} (h : Duo r x w w') (hn : n ≤ w.heap.size) (hr : n ≤ r) (hx : n ≤ x) : Below n w w' := ⟨h.os, h.tape, h.output, h.size, fun k hk => h.block k (by omega) (by omega) (by omega)⟩

/-- Both readers stand at j. -/
structure Both (w : World) (r x B : Nat) (xs : List Int) (j : Nat) : Prop where
  st : St w r xs j (xs.drop j)
  rf : Rf w x B xs j
  rx : r < x
  Br : B ≤ r

theorem Both.alloc {w : World} {r x B : Nat} {xs : List Int} {j : Nat} (h : Both w r x B xs j) (o : Obj) : Both (w.alloc o) r x B xs j :=
  ⟨⟨h.st.1.below ((Below.refl _ w).alloc (Nat.le_refl _) o), h.st.2.1, h.st.2.2⟩, h.rf.below ((Below.refl _ w).alloc (Nat.le_refl _) o) (by have := h.rf.lt; have := h.rx; have := h.Br; omega), h.rx, h.Br⟩
/-- Both have read n bytes more. -/
theorem Both.go {w w1 w2 : World} {r x B : Nat} {xs : List Int} {j n : Nat} (h : Both w r x B xs j) (h1 : Rd w1 r ((xs.drop j).drop n) (j + n)) (h2 : Only r w w1) (h3 : Rf w2 x B xs (j + n)) (h4 : Only x w1 w2) (hn : n ≤ (xs.drop j).length) : Both w2 r x B xs (j + n) ∧ Duo r x w w2 := by
  have hs := h.st.go h1 hn
  have e := hs.2.1
  rw [e] at hs
  exact ⟨⟨⟨hs.1.only h4 h.rx, rfl, hs.2.2⟩, h3, h.rx, h.Br⟩, (Duo.left h2).trans (Duo.right h4)⟩

/-- What act leaves. -/
def Acted (r x B : Nat) (xs : List Int) (w : World) (e : Ending) (w' : World) : Prop := e = .returned (.bool true) ∧ ∃ j, Both w' r x B xs j ∧ Duo r x w w'

theorem rnum_any (x B i : Nat) (xs : List Int) (most : Int) (w : World) (h : Rf w x B xs i) (hB : B ≤ x) (hm : -9223372036854775808 ≤ most) (hm2 : most < 9223372036854775808) (hbt : ∀ x ∈ xs, 0 ≤ x ∧ x < 256) :
    Calls Try.prog 19 #[.pointer (some ⟨x, 0, none⟩), .int .i64 most] w (RReads x B w (two (numA (xs.drop i) most)) xs (i + numN (xs.drop i) most)) := by
  have h' := h
  obtain ⟨_, _, _, hn200, hin, _⟩ := h'
  by_cases hi : i = xs.length
  · have hd : xs.drop i = [] := List.drop_eq_nil_of_le (by omega)
    have h1 : numA (xs.drop i) most = (0, 12) := by rw [hd]; rfl
    have h2 : numN (xs.drop i) most = 0 := by rw [hd]; rfl
    rw [h1, h2]
    exact rnum_none x B i xs most w h hB hi
  · have hlt : i < xs.length := by omega
    have hne : xs.drop i ≠ [] := by
      intro e
      have := congrArg List.length e
      simp at this
      omega
    have h0 : (xs.drop i).getD 0 0 = xs.getD i 0 := by rw [drop_at]; rfl
    cases hx : isDig (xs.getD i 0) with
    | false =>
      have h1 : numA (xs.drop i) most = (0, 2) := by unfold numA; rw [if_neg hne, if_pos (by rw [h0]; exact hx)]
      have h2 : numN (xs.drop i) most = 0 := by unfold numN; rw [if_neg hne, if_pos (by rw [h0]; exact hx)]
      rw [h1, h2]
      exact rnum_no x B i xs most w h hB hlt hx
    | true =>
      refine rnum_dig x B i xs (xs.drop i) most w h hB hlt hm hm2 hn200 (by rw [List.length_drop]; omega) (drop_at xs i) (fun j hj => ?_) (by rw [h0]; exact hx)
      have : (xs.drop i).getD j 0 ∈ xs.drop i := by
        simp only [List.getD, List.getElem?_eq_getElem hj, Option.getD_some]
        exact List.getElem_mem hj
      exact hbt _ (List.mem_of_mem_drop this)

set_option maxRecDepth 20000 in
set_option maxHeartbeats 2000000 in
theorem act_any (r x B j : Nat) (xs : List Int) (k : Int) (s : ByteArray) (m : Int) (w : World) (h : Both w r x B xs j) (hs : s.size ≤ 1000) (hm : -9223372036854775808 ≤ m) (hm2 : m < 9223372036854775808) (hn : xs.length ≤ 200) (hbt : ∀ x ∈ xs, 0 ≤ x ∧ x < 256) :
    Calls Try.prog 8 #[.pointer (some ⟨r, 0, none⟩), .pointer (some ⟨x, 0, none⟩), .agg #[.int .i64 k, .string s, .int .i64 m]] w (Acted r x B xs w) := by
  have HH : Hid (∀ o, Both (w.alloc o) r x B xs j ∧ Below w.heap.size w (w.alloc o)) := Lib.hid (fun o => ⟨h.alloc o, (Below.refl _ w).alloc (Nat.le_refl _) o⟩)
  have hBx : B ≤ x := by have := h.rx; have := h.Br; omega
  have hj : j ≤ xs.length := h.st.2.2
  have hbl := Lib.hid (fun x (hx : x ∈ xs.drop j) => hbt x (List.mem_of_mem_drop hx))
  have hr0 := h.rx
  have hr1 := h.Br
  have HT := Lib.hid hbt
  have hxl := h.rf.lt
  clear h hbt
  by_cases hk0 : k = 0
  · subst hk0
    go_enter Try.func8, Try.ntmps8
    go_wp2_with fail
    have hA := (HH.out (.cells #[.int .i64 0, .string s, .int .i64 m] 31))
    have HA := Lib.hid hA
    have hcz : ∀ (w1 : World) (i : Nat), Only r (w.alloc (.cells #[.int .i64 0, .string s, .int .i64 m] 31)) w1 → w1.cell? ⟨w.heap.size, i, none⟩ = (w.alloc (.cells #[.int .i64 0, .string s, .int .i64 m] 31)).cell? ⟨w.heap.size, i, none⟩ := fun w1 i hO => World.cell?_of_block (hO.block w.heap.size (by simp) (by omega))
    have HCZ := Lib.hid hcz
    clear hA hcz
    refine (byte_any r j (xs.drop j) _ HA.out.1.st.1 (by omega)).mono ?_
    rintro e w1 ⟨rfl, hR1, hO1⟩
    have HF := Lib.hid (HA.out.1.rf.only hO1 (by omega) hr1)
    have H1 := Lib.hid (And.intro hR1 hO1)
    clear hR1 hO1
    go_wp2_with fail
    refine (rbyte_any x B j xs w1 HF.out hBx).mono ?_
    rintro e w2 ⟨rfl, hR2, hO2⟩
    have HG := Lib.hid (HA.out.1.go H1.out.1 H1.out.2 hR2 hO2 (byteN_le _))
    clear hR2 hO2
    generalize byteV (xs.drop j) = v
    generalize byteB (xs.drop j) = b
    cases b
    all_goals
      simp only [byteF]
      go_wp2_with fail
      go_ret
      exact ⟨rfl, _, HG.out.1, (Duo.left (Only.of_below HA.out.2)).trans HG.out.2⟩
  by_cases hk1 : k = 1
  · subst hk1
    go_enter Try.func8, Try.ntmps8
    go_wp2_with fail
    have hA := (HH.out (.cells #[.int .i64 1, .string s, .int .i64 m] 31))
    have HA := Lib.hid hA
    have hcz : ∀ (w1 : World) (i : Nat), Only r (w.alloc (.cells #[.int .i64 1, .string s, .int .i64 m] 31)) w1 → w1.cell? ⟨w.heap.size, i, none⟩ = (w.alloc (.cells #[.int .i64 1, .string s, .int .i64 m] 31)).cell? ⟨w.heap.size, i, none⟩ := fun w1 i hO => World.cell?_of_block (hO.block w.heap.size (by simp) (by omega))
    have HCZ := Lib.hid hcz
    clear hA hcz
    have q1 := want_any r j (xs.drop j) s _ HA.out.1.st.1 hs (by omega)
    unfold two at q1
    refine q1.mono ?_
    clear q1
    rintro e w1 ⟨rfl, hR1, hO1⟩
    have HF := Lib.hid (HA.out.1.rf.only hO1 (by omega) hr1)
    have H1 := Lib.hid (And.intro hR1 hO1)
    have c1 : w1.cell? ⟨w.heap.size, 1, none⟩ = some (.string s) := (HCZ.out w1 1 hO1).trans (by rw [cell_of_row _ _ _ _ _ _ (heap_alloc_new _ _)]; rfl)
    have q2 := rwant_any x B j xs s w1 HF.out hBx hs
    unfold two at q2
    have Q2 := Lib.hid q2
    clear hR1 hO1 q2
    go_wp2_with fail
    refine Q2.out.mono ?_
    rintro e w2 ⟨rfl, hR2, hO2⟩
    have HG := Lib.hid (HA.out.1.go H1.out.1 H1.out.2 hR2 hO2 (wantN_le _ _))
    clear hR2 hO2
    generalize wantA (xs.drop j) (sbytes s) j = pf
    obtain ⟨pp, f⟩ := pf
    simp only
    clear c1
    go_wp2_with fail
    go_ret
    exact ⟨rfl, _, HG.out.1, (Duo.left (Only.of_below HA.out.2)).trans HG.out.2⟩
  by_cases hk2 : k = 2
  · subst hk2
    go_enter Try.func8, Try.ntmps8
    go_wp2_with fail
    have hA := (HH.out (.cells #[.int .i64 2, .string s, .int .i64 m] 31))
    have HA := Lib.hid hA
    have hcz : ∀ (w1 : World) (i : Nat), Only r (w.alloc (.cells #[.int .i64 2, .string s, .int .i64 m] 31)) w1 → w1.cell? ⟨w.heap.size, i, none⟩ = (w.alloc (.cells #[.int .i64 2, .string s, .int .i64 m] 31)).cell? ⟨w.heap.size, i, none⟩ := fun w1 i hO => World.cell?_of_block (hO.block w.heap.size (by simp) (by omega))
    have HCZ := Lib.hid hcz
    clear hA hcz
    have q1 := num_any r j (xs.drop j) m _ HA.out.1.st.1 (by rw [List.length_drop]; omega) hm hm2 hbl.out
    unfold two at q1
    refine q1.mono ?_
    clear q1
    rintro e w1 ⟨rfl, hR1, hO1⟩
    have HF := Lib.hid (HA.out.1.rf.only hO1 (by omega) hr1)
    have H1 := Lib.hid (And.intro hR1 hO1)
    have c1 : w1.cell? ⟨w.heap.size, 2, none⟩ = some (.int .i64 m) := (HCZ.out w1 2 hO1).trans (by rw [cell_of_row _ _ _ _ _ _ (heap_alloc_new _ _)]; rfl)
    have q2 := rnum_any x B j xs m w1 HF.out hBx hm hm2 HT.out
    unfold two at q2
    have Q2 := Lib.hid q2
    clear hR1 hO1 q2
    go_wp2_with fail
    refine Q2.out.mono ?_
    rintro e w2 ⟨rfl, hR2, hO2⟩
    have HG := Lib.hid (HA.out.1.go H1.out.1 H1.out.2 hR2 hO2 (numN_le _ _))
    clear hR2 hO2
    generalize numA (xs.drop j) m = pf
    obtain ⟨pp, f⟩ := pf
    simp only
    clear c1
    go_wp2_with fail
    go_ret
    exact ⟨rfl, _, HG.out.1, (Duo.left (Only.of_below HA.out.2)).trans HG.out.2⟩
  go_enter Try.func8, Try.ntmps8
  go_wp2_with fail
  have hA := (HH.out (.cells #[.int .i64 k, .string s, .int .i64 m] 31))
  have HA := Lib.hid hA
  have hcz : ∀ (w1 : World) (i : Nat), Only r (w.alloc (.cells #[.int .i64 k, .string s, .int .i64 m] 31)) w1 → w1.cell? ⟨w.heap.size, i, none⟩ = (w.alloc (.cells #[.int .i64 k, .string s, .int .i64 m] 31)).cell? ⟨w.heap.size, i, none⟩ := fun w1 i hO => World.cell?_of_block (hO.block w.heap.size (by simp) (by omega))
  have HCZ := Lib.hid hcz
  clear hA hcz
  have hP := Lib.hid (fun (W : World) (h : Rd W r (xs.drop j) j) => peek_any r j (xs.drop j) W h hbl.out)
  have HN : Hid (∀ n, Rd ((w.alloc (.cells #[.int .i64 k, .string s, .int .i64 m] 31)).drewN n) r (xs.drop j) j ∧ Rf ((w.alloc (.cells #[.int .i64 k, .string s, .int .i64 m] 31)).drewN n) x B xs j) := Lib.hid (fun n => ⟨HA.out.1.st.1.below (below_drewN (Below.refl _ _) n), HA.out.1.rf.drewN hBx n⟩)
  have HE : Hid (∀ w2 : World, Rd w2 r (xs.drop j) j → Rf w2 x B xs j → Duo r x w w2 → Acted r x B xs w (.returned (.bool true)) w2) := Lib.hid (fun w2 h1 h2 h3 => ⟨rfl, j, ⟨⟨h1, rfl, hj⟩, h2, hr0, hr1⟩, h3⟩)
  have HD : Hid (Duo r x w (w.alloc (.cells #[.int .i64 k, .string s, .int .i64 m] 31))) := Lib.hid (Duo.left (Only.of_below HA.out.2))
  have HRF := HA.out.1.rf
  generalize w.alloc (.cells #[.int .i64 k, .string s, .int .i64 m] 31) = w1 at HN HD HRF ⊢
  by_cases hlt : j < xs.length
  · obtain ⟨b, o, c, k0, k1, f1, hc⟩ := HRF.full (by omega)
    have hcell := hc j hlt
    have hd : xs.drop j = xs.getD j 0 :: xs.drop (j + 1) := by
      rw [List.drop_eq_getElem_cons hlt]; simp [List.getD, List.getElem?_eq_getElem hlt]
    have hpk : peek (xs.drop j) = xs.getD j 0 := by rw [hd]; rfl
    have hy := hbl.out (xs.getD j 0) (by rw [hd]; simp)
    generalize xs.getD j 0 = y at hcell hpk hy
    obtain ⟨hy0, hy1⟩ := hy
    rw [hpk] at hP
    have hltI : (j : Int) < (xs.length : Int) := by omega
    have hj0 : (0 : Int) ≤ (j : Int) := by omega
    clear HRF hc hd hpk HCZ HA
    go_wp2_with fail
    go_quiet (fail)
    go_wp2_with fail
    go_quiet (fail)
    go_wp2_with fail
    refine (hP.out _ (HN.out _).1).mono ?_
    rintro e w' ⟨rfl, rfl⟩
    go_wp2_with fail
    go_ret
    exact HE.out _ (HN.out _).1 (HN.out _).2 (HD.out.trans (Duo.left (Only.of_below (below_drewN (Below.refl _ _) _))))
  · obtain ⟨a, c, k0, k1, f1⟩ := HRF.cells
    have hd : xs.drop j = [] := List.drop_eq_nil_of_le (by omega)
    have hpk : peek (xs.drop j) = -1 := by rw [hd]; rfl
    rw [hpk] at hP
    have hltI : ¬ ((j : Int) < (xs.length : Int)) := by omega
    clear HRF hd hpk HCZ HA
    go_wp2_with fail
    go_quiet (fail)
    go_wp2_with fail
    refine (hP.out _ (HN.out _).1).mono ?_
    rintro e w' ⟨rfl, rfl⟩
    go_wp2_with fail
    go_ret
    exact HE.out _ (HN.out _).1 (HN.out _).2 (HD.out.trans (Duo.left (Only.of_below (below_drewN (Below.refl _ _) _))))
end Go.Proofs.Ytffidpbhlfbmhaa
