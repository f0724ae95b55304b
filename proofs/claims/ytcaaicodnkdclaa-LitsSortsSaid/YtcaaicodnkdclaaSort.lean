/- The contract of lits.Sort: of a list that is not empty it makes, in memory of its own, the list of its numbers rising, each once (conditions: the slice reads as the list; at most 1000000 numbers). -/
import Derived.Test.YtcaaicodnkdclaaCalls
import Derived.Test.YtcaaicodnkdclaaShelf
import Derived.Test.YtcaaicodnkdclaaSorted
import Derived.WalkLawsBesides
import Derived.Lib.Hide
import Derived.Lib.OwnBridge
import Derived.Outline
import Derived.Deep.LoopGhost
import Derived.Deep.AppendLies
import Derived.OwnWalk
namespace Go.Proofs.Ytcaaicodnkdclaa
open Go.ChangeShapes Go.WideShapes Go.RowKit Go.Sort
set_option linter.unusedVariables false

theorem int_info : (Try.prog.info? 3).map (fun i => (i.zero, i.size, i.bytes)) = some (some (.int .i64 0), 1, 8) := by kernel_rfl

theorem grow_grown (w : World) (os : Array Obj) : w.grownBy (grow w os) none :=
  ⟨rfl, rfl, rfl, by simp [grow], fun k hk _ => by simp [grow, Array.getElem?_append, hk]⟩
theorem below_grow {B : Nat} {w0 w : World} (h : Below B w0 w) (hB : B ≤ w.heap.size) (os : Array Obj) : Below B w0 (grow w os) :=
  h.grown (grow_grown w os) hB (by simp)
theorem own_base {w : World} {b b' : Nat} {e : TypeId} {size n : Nat} {v : Value} {xs : List Value} (h : w.ownsRow b e size v n xs) (hb : b' ≤ b) : w.ownsRow b' e size v n xs := by
  refine ⟨h.1, ?_⟩
  rcases h.2 with h2 | ⟨g, cap, cur, h1, h2, h3⟩
  · exact .inl h2
  · exact .inr ⟨g, cap, cur, h1, by omega, h3⟩

/-- What is left behind the sort: where the row lies, its cells, and that nothing older has turned. -/
theorem sorted_left {w w1 : World} {g cap n q : Nat} {xs : List Int} {os : Array Obj} (hown : w1.ownsRow w.heap.size 3 1 (.slice (some ⟨g, 0, none⟩) n cap) n (xs.map (Value.int .i64))) (hbel : Below w.heap.size w w1) (hg : w.heap.size ≤ g) (hgl : g < w1.heap.size) :
    Below w.heap.size w (grow (putRow (Value.int .i64) (Sort.ahead w1 q) g 0 (xs.mergeSort fun x y => decide (x ≤ y)).toArray) os) ∧
    g < (grow (putRow (Value.int .i64) (Sort.ahead w1 q) g 0 (xs.mergeSort fun x y => decide (x ≤ y)).toArray) os).heap.size ∧
    ∀ j, j < (xs.mergeSort fun x y => decide (x ≤ y)).length → (grow (putRow (Value.int .i64) (Sort.ahead w1 q) g 0 (xs.mergeSort fun x y => decide (x ≤ y)).toArray) os).cell? ⟨g, j, none⟩ = some (.int .i64 ((xs.mergeSort fun x y => decide (x ≤ y)).getD j 0)) := by
  have hl : (xs.mergeSort fun x y => decide (x ≤ y)).length = xs.length := List.length_mergeSort xs
  have hn : xs.length = n := by simpa using hown.1
  have hp := Lib.ownsRow_putRow (q := q) (k := n) (ys := xs.mergeSort fun x y => decide (x ≤ y)) hown (by omega) (Nat.le_refl _)
  have hk := hp.kept (grow_grown _ os) (.inr (by simp [Value.ownBlock]))
  refine ⟨below_grow (Lib.below_putRow hbel hg) ?_ os, ?_, fun j hj => ?_⟩
  · simpa [putRow, mapBlock, Sort.ahead] using hbel.size
  · simp [grow, putRow, mapBlock, Sort.ahead]; omega
  · rw [hk.cellAt j (by omega), List.take_of_length_le (by omega), List.getElem?_map, List.getElem?_eq_getElem hj]
    simp [List.getD, List.getElem?_eq_getElem hj]

def SortLeft (w : World) (s : List Int) (e : Ending) (w' : World) : Prop :=
  ∃ v, e = .returned v ∧ w'.ownsRow w.heap.size 3 1 v s.length (s.map (Value.int .i64)) ∧ Below w.heap.size w w'

theorem sort_any (b off c : Nat) (xs : List Int) (w : World) (h0 : 0 < xs.length) (hn : xs.length ≤ 1000000)
    (hc : ∀ j, j < xs.length → w.cell? ⟨b, off + j, none⟩ = some (.int .i64 (xs.getD j 0))) :
    Calls Try.prog 23 #[.slice (some ⟨b, off, none⟩) xs.length c] w (SortLeft w (isort xs)) := by
  obtain ⟨i0, hi, hz0, hz1, hz2⟩ := info_parts int_info
  have hcl := Try.slices_Clone_int b off xs.length c xs w (Nat.le_refl _) (by omega) hc
  rw [List.take_length] at hcl
  clear hc
  go_enter Try.func23, Try.ntmps23
  go_wp2_with fail
  go_step3
  go_wp2_with fail
  refine hcl.mono ?_
  rintro e w1 ⟨v1, rfl, hown1, hne1, hbel1⟩
  obtain ⟨g, cap, rfl, hg, hgl, hcap, hcm, hlen, hH⟩ := Lib.holds_of_ownsRow hown1 hne1
  have X := Lib.hid (And.intro hown1 (And.intro hbel1 hne1))
  clear hown1 hbel1 hne1 hcl hlen
  go_wp2_with fail
  refine (Try.slices_Sort_int g 0 cap xs w1 hH hgl (by omega)).mono ?_
  rintro e w2 ⟨rfl, q, os, hw2⟩
  obtain ⟨hB2, hgl2, hcells⟩ := sorted_left (q := q) (os := os) X.out.1 X.out.2.1 hg hgl
  rw [← hw2] at hB2 hgl2 hcells
  clear hw2 hH X hgl w1
  have hls : (xs.mergeSort fun x y => decide (x ≤ y)).length = xs.length := List.length_mergeSort xs
  have hdd := dd_isort xs
  generalize (xs.mergeSort fun x y => decide (x ≤ y)) = s at hcells hls hdd
  have D := Lib.hid hdd
  have HC := Lib.hid hcells
  clear hdd hcells
  generalize hnn : xs.length = n at *
  go_wp2_with fail
  go_step3
  go_wp2_with fail
  have hg2 : g < w2.heap.size := hgl2
  go_loopg [3, 4] n (fun m s3 s4 wx => ∃ (p cp : Nat) (C : List Int), p + m = n ∧ m ≤ cp ∧ cp ≤ 9223372036854775807 ∧ s3 = .slice (some ⟨g, p, none⟩) m cp ∧ Aside (C ++ dd (s.drop p) = isort xs) ∧ C.length ≤ p ∧
    wx.ownsRow w2.heap.size 3 1 s4 C.length (C.map (Value.int .i64)) ∧ Below w2.heap.size w2 wx)
  case atStart => exact ⟨0, cap, [], by omega, by omega, by unfold maxLen at hcm; omega, rfl, D.out, by simp, World.ownsRow_nil _ _ _ _, Below.refl _ _⟩
  case round =>
    obtain ⟨p, cp, C, hpm, hmc, hcp, rfl, HI, hCl, hrow, hbx⟩ := hrel
    generalize gk = m at *
    by_cases hm : 0 < m
    · have hx0 : wr.cell? ⟨g, p, none⟩ = some (.int .i64 (s.getD p 0)) := (hbx.cell (p := ⟨g, p, none⟩) hg2).trans (HC.out p (by omega))
      have hdx := dd_at s p (by omega)
      generalize hxe : s.getD p 0 = x at hx0 hdx
      have HX := Lib.hid (And.intro hdx hxe)
      clear hdx hxe
      go_wp2_with (first
        | (at_builtin; refine wpList_append_own _ rfl _ _ 28 rfl w2.heap.size 3 i0 (.int .i64 0) 1 8 Try.underlying28 hi hz0 hz1 hz2 rfl (by decide) _ _ _ rfl (hrow.alloc _) ⟨wr.heap.size, 0, none⟩ 1 1 [.int .i64 x] rfl rfl ?c1 ?c2 ?c3 ?c4 ?c5 ?_))
      case c1 => exact World.news_of_block (cs := #[.int .i64 x]) (t := 3) (fr := (0, 0)) (heap_alloc_new wr _)
      case c2 => intro u hu; simp at hu; subst hu; rfl
      case c3 => unfold maxLen; omega
      case c4 => omega
      case c5 => have := hbx.size; simp; omega
      intro v3 w3 hown3 hgrow3 _
      have hbx3 : Below w2.heap.size w2 w3 := (hbx.alloc hbx.size _).grown hgrow3 (by have := hbx.size; simp; omega) (fun k hk => (hrow.lt k hk).1)
      have HC3 : Aside (∀ j, j < n → w3.cell? ⟨g, j, none⟩ = some (.int .i64 (s.getD j 0))) := fun j hj => (hbx3.cell (p := ⟨g, j, none⟩) hg2).trans (HC.out j (by omega))
      clear hrow hbx hx0 hgrow3
      go_wp2_with fail
      go_loopg [3, 24] m (fun g2 s3 s24 wy => ∃ i : Nat, i + g2 = m ∧ s3 = .slice (some ⟨g, p, none⟩) m cp ∧ s24 = .int .i64 i ∧ Aside (ddGo x (s.drop (p + i)) = ddGo x (s.drop p)) ∧ w3 = wy)
      case atStart => exact ⟨0, by omega, rfl, rfl, rfl, rfl⟩
      case round =>
        obtain ⟨i, him, rfl, rfl, HJ, rfl⟩ := hrel
        generalize gk = g2 at *
        by_cases hi2 : i < m
        · have hy0 : w3.cell? ⟨g, p + i, none⟩ = some (.int .i64 (s.getD (p + i) 0)) := HC3.out (p + i) (by omega)
          by_cases hyx : s.getD (p + i) 0 = x
          · rw [hyx] at hy0
            have hxx : (x != x) = false := by simp
            have hst := ddGo_same x s (p + i) (by omega) hyx
            have HS := Lib.hid hst
            clear hst hyx
            go_wp2_with fail
            go_roundg (g2 - 1)
            case measure => omega
            case rel => exact ⟨i + 1, by omega, rfl, by first | rfl | simp, by show _ = _; rw [← HJ.out, HS.out]; rfl, rfl⟩
          · have hxy : (s.getD (p + i) 0 != x) = true := by rw [bne_iff_ne]; exact hyx
            have hst := ddGo_other x s (p + i) (by omega) hyx
            have hi0 : i ≠ 0 := by rintro rfl; exact hyx HX.out.2
            have HS := Lib.hid hst
            clear hst hyx
            generalize s.getD (p + i) 0 = y at hxy hy0
            have hip : 0 < i := by omega
            clear hi0
            go_wp2_with fail
            go_roundg (m - i)
            case measure => omega
            case rel => exact ⟨p + i, cp - i, C ++ [x], by omega, by omega, by omega, by first | rfl | simp, by show _ = _; rw [← HI.out, HX.out.1, ← HJ.out, HS.out]; simp, by simp; omega, by simpa using hown3, hbx3⟩
        · have hfin : C ++ [x] = isort xs := by
            have h1 : s.drop (p + i) = [] := List.drop_eq_nil_of_le (by omega)
            have h2 := HJ.out
            rw [h1] at h2
            rw [← HI.out, HX.out.1, ← h2]; rfl
          have HF := Lib.hid hfin
          clear hfin
          go_wp2_with fail
          rw [Exit.noGoto_ret]
          go_ret
          refine ⟨v3, rfl, ?_, hB2.trans (hbx3.mono (by have := hB2.size; omega))⟩
          rw [← HF.out]
          exact own_base (by simpa using hown3) hB2.size
    · have hfin : C = isort xs := by
        have h1 : s.drop p = [] := List.drop_eq_nil_of_le (by omega)
        have h2 := HI.out
        rw [h1] at h2
        simpa [dd] using h2
      have HF := Lib.hid hfin
      clear hfin
      go_wp2_with fail
      go_outline
      rw [Exit.noGoto_ret]
      go_ret
      refine ⟨u4, rfl, ?_, hB2.trans (hbx.mono (by have := hB2.size; omega))⟩
      rw [← HF.out]
      exact own_base hrow hB2.size
end Go.Proofs.Ytcaaicodnkdclaa
