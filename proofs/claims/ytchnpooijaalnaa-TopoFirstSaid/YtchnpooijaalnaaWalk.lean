/- The contract of walk: what is left behind, and in what state (conditions: as at the closure that it calls; at most 1000000 variables, and as many to begin with). -/
import Derived.Test.YtchnpooijaalnaaEnter
namespace Go.Proofs.Ytchnpooijaalnaa
open Go.ChangeShapes Go.WideShapes Go.RowKit
set_option linter.unusedVariables false

theorem mark_info : (Try.prog.info? 89).map (fun i => (i.zero, i.size, i.bytes)) = some (some (.int .i64 0), 1, 8) := by kernel_rfl
theorem run_tmarks (v : Int) (h0 : 0 ≤ v) (h1 : v ≤ 1000000) (w : World) :
    (Instr.makeSlice 88 (.int .i64 (v + 1)) (.int .i64 (v + 1))).run Try.prog w = .ok (.slice (some ⟨w.heap.size, 0, none⟩) (v.toNat + 1) (v.toNat + 1)) (w.alloc (.cells (madeCells #[.int .i64 0] (v.toNat + 1)) 89)) := by
  obtain ⟨i, hi, hz, hs, hb⟩ := info_parts mark_info
  have := run_make (P := Try.prog) w 88 89 i (.int .i64 0) Try.underlying88 hi hz .i64 .i64 (v + 1) (v + 1) (by omega) (Int.le_refl _) (by rw [hb]; omega) (by omega)
  rw [this, hs, show (v + 1).toNat = v.toNat + 1 from by omega, Nat.mul_one]
  rfl

theorem alloc_old {w : World} {o : Obj} {b : Nat} {x : Obj} (h : w.heap[b]? = some x) : (w.alloc o).heap[b]? = some x := (Below.heap_alloc w o b (lt_of_row h)).trans h
theorem rig_start (w : World) (V : Nat) (bv lv : Value) (W : World) (hW : (((((w.alloc (.cells #[bv] 72)).alloc (.cells #[lv] 73)).alloc (.cells (madeCells #[.int .i64 0] (V + 1)) 89)).alloc (.cells #[.slice (some ⟨w.heap.size + 1 + 1, 0, none⟩) (V + 1) (V + 1)] 88)).alloc (.cells #[.nilFunc] 86)) = W) :
    W.heap[w.heap.size + 1 + 1 + 1 + 1]? = some (.cells #[.nilFunc] 86 (0, 0)) ∧ Below w.heap.size w W ∧
    Rig w.heap.size V bv lv (List.replicate (V + 1) 0) (W.setCell ⟨w.heap.size + 1 + 1 + 1 + 1, 0, none⟩ (.func (.func 55) #[] #[.pointer (some ⟨w.heap.size + 1 + 1 + 1, 0, none⟩), .pointer (some ⟨w.heap.size, 0, none⟩), .pointer (some ⟨w.heap.size + 1 + 1 + 1 + 1, 0, none⟩), .pointer (some ⟨w.heap.size + 1, 0, none⟩)])) := by
  subst hW
  have a0 := heap_alloc_new w (.cells #[bv] 72)
  have s1 : (w.alloc (.cells #[bv] 72)).heap.size = w.heap.size + 1 := by simp
  have b1 := below_box w #[bv] 72
  generalize w.alloc (.cells #[bv] 72) = w1 at *
  have a1 := heap_alloc_new w1 (.cells #[lv] 73)
  replace a0 := alloc_old (o := .cells #[lv] 73) a0
  have b2 := below_on b1 (below_box w1 #[lv] 73)
  have s2 : (w1.alloc (.cells #[lv] 73)).heap.size = w.heap.size + 1 + 1 := by simp [s1]
  rw [s1] at a1
  generalize w1.alloc (.cells #[lv] 73) = w2 at *
  have a2 := Marks.new w2 (V + 1)
  replace a0 := alloc_old (o := .cells (madeCells #[.int .i64 0] (V + 1)) 89) a0
  replace a1 := alloc_old (o := .cells (madeCells #[.int .i64 0] (V + 1)) 89) a1
  have b3 := below_on b2 (below_box w2 (madeCells #[.int .i64 0] (V + 1)) 89)
  have s3 : (w2.alloc (.cells (madeCells #[.int .i64 0] (V + 1)) 89)).heap.size = w.heap.size + 1 + 1 + 1 := by simp [s2]
  rw [s2] at a2
  generalize w2.alloc (.cells (madeCells #[.int .i64 0] (V + 1)) 89) = w3 at *
  have a3 := heap_alloc_new w3 (.cells #[.slice (some ⟨w.heap.size + 1 + 1, 0, none⟩) (V + 1) (V + 1)] 88)
  replace a0 := alloc_old (o := .cells #[.slice (some ⟨w.heap.size + 1 + 1, 0, none⟩) (V + 1) (V + 1)] 88) a0
  replace a1 := alloc_old (o := .cells #[.slice (some ⟨w.heap.size + 1 + 1, 0, none⟩) (V + 1) (V + 1)] 88) a1
  replace a2 := alloc_old (o := .cells #[.slice (some ⟨w.heap.size + 1 + 1, 0, none⟩) (V + 1) (V + 1)] 88) a2
  have b4 := below_on b3 (below_box w3 #[.slice (some ⟨w.heap.size + 1 + 1, 0, none⟩) (V + 1) (V + 1)] 88)
  have s4 : (w3.alloc (.cells #[.slice (some ⟨w.heap.size + 1 + 1, 0, none⟩) (V + 1) (V + 1)] 88)).heap.size = w.heap.size + 1 + 1 + 1 + 1 := by simp [s3]
  rw [s3] at a3
  generalize w3.alloc (.cells #[.slice (some ⟨w.heap.size + 1 + 1, 0, none⟩) (V + 1) (V + 1)] 88) = w4 at *
  have a4 := heap_alloc_new w4 (.cells #[.nilFunc] 86)
  replace a0 := alloc_old (o := .cells #[.nilFunc] 86) a0
  replace a1 := alloc_old (o := .cells #[.nilFunc] 86) a1
  replace a2 := alloc_old (o := .cells #[.nilFunc] 86) a2
  replace a3 := alloc_old (o := .cells #[.nilFunc] 86) a3
  have b5 := below_on b4 (below_box w4 #[.nilFunc] 86)
  rw [s4] at a4
  generalize w4.alloc (.cells #[.nilFunc] 86) = w5 at *
  refine ⟨a4, b5, ⟨(heap_setCell_other _ _ _ _ (by simp; omega)).trans a0, (heap_setCell_other _ _ _ _ (by simp)).trans a1, (heap_setCell_other _ _ _ _ (by simp)).trans a2, (heap_setCell_other _ _ _ _ (by simp)).trans a3, ?_⟩⟩
  exact heap_setCell_same w5 (w.heap.size + 1 + 1 + 1 + 1) 0 _ _ _ a4

def Walked (lo V : Nat) (bel : Nat → List Nat) (I : (Nat → Prop) → List Nat → World → Prop) (first : List Nat) (o : Nat → Prop) (w : World) (e : Ending) (w' : World) : Prop :=
  ∃ bb o', e = .returned (.bool bb) ∧ Moves lo (lo + 5) o w o' w' ∧ Hid ((bb = true → ∃ F, Whole bel V first F ∧ I o' F w') ∧ (bb = false → Loops bel V))

set_option maxRecDepth 100000 in
set_option maxHeartbeats 4000000 in
theorem walk_any {V : Nat} {bel : Nat → List Nat} {G : Value} {gl : Nat} {cl : Array Value} {I : (Nat → Prop) → List Nat → World → Prop} (o : Nat → Prop) (first : List Nat) (A : Option Addr) (c : Nat) (w : World)
    (hL : Leaves w.heap.size V bel G gl cl I) (hV : V ≤ 1000000) (hI : I o [] w) (hf : ∀ x ∈ first, x ≤ V) (hfl : first.length ≤ 1000000) (hs : Far w.heap.size o w A (nats first)) :
    Calls Try.prog 33 #[.int .i64 (V : Nat), .slice A first.length c, .func (.func 34) #[G] #[], .func (.func gl) #[] cl] w (Walked w.heap.size V bel I first o w) := by
  have hmk := run_tmarks (V : Int) (by omega) (by omega)
  rw [show ((V : Int)).toNat = V from by omega] at hmk
  have HL := Lib.hid (And.intro hL (And.intro hI (And.intro hf hs)))
  clear hL hI hf hs
  obtain ⟨W, hW⟩ : ∃ W, (((((w.alloc (.cells #[.func (.func 34) #[G] #[]] 72)).alloc (.cells #[.func (.func gl) #[] cl] 73)).alloc (.cells (madeCells #[.int .i64 0] (V + 1)) 89)).alloc (.cells #[.slice (some ⟨w.heap.size + 1 + 1, 0, none⟩) (V + 1) (V + 1)] 88)).alloc (.cells #[.nilFunc] 86)) = W := ⟨_, rfl⟩
  obtain ⟨hn, hb, hR⟩ := rig_start w V _ _ W hW
  have cE : W.cell? ⟨w.heap.size + 1 + 1 + 1 + 1, 0, none⟩ = some .nilFunc := by rw [cell_of_row W _ 0 _ _ _ hn]; rfl
  have fE : W.frozen? ⟨w.heap.size + 1 + 1 + 1 + 1, 0, none⟩ = false := frozen_of_row W _ 0 _ _ hn
  have HR := Lib.hid (And.intro hb hR)
  clear hn hb hR
  have hsf : ∀ (a : Addr) (m : Mode) (x y : Array Value) (W : World), (store a (.func (.func 55) x y) m).run Try.prog W = stored Try.prog W a (.func (.func 55) x y) m := fun a m x y W => run_store _ W a _ m rfl
  go_enter Try.func33, Try.ntmps33
  go_wp2_with fail
  clear hW cE fE hsf
  have HM := Lib.hid ((Moves.of_below (lo := w.heap.size) (hi := w.heap.size + 5) (o := o) HR.out.1).trans (Moves.set W (a := ⟨w.heap.size + 1 + 1 + 1 + 1, 0, none⟩) (.func (.func 55) #[] #[.pointer (some ⟨w.heap.size + 1 + 1 + 1, 0, none⟩), .pointer (some ⟨w.heap.size, 0, none⟩), .pointer (some ⟨w.heap.size + 1 + 1 + 1 + 1, 0, none⟩), .pointer (some ⟨w.heap.size + 1, 0, none⟩)]) (by show w.heap.size ≤ w.heap.size + 1 + 1 + 1 + 1; omega) (by show w.heap.size + 1 + 1 + 1 + 1 < w.heap.size + 5; omega)))
  have HI0 := Lib.hid (HL.out.1.still _ _ _ _ HL.out.2.1 ((Moves.of_below (lo := w.heap.size) (hi := w.heap.size + 5) (o := noB) HR.out.1).trans (Moves.set W (a := ⟨w.heap.size + 1 + 1 + 1 + 1, 0, none⟩) (.func (.func 55) #[] #[.pointer (some ⟨w.heap.size + 1 + 1 + 1, 0, none⟩), .pointer (some ⟨w.heap.size, 0, none⟩), .pointer (some ⟨w.heap.size + 1 + 1 + 1 + 1, 0, none⟩), .pointer (some ⟨w.heap.size + 1, 0, none⟩)]) (by show w.heap.size ≤ w.heap.size + 1 + 1 + 1 + 1; omega) (by show w.heap.size + 1 + 1 + 1 + 1 < w.heap.size + 5; omega))))
  have HS0 := Lib.hid (And.intro HR.out.2 (And.intro (Trip.start (bel := bel) (V := V) first) (And.intro HI0.out (And.intro HM.out (HL.out.2.2.2.moves HM.out)))))
  clear HM HI0 HR
  generalize W.setCell ⟨w.heap.size + 1 + 1 + 1 + 1, 0, none⟩ (.func (.func 55) #[] #[.pointer (some ⟨w.heap.size + 1 + 1 + 1, 0, none⟩), .pointer (some ⟨w.heap.size, 0, none⟩), .pointer (some ⟨w.heap.size + 1 + 1 + 1 + 1, 0, none⟩), .pointer (some ⟨w.heap.size + 1, 0, none⟩)]) = W6 at *
  go_loopg [12, 19] first.length (fun m _ s19 wx => ∃ (k : Nat) (M : List Int) (F : List Nat) (ok : Nat → Prop), k + m = first.length ∧ s19 = .int .i64 k ∧ Aside (Rig w.heap.size V (.func (.func 34) #[G] #[]) (.func (.func gl) #[] cl) M wx ∧ Trip bel V first k M F ∧ I ok F wx ∧ Moves w.heap.size (w.heap.size + 5) o w ok wx ∧ Far w.heap.size ok wx A (nats first)))
  case atStart => exact ⟨0, _, _, _, by omega, rfl, HS0.out⟩
  case round =>
    clear HS0
    obtain ⟨k, M, F, ok, hk, rfl, HS⟩ := hrel
    generalize gk = m at *
    by_cases hlt : k < first.length
    · obtain ⟨x, hx⟩ := some_of_lt hlt
      have hltI : (k : Int) < (first.length : Int) := by omega
      have hk0 : (0 : Int) ≤ (k : Int) := by omega
      obtain ⟨b, s, hS, hc⟩ := HS.out.2.2.2.2.at (nats_at hx)
      have hxV := HL.out.2.2.1 x (mem_of_some hx)
      have c4 : wr.cell? ⟨w.heap.size + 1 + 1 + 1 + 1, 0, none⟩ = some (.func (.func 55) #[] #[.pointer (some ⟨w.heap.size + 1 + 1 + 1, 0, none⟩), .pointer (some ⟨w.heap.size, 0, none⟩), .pointer (some ⟨w.heap.size + 1 + 1 + 1 + 1, 0, none⟩), .pointer (some ⟨w.heap.size + 1, 0, none⟩)]) := by rw [cell_of_row _ (w.heap.size + 1 + 1 + 1 + 1) 0 _ _ _ HS.out.1.r4]; rfl
      have HC := Lib.hid (enter_any HL.out.1 hV (unseen M + 1) M F ok wr x (by omega) HS.out.1 HS.out.2.1.way (HS.out.2.1.above x) hxV HS.out.2.2.1)
      have HX := Lib.hid hx
      clear hx
      subst hS
      go_wp2_with (go_at_call 55; refine HC.out.mono ?_; rintro e w3 ⟨bb, o3, rfl, hMv, hD⟩)
      · go_ret
        rename_i hbb
        have hb0 : bb = false := by cases bb <;> simp at hbb ⊢
        exact ⟨false, o3, rfl, HS.out.2.2.2.1.trans hMv, Lib.hid ⟨fun h => Bool.noConfusion h, fun _ => hD.out.2 hb0⟩⟩
      · rename_i hbb
        have hb0 : bb = true := by cases bb <;> simp at hbb ⊢
        obtain ⟨M3, F3, q1, q2, q3⟩ := hD.out.1 hb0
        have HQ := Lib.hid (And.intro q1 (And.intro (HS.out.2.1.step HX.out q2) (And.intro q3 (And.intro (HS.out.2.2.2.1.trans hMv) (HS.out.2.2.2.2.moves hMv)))))
        clear q1 q2 q3 hD hMv
        go_roundg (m - 1)
        case measure => omega
        case rel => exact ⟨k + 1, M3, F3, o3, by omega, by first | rfl | simp, HQ.out⟩
    · have hltn : ¬ ((k : Int) < (first.length : Int)) := by omega
      have HQ := Lib.hid (HS.out.2.1.last (by omega))
      go_wp2_with fail
      go_ret
      exact ⟨true, ok, rfl, HS.out.2.2.2.1, Lib.hid ⟨fun _ => ⟨F, HQ.out, HS.out.2.2.1⟩, fun h => Bool.noConfusion h⟩⟩
end Go.Proofs.Ytchnpooijaalnaa
