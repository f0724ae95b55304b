/- The walk into the depth: the closure that calls itself, and walk (conditions: what is called below and behind each variable keeps to its contract; the walk's own five blocks are nobody else's). -/
import Derived.Test.YtchnpooijaalnaaDepth
import Derived.Test.YtchnpooijaalnaaTNode
namespace Go.Proofs.Ytchnpooijaalnaa
open Go.ChangeShapes Go.WideShapes Go.RowKit
set_option linter.unusedVariables false

def nats (l : List Nat) : List Int := l.map fun (k : Nat) => (k : Int)
theorem nats_len (l : List Nat) : (nats l).length = l.length := by simp [nats]
theorem nats_at {l : List Nat} {k x : Nat} (h : l[k]? = some x) : (nats l)[k]? = some (x : Int) := by simp [nats, h]

/-- A block that holds the marks M, and no more. -/
def Marks (w : World) (g : Nat) (M : List Int) : Prop := w.heap[g]? = some (.cells (M.map (Value.int .i64)).toArray 89 (0, 0))
theorem Marks.cell {w : World} {g : Nat} {M : List Int} (h : Marks w g M) {j : Nat} (hj : j < M.length) : w.cell? ⟨g, j, none⟩ = some (.int .i64 (at0 M j)) := by
  rw [cell_of_row w g j _ 89 (0, 0) h, List.getElem?_toArray, List.getElem?_map, at0_lt hj]
  rfl
theorem Marks.free {w : World} {g : Nat} {M : List Int} (h : Marks w g M) (j : Nat) : w.frozen? ⟨g, j, none⟩ = false := frozen_of_row w g j _ 89 h
theorem Marks.set {w : World} {g : Nat} {M : List Int} (h : Marks w g M) (j : Nat) (v : Int) : Marks (w.setCell ⟨g, j, none⟩ (.int .i64 v)) g (M.set j v) := by
  have := heap_setCell_same w g j _ 89 (.int .i64 v) h
  unfold Marks
  rw [this]
  congr 2
  simp [List.map_set]
theorem Marks.new (w : World) (N : Nat) : Marks (w.alloc (.cells (madeCells #[.int .i64 0] N) 89)) w.heap.size (List.replicate N 0) := by
  unfold Marks
  rw [heap_alloc_new]
  congr 2
  apply Array.ext
  · rw [size_madeCells]; simp
  · intro i h1 h2
    simp [madeCells, Nat.mod_one]

/-- All blocks are as they were, but for those from lo to hi and those in o; in the place of o there is o' behind it, and of old blocks only what was in o. -/
structure Moves (lo hi : Nat) (o : Nat → Prop) (w : World) (o' : Nat → Prop) (w' : World) : Prop where
  os : w'.os = w.os
  tape : w'.tape = w.tape
  output : w'.output = w.output
  size : w.heap.size ≤ w'.heap.size
  block : ∀ b, b < w.heap.size → (b < lo ∨ hi ≤ b) → ¬ o b → w'.heap[b]? = w.heap[b]? ∧ ¬ o' b
theorem Moves.refl (lo hi : Nat) (o : Nat → Prop) (w : World) : Moves lo hi o w o w := ⟨rfl, rfl, rfl, Nat.le_refl _, fun _ _ _ h => ⟨rfl, h⟩⟩
theorem Moves.trans {lo hi : Nat} {o o' o2 : Nat → Prop} {w w' w2 : World} (h : Moves lo hi o w o' w') (k : Moves lo hi o' w' o2 w2) : Moves lo hi o w o2 w2 :=
  ⟨k.os.trans h.os, k.tape.trans h.tape, k.output.trans h.output, Nat.le_trans h.size k.size, fun b hb hr ho => by
    obtain ⟨h1, h2⟩ := h.block b hb hr ho
    obtain ⟨h3, h4⟩ := k.block b (Nat.lt_of_lt_of_le hb h.size) hr h2
    exact ⟨h3.trans h1, h4⟩⟩
theorem Moves.of_below {lo hi : Nat} {o : Nat → Prop} {w w' : World} (h : Below w.heap.size w w') : Moves lo hi o w o w' :=
  ⟨h.os, h.tape, h.output, h.size, fun b hb _ ho => ⟨h.block b hb, ho⟩⟩
theorem Moves.wide {lo hi hi' : Nat} {o o' : Nat → Prop} {w w' : World} (h : Moves lo hi o w o' w') (hh : hi ≤ hi') : Moves lo hi' o w o' w' :=
  ⟨h.os, h.tape, h.output, h.size, fun b hb hr ho => h.block b hb (by omega) ho⟩
theorem Moves.set {lo hi : Nat} {o : Nat → Prop} (w : World) {a : Addr} (v : Value) (h1 : lo ≤ a.block) (h2 : a.block < hi) : Moves lo hi o w o (w.setCell a v) :=
  ⟨rfl, rfl, rfl, by simp [World.setCell], fun b hb hr ho => ⟨heap_setCell_other w a b v (by omega), ho⟩⟩
theorem Moves.below {lo hi B : Nat} {o o' : Nat → Prop} {w w' : World} (h : Moves lo hi o w o' w') (hB : B ≤ lo) (hw : B ≤ w.heap.size) (ho : ∀ b, o b → B ≤ b) : Below B w w' :=
  ⟨h.os, h.tape, h.output, h.size, fun b hb => (h.block b (by omega) (by omega) fun k => by have := ho b k; omega).1⟩
def noB : Nat → Prop := fun _ => False

/-- The walk's own five blocks. -/
structure Rig (lo V : Nat) (bv lv : Value) (M : List Int) (w : World) : Prop where
  r0 : w.heap[lo]? = some (.cells #[bv] 72 (0, 0))
  r1 : w.heap[lo + 1]? = some (.cells #[lv] 73 (0, 0))
  r2 : Marks w (lo + 2) M
  r3 : w.heap[lo + 3]? = some (.cells #[.slice (some ⟨lo + 2, 0, none⟩) (V + 1) (V + 1)] 88 (0, 0))
  r4 : w.heap[lo + 4]? = some (.cells #[.func (.func 55) #[] #[.pointer (some ⟨lo + 3, 0, none⟩), .pointer (some ⟨lo, 0, none⟩), .pointer (some ⟨lo + 4, 0, none⟩), .pointer (some ⟨lo + 1, 0, none⟩)]] 86 (0, 0))
theorem Rig.lt {lo V : Nat} {bv lv : Value} {M : List Int} {w : World} (h : Rig lo V bv lv M w) : lo + 5 ≤ w.heap.size := lt_of_row h.r4
theorem Rig.same {lo V : Nat} {bv lv : Value} {M : List Int} {w w' : World} (h : Rig lo V bv lv M w) (hk : ∀ b, lo ≤ b → b < lo + 5 → w'.heap[b]? = w.heap[b]?) : Rig lo V bv lv M w' :=
  ⟨(hk _ (by omega) (by omega)).trans h.r0, (hk _ (by omega) (by omega)).trans h.r1, (hk _ (by omega) (by omega)).trans h.r2, (hk _ (by omega) (by omega)).trans h.r3, (hk _ (by omega) (by omega)).trans h.r4⟩
theorem Rig.call {lo V : Nat} {bv lv : Value} {M : List Int} {w w' : World} (h : Rig lo V bv lv M w) (hb : Below w.heap.size w w') : Rig lo V bv lv M w' :=
  h.same fun b _ h2 => hb.block b (Nat.lt_of_lt_of_le h2 h.lt)
theorem Rig.moves {lo V : Nat} {bv lv : Value} {M : List Int} {w w' : World} {o o' : Nat → Prop} (h : Rig lo V bv lv M w) (hm : Moves lo lo o w o' w') (ho : ∀ b, o b → b < lo ∨ lo + 5 ≤ b) : Rig lo V bv lv M w' :=
  h.same fun b h1 h2 => (hm.block b (Nat.lt_of_lt_of_le h2 h.lt) (.inr h1) fun k => by have := ho b k; omega).1
theorem Rig.mark {lo V : Nat} {bv lv : Value} {M : List Int} {w : World} (h : Rig lo V bv lv M w) (j : Nat) (k : Int) : Rig lo V bv lv (M.set j k) (w.setCell ⟨lo + 2, j, none⟩ (.int .i64 k)) :=
  ⟨(heap_setCell_other _ _ _ _ (by simp)).trans h.r0, (heap_setCell_other _ _ _ _ (by simp)).trans h.r1, h.r2.set j k, (heap_setCell_other _ _ _ _ (by simp)).trans h.r3, (heap_setCell_other _ _ _ _ (by simp)).trans h.r4⟩

/-- A list of numbers that the walk's calls leave as it is. -/
def Far (lo : Nat) (o : Nat → Prop) (w : World) (A : Option Addr) (xs : List Int) : Prop :=
  xs ≠ [] → ∃ b s, A = some ⟨b, s, none⟩ ∧ (b < lo ∨ lo + 5 ≤ b) ∧ b < w.heap.size ∧ ¬ o b ∧ ∀ j x, xs[j]? = some x → w.cell? ⟨b, s + j, none⟩ = some (.int .i64 x)
theorem Far.moves {lo : Nat} {o o' : Nat → Prop} {w w' : World} {A : Option Addr} {xs : List Int} (h : Far lo o w A xs) (hm : Moves lo (lo + 5) o w o' w') : Far lo o' w' A xs := fun hn => by
  obtain ⟨b, s, e, hr, hlt, ho, hc⟩ := h hn
  obtain ⟨h1, h2⟩ := hm.block b hlt hr ho
  exact ⟨b, s, e, hr, Nat.lt_of_lt_of_le hlt hm.size, h2, fun j x hj => (World.cell?_of_block (a := ⟨b, s + j, none⟩) h1).trans (hc j x hj)⟩
theorem Far.at {lo k : Nat} {o : Nat → Prop} {w : World} {A : Option Addr} {xs : List Int} {x : Int} (h : Far lo o w A xs) (hk : xs[k]? = some x) : ∃ b s, A = some ⟨b, s, none⟩ ∧ w.cell? ⟨b, s + k, none⟩ = some (.int .i64 x) := by
  obtain ⟨b, s, e, _, _, _, hc⟩ := h (by rintro rfl; simp at hk)
  exact ⟨b, s, e, hc k x hk⟩
theorem HighL.far {lo : Nat} {o : Nat → Prop} {w w' : World} {l : List Nat} {e : Ending} (h : HighL w (nats l) e w') (hlo : lo + 5 ≤ w.heap.size) (ho : ∀ b, o b → b < w.heap.size) :
    ∃ A c, e = .returned (.slice A l.length c) ∧ Far lo o w' A (nats l) ∧ Below w.heap.size w w' := by
  obtain ⟨A, c, rfl, hH, hs, hb⟩ := h
  refine ⟨A, c, by rw [nats_len], fun hn => ?_, hb⟩
  obtain ⟨b, s, e, h1, hc⟩ := hH hn
  obtain ⟨b2, s2, e2, h2, _⟩ := hs hn
  rw [e] at e2
  injection e2 with e2
  injection e2 with e2
  subst e2
  exact ⟨b, s, e, .inr (by omega), h2, fun k => by have := ho b k; omega, hc⟩

/-- What is asked of what the walk calls: bel of each variable's list, and I of what is called behind each. -/
structure Leaves (lo V : Nat) (bel : Nat → List Nat) (G : Value) (gl : Nat) (cl : Array Value) (I : (Nat → Prop) → List Nat → World → Prop) : Prop where
  low : ∀ v, v ≤ V → ∀ x ∈ bel v, x ≤ V
  short : ∀ v, v ≤ V → (bel v).length ≤ 1000000
  still : ∀ o F w w', I o F w → Moves lo (lo + 5) noB w noB w' → I o F w'
  own : ∀ o F w b, I o F w → o b → b < w.heap.size ∧ (b < lo ∨ lo + 5 ≤ b)
  enters : ∀ args w, (callFunc gl args).run Try.prog w = .ok (.enter gl args) w
  below : ∀ o F w v, I o F w → v ≤ V → Calls Try.prog 34 #[G, .int .i64 (v : Nat)] w (HighL w (nats (bel v)))
  leave : ∀ o F w v, I o F w → v ≤ V → v ∉ F → (∀ x ∈ bel v, x ∈ F) → lo + 5 ≤ w.heap.size → Calls Try.prog gl (#[.int .i64 (v : Nat)] ++ cl) w fun e w' => ∃ o', e = .returned (.tuple #[]) ∧ I o' (F ++ [v]) w' ∧ Moves lo lo o w o' w'

def Entered (lo V : Nat) (bel : Nat → List Nat) (bv lv : Value) (I : (Nat → Prop) → List Nat → World → Prop) (M : List Int) (F : List Nat) (o : Nat → Prop) (w : World) (v : Nat) (e : Ending) (w' : World) : Prop :=
  ∃ bb o', e = .returned (.bool bb) ∧ Moves lo (lo + 5) o w o' w' ∧ Hid ((bb = true → ∃ M' F', Rig lo V bv lv M' w' ∧ Gone bel V M F M' F' v ∧ I o' F' w') ∧ (bb = false → Loops bel V))

set_option maxHeartbeats 4000000 in
theorem enter_any {lo V : Nat} {bel : Nat → List Nat} {G : Value} {gl : Nat} {cl : Array Value} {I : (Nat → Prop) → List Nat → World → Prop} (hL : Leaves lo V bel G gl cl I) (hV : V ≤ 1000000) :
    ∀ (N : Nat) (M : List Int) (F : List Nat) (o : Nat → Prop) (w : World) (v : Nat), unseen M < N → Rig lo V (.func (.func 34) #[G] #[]) (.func (.func gl) #[] cl) M w → Way bel V M F → Above bel V M v → v ≤ V → I o F w →
    Calls Try.prog 55 #[.int .i64 (v : Nat), .pointer (some ⟨lo + 3, 0, none⟩), .pointer (some ⟨lo, 0, none⟩), .pointer (some ⟨lo + 4, 0, none⟩), .pointer (some ⟨lo + 1, 0, none⟩)] w
      (Entered lo V bel (.func (.func 34) #[G] #[]) (.func (.func gl) #[] cl) I M F o w v) := by
  intro N
  induction N with
  | zero => intro M F o w v h; omega
  | succ N ih =>
    intro M F o w v hN hR hW hA hv hI
    have hl := hW.len
    have c3 : w.cell? ⟨lo + 3, 0, none⟩ = some (.slice (some ⟨lo + 2, 0, none⟩) (V + 1) (V + 1)) := by rw [cell_of_row w (lo + 3) 0 _ _ _ hR.r3]; rfl
    have cm := hR.r2.cell (show v < M.length by omega)
    have hv0 : (0 : Int) ≤ (v : Int) := by omega
    have hv1 : (v : Int) < (V : Int) + 1 := by omega
    have H := Lib.hid (And.intro hR (And.intro hW (And.intro hA hI)))
    rcases hW.vals v hv with hz | hz | hz
    · rw [hz] at cm
      have hMid := Mid.start hW hv hz
      have f2 := hR.r2.free v
      have hR1 := hR.mark v 1
      have hI1 := hL.still o F w (w.setCell ⟨lo + 2, v, none⟩ (.int .i64 1)) hI (Moves.set w (a := ⟨lo + 2, v, none⟩) _ (by show lo ≤ lo + 2; omega) (by show lo + 2 < lo + 5; omega))
      have c0 : (w.setCell ⟨lo + 2, v, none⟩ (.int .i64 1)).cell? ⟨lo, 0, none⟩ = some (.func (.func 34) #[G] #[]) := by rw [cell_of_row _ lo 0 _ _ _ hR1.r0]; rfl
      have hlo := hR1.lt
      have hmv : Moves lo (lo + 5) o w o (w.setCell ⟨lo + 2, v, none⟩ (.int .i64 1)) := Moves.set w (a := ⟨lo + 2, v, none⟩) _ (by show lo ≤ lo + 2; omega) (by show lo + 2 < lo + 5; omega)
      have hown := fun b h => (hL.own o F _ b hI1 h).1
      have HBel := Lib.hid (hL.below o F _ v hI1 hv)
      have H1 := Lib.hid (And.intro hMid (And.intro hR1 (And.intro hI1 (And.intro hmv (And.intro hlo hown)))))
      have HIH := Lib.hid ih
      have HL := Lib.hid hL
      have HZ := Lib.hid (And.intro hz (And.intro hN hl))
      clear hR hW hA hI ih hL hz hMid hR1 hI1 hmv hown hlo hN hl
      go_enter Try.func55, Try.ntmps55
      go_wp2_with (go_at_call 34; refine HBel.out.mono ?_; rintro e w2 hh; obtain ⟨A, c, rfl, hfar, hb⟩ := hh.far (lo := lo) (o := o) H1.out.2.2.2.2.1 H1.out.2.2.2.2.2)
      have HS := Lib.hid (And.intro (H1.out.2.1.call hb) (And.intro H1.out.1 (And.intro (HL.out.still _ _ _ _ H1.out.2.2.1 (Moves.of_below hb)) (And.intro (H1.out.2.2.2.1.trans (Moves.of_below hb)) hfar))))
      clear hfar hb hh
      have hnb := HL.out.short v hv
      go_loopg [8, 24] (bel v).length (fun m _ s24 wx => ∃ (k : Nat) (Mk : List Int) (Fk : List Nat) (ok : Nat → Prop), k + m = (bel v).length ∧ s24 = .int .i64 k ∧ Aside (Rig lo V (.func (.func 34) #[G] #[]) (.func (.func gl) #[] cl) Mk wx ∧ Mid bel V M F v k Mk Fk ∧ I ok Fk wx ∧ Moves lo (lo + 5) o w ok wx ∧ Far lo ok wx A (nats (bel v))))
      case atStart => exact ⟨0, _, _, _, by omega, rfl, HS.out⟩
      case round =>
        clear HS HBel
        obtain ⟨k, Mk, Fk, ok, hk, rfl, HS⟩ := hrel
        generalize gk = m at *
        by_cases hlt : k < (bel v).length
        · obtain ⟨x, hx⟩ := some_of_lt hlt
          have hltI : (k : Int) < ((bel v).length : Int) := by omega
          have hk0 : (0 : Int) ≤ (k : Int) := by omega
          obtain ⟨b, s, hS, hc⟩ := HS.out.2.2.2.2.at (nats_at hx)
          have hxV := HL.out.low v hv x (mem_of_some hx)
          have c4 : wr.cell? ⟨lo + 4, 0, none⟩ = some (.func (.func 55) #[] #[.pointer (some ⟨lo + 3, 0, none⟩), .pointer (some ⟨lo, 0, none⟩), .pointer (some ⟨lo + 4, 0, none⟩), .pointer (some ⟨lo + 1, 0, none⟩)]) := by rw [cell_of_row _ (lo + 4) 0 _ _ _ HS.out.1.r4]; rfl
          have HC := Lib.hid (HIH.out Mk Fk ok wr x (by have := HS.out.2.1.less H.out.2.1 hv HZ.out.1; have := HZ.out.2.1; omega) HS.out.1 HS.out.2.1.way (HS.out.2.1.above hv H.out.2.2.1 hx) hxV HS.out.2.2.1)
          have HX := Lib.hid hx
          clear hx HIH
          subst hS
          go_wp2_with (go_at_call 55; refine HC.out.mono ?_; rintro e w3 ⟨bb, o3, rfl, hMv, hD⟩)
          · go_ret
            rename_i hbb
            have hb0 : bb = false := by cases bb <;> simp at hbb ⊢
            exact ⟨false, o3, rfl, HS.out.2.2.2.1.trans hMv, Lib.hid ⟨fun h => Bool.noConfusion h, fun _ => hD.out.2 hb0⟩⟩
          · rename_i hbb
            have hb0 : bb = true := by cases bb <;> simp at hbb ⊢
            obtain ⟨M3, F3, q1, q2, q3⟩ := hD.out.1 hb0
            have HQ := Lib.hid (And.intro q1 (And.intro (HS.out.2.1.step HX.out q2) (And.intro q3 (And.intro (HS.out.2.2.2.1.trans hMv) (HS.out.2.2.2.2.moves hMv)))))
            clear q1 q2 q3 hD hMv
            go_roundg (m - 1)
            case measure => omega
            case rel => exact ⟨k + 1, M3, F3, o3, by omega, by first | rfl | simp, HQ.out⟩
        · have hltn : ¬ ((k : Int) < ((bel v).length : Int)) := by omega
          obtain ⟨q1, q2, q3⟩ := HS.out.2.1.last (by omega) H.out.2.1 hv HZ.out.1
          have hlk := HS.out.2.1.way.len
          have c3' : wr.cell? ⟨lo + 3, 0, none⟩ = some (.slice (some ⟨lo + 2, 0, none⟩) (V + 1) (V + 1)) := by rw [cell_of_row wr (lo + 3) 0 _ _ _ HS.out.1.r3]; rfl
          have cm' := HS.out.1.r2.cell (show v < Mk.length by omega)
          have f2' := HS.out.1.r2.free v
          have hR2 := HS.out.1.mark v 2
          have hI2 := HL.out.still ok Fk wr (wr.setCell ⟨lo + 2, v, none⟩ (.int .i64 2)) HS.out.2.2.1 (Moves.set wr (a := ⟨lo + 2, v, none⟩) _ (by show lo ≤ lo + 2; omega) (by show lo + 2 < lo + 5; omega))
          have hmv2 : Moves lo (lo + 5) ok wr ok (wr.setCell ⟨lo + 2, v, none⟩ (.int .i64 2)) := Moves.set wr (a := ⟨lo + 2, v, none⟩) _ (by show lo ≤ lo + 2; omega) (by show lo + 2 < lo + 5; omega)
          have c1' : (wr.setCell ⟨lo + 2, v, none⟩ (.int .i64 2)).cell? ⟨lo + 1, 0, none⟩ = some (.func (.func gl) #[] cl) := by rw [cell_of_row _ (lo + 1) 0 _ _ _ hR2.r1]; rfl
          have HLe := Lib.hid (HL.out.leave ok Fk _ v hI2 hv q1 q2 hR2.lt)
          have HQ := Lib.hid (And.intro q3 (And.intro hR2 (And.intro (HS.out.2.2.2.1.trans hmv2) fun b h => (HL.out.own ok Fk _ b hI2 h).2)))
          have eg := HL.out.enters
          clear q1 q2 q3 hR2 hI2 hmv2 HL HIH hlk
          go_wp2_with (go_at_fn gl; refine HLe.out.mono ?_; rintro e w3 ⟨o3, rfl, hI3, hMv⟩)
          go_ret
          exact ⟨true, o3, rfl, HQ.out.2.2.1.trans (hMv.wide (by omega)), Lib.hid ⟨fun _ => ⟨_, _, HQ.out.2.1.moves hMv HQ.out.2.2.2, HQ.out.1, hI3⟩, fun h => Bool.noConfusion h⟩⟩
    · rw [hz] at cm
      have HL := Lib.hid (loops_of hv hz hA)
      clear hR hW hA hI ih hL hz
      go_enter Try.func55, Try.ntmps55
      go_wp2_with fail
      go_ret
      exact ⟨false, o, rfl, Moves.refl _ _ _ _, Lib.hid ⟨fun h => Bool.noConfusion h, fun _ => HL.out⟩⟩
    · rw [hz] at cm
      have HG := Lib.hid (Gone.behind hW hv hz)
      clear hR hW hA hI ih hL hz
      go_enter Try.func55, Try.ntmps55
      go_wp2_with fail
      go_ret
      exact ⟨true, o, rfl, Moves.refl _ _ _ _, Lib.hid ⟨fun _ => ⟨M, F, H.out.1, HG.out, H.out.2.2.2⟩, fun h => Bool.noConfusion h⟩⟩
end Go.Proofs.Ytchnpooijaalnaa
