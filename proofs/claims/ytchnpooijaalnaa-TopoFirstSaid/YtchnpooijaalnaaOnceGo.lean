/- What is wrong with a netlist's definitions by the program (conditions: the netlist lies where its value says; words of 0 to 64 bits, ports' first variables no more than 2^61 from 0; from 0 to 2000 variables). -/
import Derived.Test.YtchnpooijaalnaaIter
import Derived.Test.YtchnpooijaalnaaOnce
import Derived.Test.YtchnpooijaalnaaNetTests
namespace Go.Proofs.Ytchnpooijaalnaa
open Go.ChangeShapes Go.WideShapes Go.RowKit Go.Shelf
set_option linter.unusedVariables false
attribute [local go_sem] Oper.semAt_some

/-- Between two rounds: what the loop's variables hold, all blocks from B on. -/
structure Between (n : PNet) (S : NetS) (B : Nat) (pre : List Int) (W : World) : Prop where
  box : W.heap[B]? = some (.cells #[.int .i64 n.vars, .slice S.i n.inputs.length S.ic, .slice S.l n.latches.length S.lc, .slice S.o n.outs.length S.oc, .slice S.b n.bads.length S.bc, .slice S.c n.cons.length S.cc, .slice S.m n.mems.length S.mc, .slice S.a n.ands.length S.ac] 27 (0, 0))
  res : W.heap[B + 1]? = some (.cells #[.int .i64 0] 30 (0, 0))
  marks : Marked W (B + 1 + 1) (n.vars.toNat + 1) pre
  list : W.heap[B + 1 + 1 + 1]? = some (.cells #[.slice (some ⟨B + 1 + 1, 0, none⟩) (n.vars.toNat + 1) (n.vars.toNat + 1)] 48 (0, 0))
  count : W.heap[B + 1 + 1 + 1 + 1]? = some (.cells #[.int .i64 (n.vars - (pre.length : Int))] 3 (0, 0))
  good : Good n.vars pre
/-- A round has ended the loop: why. -/
def Ended (n : PNet) (B : Nat) (c : Code) (pre : List Int) (W : World) : Prop :=
  c = .ret ∧ ∃ (ini : List Int) (x code : Int), pre = ini ++ [x] ∧ Good n.vars ini ∧ (((x < 1 ∨ n.vars < x) ∧ code = 5) ∨ (1 ≤ x ∧ x ≤ n.vars ∧ x ∈ ini ∧ code = 6)) ∧ W.heap[B + 1]? = some (.cells #[.int .i64 code] 30 (0, 0))

theorem row_kept {W W' : World} {row : Option Nat} {k : Nat} {cs : Array Value} {t : TypeId} {fr : Nat × Nat} (h : W.heap[k]? = some (.cells cs t fr)) (hg : W.grownBy W' row) (hr : ∀ r, row = some r → ∃ o : Obj, W.heap[r]? = some o ∧ o.isCells = false) :
    W'.heap[k]? = some (.cells cs t fr) := by
  refine (hg.block k (lt_of_row h) fun e => ?_).trans h
  obtain ⟨o, ho, hc⟩ := hr k e.symm
  rw [h] at ho
  injection ho with ho
  subst ho
  exact absurd hc (by simp [Obj.isCells])
theorem Marked.grown {W W' : World} {row : Option Nat} {g N : Nat} {seen : List Int} (h : Marked W g N seen) (hg : W.grownBy W' row) (hr : ∀ r, row = some r → ∃ o : Obj, W.heap[r]? = some o ∧ o.isCells = false) : Marked W' g N seen := by
  obtain ⟨C, h1, h2⟩ := h
  exact ⟨C, row_kept h1 hg hr, h2⟩
theorem between_own (n : PNet) (S : NetS) (B : Nat) : Go.Own (Between n S B) := fun s A W row hs hg hr =>
  ⟨row_kept hs.box hg hr, row_kept hs.res hg hr, hs.marks.grown hg hr, row_kept hs.list hg hr, row_kept hs.count hg hr, hs.good⟩
theorem ended_own (n : PNet) (B : Nat) (c : Code) : Go.Own (Ended n B c) := fun s A W row hs hg hr => by
  obtain ⟨h1, ini, x, code, h2, h3, h4, h5⟩ := hs
  exact ⟨h1, ini, x, code, h2, h3, h4, row_kept h5 hg hr⟩

theorem alloc_at (w : World) (o : Obj) (k : Nat) (hk : k = w.heap.size) : (w.alloc o).heap[k]? = some o := by subst hk; exact heap_alloc_new w o
/-- The world in which the loop begins. -/
theorem begins (w : World) (n : PNet) (S : NetS) : 
    ∃ W, ((((((w.alloc (.cells #[.int .i64 n.vars, .slice S.i n.inputs.length S.ic, .slice S.l n.latches.length S.lc, .slice S.o n.outs.length S.oc, .slice S.b n.bads.length S.bc, .slice S.c n.cons.length S.cc, .slice S.m n.mems.length S.mc, .slice S.a n.ands.length S.ac] 27)).alloc (.cells #[.int .i64 0] 30)).alloc (.cells (madeCells #[.bool false] (n.vars.toNat + 1)) 4)).alloc
      (.cells #[.slice (some ⟨w.heap.size + 1 + 1, 0, none⟩) (n.vars.toNat + 1) (n.vars.toNat + 1)] 48)).alloc (.cells #[.int .i64 n.vars] 3)).alloc (.cells #[.int .i64 n.vars, .slice S.i n.inputs.length S.ic, .slice S.l n.latches.length S.lc, .slice S.o n.outs.length S.oc, .slice S.b n.bads.length S.bc, .slice S.c n.cons.length S.cc, .slice S.m n.mems.length S.mc, .slice S.a n.ands.length S.ac] 27)) = W ∧
      Between n S w.heap.size [] W ∧ NetBox W (w.heap.size + 1 + 1 + 1 + 1 + 1) n S ∧ Below w.heap.size w W ∧ W.heap.size = w.heap.size + 1 + 1 + 1 + 1 + 1 + 1 := by
  refine ⟨_, rfl, ⟨?_, ?_, ?_, ?_, ?_, ⟨by simp, by simp⟩⟩, ?_, ?_, ?_⟩
  · rw [Below.heap_alloc _ _ _ (by simp only [World.size_alloc]; omega), Below.heap_alloc _ _ _ (by simp only [World.size_alloc]; omega), Below.heap_alloc _ _ _ (by simp only [World.size_alloc]; omega), Below.heap_alloc _ _ _ (by simp only [World.size_alloc]; omega), Below.heap_alloc _ _ _ (by simp only [World.size_alloc]; omega)]
    exact alloc_at _ _ _ rfl
  · rw [Below.heap_alloc _ _ _ (by simp only [World.size_alloc]; omega), Below.heap_alloc _ _ _ (by simp only [World.size_alloc]; omega), Below.heap_alloc _ _ _ (by simp only [World.size_alloc]; omega), Below.heap_alloc _ _ _ (by simp only [World.size_alloc]; omega)]
    exact alloc_at _ _ _ (by simp only [World.size_alloc])
  · have h := Marked.new ((w.alloc (.cells #[.int .i64 n.vars, .slice S.i n.inputs.length S.ic, .slice S.l n.latches.length S.lc, .slice S.o n.outs.length S.oc, .slice S.b n.bads.length S.bc, .slice S.c n.cons.length S.cc, .slice S.m n.mems.length S.mc, .slice S.a n.ands.length S.ac] 27)).alloc (.cells #[.int .i64 0] 30)) (n.vars.toNat + 1)
    have e : ((w.alloc (.cells #[.int .i64 n.vars, .slice S.i n.inputs.length S.ic, .slice S.l n.latches.length S.lc, .slice S.o n.outs.length S.oc, .slice S.b n.bads.length S.bc, .slice S.c n.cons.length S.cc, .slice S.m n.mems.length S.mc, .slice S.a n.ands.length S.ac] 27)).alloc (.cells #[.int .i64 0] 30)).heap.size = w.heap.size + 1 + 1 := by simp
    rw [e] at h
    refine h.same ?_
    rw [Below.heap_alloc _ _ _ (by simp), Below.heap_alloc _ _ _ (by simp), Below.heap_alloc _ _ _ (by simp)]
  · rw [Below.heap_alloc _ _ _ (by simp only [World.size_alloc]; omega), Below.heap_alloc _ _ _ (by simp only [World.size_alloc]; omega)]
    exact alloc_at _ _ _ (by simp only [World.size_alloc])
  · rw [Below.heap_alloc _ _ _ (by simp only [World.size_alloc]; omega)]
    refine (alloc_at _ _ _ (by simp only [World.size_alloc])).trans ?_
    simp
  · have h := netBox_new (((((w.alloc (.cells #[.int .i64 n.vars, .slice S.i n.inputs.length S.ic, .slice S.l n.latches.length S.lc, .slice S.o n.outs.length S.oc, .slice S.b n.bads.length S.bc, .slice S.c n.cons.length S.cc, .slice S.m n.mems.length S.mc, .slice S.a n.ands.length S.ac] 27)).alloc (.cells #[.int .i64 0] 30)).alloc (.cells (madeCells #[.bool false] (n.vars.toNat + 1)) 4)).alloc
      (.cells #[.slice (some ⟨w.heap.size + 1 + 1, 0, none⟩) (n.vars.toNat + 1) (n.vars.toNat + 1)] 48)).alloc (.cells #[.int .i64 n.vars] 3)) n S 27
    simpa using h
  · exact ((((((Below.refl _ w).alloc (Nat.le_refl _) _).alloc (by simp) _).alloc (by simp; omega) _).alloc (by simp; omega) _).alloc (by simp; omega) _).alloc (by simp; omega) _
  · simp

set_option maxRecDepth 100000 in
set_option maxHeartbeats 4000000 in
theorem once_any (n : PNet) (S : NetS) (w : World) (h : NetAt w w.heap.size S n) (hm : n.modest) (ht : ∀ m ∈ n.mems, m.told) (hv : 0 ≤ n.vars ∧ n.vars ≤ 2000) :
    Calls Try.prog 42 #[.agg #[.int .i64 n.vars, .slice S.i n.inputs.length S.ic, .slice S.l n.latches.length S.lc, .slice S.o n.outs.length S.oc, .slice S.b n.bads.length S.bc, .slice S.c n.cons.length S.cc, .slice S.m n.mems.length S.mc, .slice S.a n.ands.length S.ac]] w fun e w' => e = .returned (.int .i64 n.once) ∧ Below w.heap.size w w' := by
  obtain ⟨hv0, hv1⟩ := hv
  have hmk := run_marks n.vars hv0 (by omega)
  refine (callsIn_wide (n := 6)).1 ?_
  refine callsIn_of_wp_marks Try.func42 rfl trivial ?_ rfl
  simp only [Try.ntmps42, List.size_toArray, List.length_cons, List.length_nil, Nat.reduceAdd, Nat.reduceSub, Array.replicate_succ, Array.replicate_zero, List.push_toArray, List.append_toArray, List.nil_append, List.cons_append]
  gi_wp2_with (refine ⟨trivial, ?_⟩; gi_at_call 66; refine (callsIn_wide.2 (definitions_any n S _)).mono ?_; rintro e w' ⟨rfl, rfl⟩)
  obtain ⟨W0, hW0, hB0, hbx, hbe, hsz⟩ := begins w n S
  rw [hW0]
  clear hW0 hmk
  have hN0 : NetAt W0 (w.heap.size + 1) S n := NetAt.wider (Nat.le_succ _) (NetAt.below hbe (Nat.le_refl _) h)
  have hst := iter_stops 5 (by omega) n S (w.heap.size + 1) (w.heap.size + 1 + 1 + 1 + 1 + 1) (w.heap.size + 1 + 1 + 1 + 1 + 1) W0 (by omega) (Nat.le_refl _) hbx hN0 hm ht
  clear hbx hN0 hm ht h
  refine wpIn_rangeFunc_ownF rfl (by omega) (gf := 86) (lb := #[.pointer (some ⟨w.heap.size + 1 + 1 + 1 + 1 + 1, 0, none⟩)]) rfl trivial (enters_of Try.func86 (by kernel_rfl) rfl)
    hst (fun h k => Keeps.trans h k) (fun W l o o' _ h ho _ => Keeps.put W l o o' h ho) (Below.refl _ _) (fun _ => rfl)
    (fun pre W => Between n S w.heap.size pre W ∧ Below w.heap.size w W)
    (fun c pre W => Ended n w.heap.size c pre W ∧ Below w.heap.size w W)
    (OwnFrom.and ((between_own n S _).from _) (ownFrom_below (Nat.le_refl _) (by omega)))
    (fun c => OwnFrom.and ((ended_own n _ c).from _) (ownFrom_below (Nat.le_refl _) (by omega)))
    ⟨hB0, hbe⟩
    (fun x => { tmps := #[.agg #[.int .i64 n.vars, .slice S.i n.inputs.length S.ic, .slice S.l n.latches.length S.lc, .slice S.o n.outs.length S.oc, .slice S.b n.bads.length S.bc, .slice S.c n.cons.length S.cc, .slice S.m n.mems.length S.mc, .slice S.a n.ands.length S.ac], .pointer (some ⟨w.heap.size, 0, none⟩), .pointer (some ⟨w.heap.size + 1, 0, none⟩), .pointer (some ⟨w.heap.size + 1 + 1 + 1, 0, none⟩), .pointer (some ⟨w.heap.size + 1 + 1 + 1 + 1, 0, none⟩), .int .i64 x,
      .pointer (some ⟨w.heap.size, 0, none⟩), .int .i64 n.vars, .int .i64 (n.vars + 1), .slice (some ⟨w.heap.size + 1 + 1, 0, none⟩) (n.vars.toNat + 1) (n.vars.toNat + 1), .pointer (some ⟨w.heap.size, 0, none⟩), .int .i64 n.vars, .agg #[.int .i64 n.vars, .slice S.i n.inputs.length S.ic, .slice S.l n.latches.length S.lc, .slice S.o n.outs.length S.oc, .slice S.b n.bads.length S.bc, .slice S.c n.cons.length S.cc, .slice S.m n.mems.length S.mc, .slice S.a n.ands.length S.ac],
      .func (.func 86) #[] #[.pointer (some ⟨w.heap.size + 1 + 1 + 1 + 1 + 1, 0, none⟩)], .int .i64 x, undef, undef, undef, undef, undef, undef, undef, undef, undef, undef, undef, undef, undef, undef, undef, undef], defers := [] }) ?assign ?body ?done ?stop
  case assign =>
    intro l x W K hK
    gi_wp2
    exact hK
  case body =>
    rintro l pre x W ⟨hL, hB⟩ _
    have c0 : W.cell? ⟨w.heap.size, 0, none⟩ = some (.int .i64 n.vars) := by rw [cell_of_row W _ 0 _ _ _ hL.box]; rfl
    have cr : W.cell? ⟨w.heap.size + 1, 0, none⟩ = some (.int .i64 0) := by rw [cell_of_row W _ 0 _ _ _ hL.res]; rfl
    have fr : W.frozen? ⟨w.heap.size + 1, 0, none⟩ = false := frozen_of_row W _ 0 _ _ hL.res
    have cl : W.cell? ⟨w.heap.size + 1 + 1 + 1, 0, none⟩ = some (.slice (some ⟨w.heap.size + 1 + 1, 0, none⟩) (n.vars.toNat + 1) (n.vars.toNat + 1)) := by rw [cell_of_row W _ 0 _ _ _ hL.list]; rfl
    have cc : W.cell? ⟨w.heap.size + 1 + 1 + 1 + 1, 0, none⟩ = some (.int .i64 (n.vars - (pre.length : Int))) := by rw [cell_of_row W _ 0 _ _ _ hL.count]; rfl
    have fc : W.frozen? ⟨w.heap.size + 1 + 1 + 1 + 1, 0, none⟩ = false := frozen_of_row W _ 0 _ _ hL.count
    have hlen := hL.good.len hv0
    have HL := Lib.hid hL
    by_cases hx : 1 ≤ x ∧ x ≤ n.vars
    · obtain ⟨y, rfl⟩ := Int.eq_ofNat_of_zero_le (show 0 ≤ x by omega)
      have hy : y < n.vars.toNat + 1 := by omega
      have hyI : (y : Int) < ((n.vars.toNat + 1 : Nat) : Int) := by omega
      have hy0 : (0 : Int) ≤ (y : Int) := by omega
      have cm := hL.marks.cell hy
      have fm := hL.marks.free y
      have HXX := Lib.hid hx
      by_cases hs : (y : Int) ∈ pre
      · rw [decide_eq_true hs] at cm
        have HS := Lib.hid hs
        clear hL hs
        gi_wp2_with (refine ⟨trivial, ?_⟩; gi_at_call 45; refine (CallsIn.inRound l (callsIn_wide.2 (within_yes _ _ _ _ hx))).mono ?_; rintro e w' ⟨rfl, rfl⟩)
        exact ⟨KeepsOthers.setCell _ _ _, ⟨rfl, pre, _, 6, rfl, HL.out.good, .inr ⟨HXX.out.1, HXX.out.2, HS.out, rfl⟩, (heap_setCell_same W _ 0 _ _ _ HL.out.res).trans rfl⟩, hB.setCell (p := ⟨w.heap.size + 1, 0, none⟩) (by simp) _⟩
      · rw [decide_eq_false hs] at cm
        have HS := Lib.hid hs
        clear hL hs
        gi_wp2_with (refine ⟨trivial, ?_⟩; gi_at_call 45; refine (CallsIn.inRound l (callsIn_wide.2 (within_yes _ _ _ _ hx))).mono ?_; rintro e w' ⟨rfl, rfl⟩)
        refine ⟨(KeepsOthers.setCell _ _ _).trans (KeepsOthers.setCell _ _ _), (Keeps.set W _ (by simp) (by first | (simp; done) | (simp; omega))).trans (Keeps.set _ _ (by first | (simp; done) | (simp; omega)) (by simp)), ⟨?_, ?_, ?_, ?_, ?_, ?_⟩, (hB.setCell (p := ⟨w.heap.size + 1 + 1, y, none⟩) (by first | (simp; done) | (simp; omega)) _).setCell (p := ⟨w.heap.size + 1 + 1 + 1 + 1, 0, none⟩) (by first | (simp; done) | (simp; omega)) _⟩
        · exact ((heap_setCell_other _ _ _ _ (by first | (simp; done) | (simp; omega))).trans (heap_setCell_other _ _ _ _ (by first | (simp; done) | (simp; omega)))).trans HL.out.box
        · exact ((heap_setCell_other _ _ _ _ (by first | (simp; done) | (simp; omega))).trans (heap_setCell_other _ _ _ _ (by simp))).trans HL.out.res
        · exact (HL.out.marks.set hy).same (heap_setCell_other _ _ _ _ (by first | (simp; done) | (simp; omega)))
        · exact ((heap_setCell_other _ _ _ _ (by simp)).trans (heap_setCell_other _ _ _ _ (by simp))).trans HL.out.list
        · refine (heap_setCell_same _ _ 0 _ _ _ ((heap_setCell_other _ _ _ _ (by first | (simp; done) | (simp; omega))).trans HL.out.count)).trans ?_
          simp
          omega
        · exact HL.out.good.snoc HXX.out.1 HXX.out.2 HS.out
    · have hx : x < 1 ∨ n.vars < x := by omega
      have HXX := Lib.hid hx
      clear hL
      gi_wp2_with (refine ⟨trivial, ?_⟩; gi_at_call 45; refine (CallsIn.inRound l (callsIn_wide.2 (within_no _ _ _ _ hx))).mono ?_; rintro e w' ⟨rfl, rfl⟩)
      exact ⟨KeepsOthers.setCell _ _ _, ⟨rfl, pre, _, 5, rfl, HL.out.good, .inl ⟨HXX.out, rfl⟩, (heap_setCell_same W _ 0 _ _ _ HL.out.res).trans rfl⟩, hB.setCell (p := ⟨w.heap.size + 1, 0, none⟩) (by simp) _⟩
  case done =>
    rintro D ys W hD rfl ⟨hL, hB⟩ hK
    have cr : W.cell? ⟨w.heap.size + 1, 0, none⟩ = some (.int .i64 0) := by rw [cell_of_row W _ 0 _ _ _ hL.res]; rfl
    have fr : W.frozen? ⟨w.heap.size + 1, 0, none⟩ = false := frozen_of_row W _ 0 _ _ hL.res
    have cc : W.cell? ⟨w.heap.size + 1 + 1 + 1 + 1, 0, none⟩ = some (.int .i64 (n.vars - (n.defs.length : Int))) := by rw [cell_of_row W _ 0 _ _ _ hL.count]; rfl
    have hDn : D ≠ w.heap.size + 1 := by omega
    have HG := Lib.hid (good_all hL.good)
    have HR := Lib.hid hL.res
    have HK := Lib.hid hK
    clear hL
    by_cases hq : (n.defs.length : Int) < n.vars
    · have hd : decide ((n.defs.length : Int) < n.vars) = true := by simp; omega
      have HO := Lib.hid (show n.once = 7 by rw [HG.out, if_pos hq])
      clear hq
      gi_wp2
      have hK' := (KeepsOthers.setCell W ⟨w.heap.size + 1, 0, none⟩ (.int .i64 7)).same D _ HK.out rfl
      refine ⟨by simp, .inl ⟨_, _, rfl, run_takeDeferred hK', ?_⟩⟩
      have hc5 := cell_kept (World.cell?_setCell_same' W ⟨w.heap.size + 1, 0, none⟩ (.int .i64 7) (by rw [cr]; rfl)) (grownBy_putObj' _ D (.deferred none)) (fun r e => by cases e; exact ⟨_, hK', rfl⟩)
      refine ⟨.int .i64 7, ?_, by rw [HO.out], (hB.setCell (p := ⟨w.heap.size + 1, 0, none⟩) (by simp) _).trans (belowK_b (w := w) (Nat.le_refl _) _ D _ _ (by omega) hK' rfl rfl)⟩
      simp [results, Try.f42, go_sem, hc5]
    · have hd : decide ((n.defs.length : Int) < n.vars) = false := by simp; omega
      have HO := Lib.hid (show n.once = 0 by rw [HG.out, if_neg hq])
      clear hq
      gi_wp2
      have hK' := (KeepsOthers.setCell W ⟨w.heap.size + 1, 0, none⟩ (.int .i64 0)).same D _ HK.out rfl
      refine ⟨by simp, .inl ⟨_, _, rfl, run_takeDeferred hK', ?_⟩⟩
      have hc5 := cell_kept (World.cell?_setCell_same' W ⟨w.heap.size + 1, 0, none⟩ (.int .i64 0) (by rw [cr]; rfl)) (grownBy_putObj' _ D (.deferred none)) (fun r e => by cases e; exact ⟨_, hK', rfl⟩)
      refine ⟨.int .i64 0, ?_, by rw [HO.out], (hB.setCell (p := ⟨w.heap.size + 1, 0, none⟩) (by simp) _).trans (belowK_b (w := w) (Nat.le_refl _) _ D _ _ (by omega) hK' rfl rfl)⟩
      simp [results, Try.f42, go_sem, hc5]
  case stop =>
    rintro D c pre W hD hpre ⟨⟨rfl, ini, x, code, rfl, hg, hcode, hres⟩, hB⟩ hK
    have HO := Lib.hid (show n.once = code by
      have := good_part hg hpre
      rcases hcode with ⟨h1, rfl⟩ | ⟨h1, h2, h3, rfl⟩
      · exact this.1 h1
      · exact this.2 h1 h2 h3)
    have HR := Lib.hid hres
    have HK := Lib.hid hK
    clear hres hcode
    gi_wp2
    refine ⟨by simp, .inl ⟨_, _, rfl, run_takeDeferred HK.out, ?_⟩⟩
    have hc5 := cell_kept (show W.cell? ⟨w.heap.size + 1, 0, none⟩ = some (.int .i64 code) by rw [cell_of_row W _ 0 _ _ _ HR.out]; rfl) (grownBy_putObj' _ D (.deferred none)) (fun r e => by cases e; exact ⟨_, HK.out, rfl⟩)
    refine ⟨.int .i64 code, ?_, by rw [HO.out], hB.trans (belowK_b (w := w) (Nat.le_refl _) W D _ _ (by omega) HK.out rfl rfl)⟩
    simp [results, Try.f42, go_sem, hc5]
end Go.Proofs.Ytchnpooijaalnaa
