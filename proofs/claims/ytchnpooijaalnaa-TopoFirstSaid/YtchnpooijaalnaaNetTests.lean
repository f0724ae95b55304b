/- The contracts of package net's tests: limits, widths, how latches begin (conditions: the netlist lies where its value says). -/
import Derived.Test.YtchnpooijaalnaaContains
namespace Go.Proofs.Ytchnpooijaalnaa
open Go.ChangeShapes Go.WideShapes Go.RowKit
set_option linter.unusedVariables false

theorem within_yes (x a b : Int) (w : World) (h : a ≤ x ∧ x ≤ b) : Calls Try.prog 45 #[.int .i64 x, .int .i64 a, .int .i64 b] w fun e w' => e = .returned (.bool true) ∧ w = w' := by
  have h1 := h.1
  have h2 := h.2
  clear h
  go_enter Try.func45, Try.ntmps45
  go_wp2
  go_ret
  exact ⟨ret_bool (by simp), rfl⟩
theorem within_no (x a b : Int) (w : World) (h : x < a ∨ b < x) : Calls Try.prog 45 #[.int .i64 x, .int .i64 a, .int .i64 b] w fun e w' => e = .returned (.bool false) ∧ w = w' := by
  by_cases h1 : a ≤ x
  · have h2 : decide (x ≤ b) = false := by simp; omega
    clear h
    go_enter Try.func45, Try.ntmps45
    go_wp2
    go_ret
    exact ⟨ret_bool (by first | rfl | (simp; omega)), rfl⟩
  · have h2 : decide (a ≤ x) = false := by simp; omega
    clear h h1
    go_enter Try.func45, Try.ntmps45
    go_wp2
    go_ret
    exact ⟨ret_bool (by first | rfl | (simp; omega)), rfl⟩

theorem many_any (x : PMem) (a : Option Addr) (c : Nat) (a2 : Option Addr) (c2 : Nat) (w : World) :
    Calls Try.prog 59 #[.agg #[.int .i64 x.ma, .int .i64 x.mw, .bool x.mn, .slice a x.mr.length c, .slice a2 x.mx.length c2]] w fun e w' => e = .returned (.bool x.many) ∧ Below w.heap.size w w' := by
  go_enter Try.func59, Try.ntmps59
  go_wp2
  all_goals
    go_ret
    refine ⟨ret_bool ?_, (Below.refl _ _).alloc (Nat.le_refl _) _⟩
    unfold PMem.many
    rw [Bool.eq_iff_iff]; simp; omega

theorem begins_any (x : PLatch) (w : World) :
    Calls Try.prog 41 #[.agg #[.int .i64 x.lv, .int .i64 x.ln, .int .i64 x.li]] w fun e w' => e = .returned (.bool x.wrong) ∧ Below w.heap.size w w' := by
  go_enter Try.func41, Try.ntmps41
  go_wp2
  all_goals
    go_ret
    refine ⟨ret_bool ?_, (Below.refl _ _).alloc (Nat.le_refl _) _⟩
    unfold PLatch.wrong
    rw [Bool.eq_iff_iff]; simp; omega

theorem widthR_any (x : PRead) (a : Option Addr) (c : Nat) (m : Int) (g : Nat) (w : World) (hg : g < w.heap.size) (hm : w.cell? ⟨g, 0, none⟩ = some (.int .i64 m)) :
    Calls Try.prog 61 #[.agg #[.int .i64 x.rv, .slice a x.ra.length c], .pointer (some ⟨g, 0, none⟩)] w fun e w' => e = .returned (.bool (x.wide m)) ∧ Below w.heap.size w w' := by
  go_enter Try.func61, Try.ntmps61
  go_wp2
  go_ret
  refine ⟨ret_bool ?_, (Below.refl _ _).alloc (Nat.le_refl _) _⟩
  unfold PRead.wide
  rw [Bool.eq_iff_iff]; simp

theorem widthW_any (x : PWrite) (a : Option Addr) (c : Nat) (a2 : Option Addr) (c2 : Nat) (m d : Int) (g : Nat) (w : World) (hg : g < w.heap.size) (hm : w.cell? ⟨g, 0, none⟩ = some (.int .i64 m)) (hd : w.cell? ⟨g, 1, none⟩ = some (.int .i64 d)) :
    Calls Try.prog 62 #[.agg #[.int .i64 x.wo, .slice a x.wa.length c, .slice a2 x.wd.length c2], .pointer (some ⟨g, 0, none⟩)] w fun e w' => e = .returned (.bool (x.wide m d)) ∧ Below w.heap.size w w' := by
  go_enter Try.func62, Try.ntmps62
  go_wp2
  all_goals
    go_ret
    refine ⟨ret_bool ?_, (Below.refl _ _).alloc (Nat.le_refl _) _⟩
    unfold PWrite.wide
    rw [Bool.eq_iff_iff]; simp
    try omega

theorem reads_differ (x : PMem) (a : Option Addr) (c : Nat) (a2 : Option Addr) (c2 : Nat) (g B : Nat) (w : World) (hB : B ≤ w.heap.size) (h : Ports w B a c a2 c2 x) (hg : g < w.heap.size) (hm : w.cell? ⟨g, 0, none⟩ = some (.int .i64 x.ma)) :
    Calls Try.prog 63 #[.slice a x.mr.length c, .func (.func 61) #[] #[.pointer (some ⟨g, 0, none⟩)]] w
      fun e w' => e = .returned (.bool (x.mr.any (PRead.wide x.ma))) ∧ Below w.heap.size w w' :=
  contains_read a c x.mr (PRead.wide x.ma) 61 #[.pointer (some ⟨g, 0, none⟩)] (enters_of Try.func61 (by kernel_rfl) rfl) w (by have := h.2.2; omega) (Ports.wider hB h).1
    fun V r a c hr hV hs => widthR_any r a c x.ma g V (by have := hV.size; omega) ((hV.cell (p := ⟨g, 0, none⟩) hg).trans hm)

theorem writes_differ (x : PMem) (a : Option Addr) (c : Nat) (a2 : Option Addr) (c2 : Nat) (g B : Nat) (w : World) (hB : B ≤ w.heap.size) (h : Ports w B a c a2 c2 x) (hg : g < w.heap.size) (hm : w.cell? ⟨g, 0, none⟩ = some (.int .i64 x.ma)) (hd : w.cell? ⟨g, 1, none⟩ = some (.int .i64 x.mw)) :
    Calls Try.prog 64 #[.slice a2 x.mx.length c2, .func (.func 62) #[] #[.pointer (some ⟨g, 0, none⟩)]] w
      fun e w' => e = .returned (.bool (x.mx.any (PWrite.wide x.ma x.mw))) ∧ Below w.heap.size w w' :=
  contains_write a2 c2 x.mx (PWrite.wide x.ma x.mw) 62 #[.pointer (some ⟨g, 0, none⟩)] (enters_of Try.func62 (by kernel_rfl) rfl) w (by have := h.2.2; omega) (Ports.wider hB h).2.1
    fun V r a c a2 c2 hr hV hs hs2 => widthW_any r a c a2 c2 x.ma x.mw g V (by have := hV.size; omega) ((hV.cell (p := ⟨g, 0, none⟩) hg).trans hm) ((hV.cell (p := ⟨g, 1, none⟩) hg).trans hd)

set_option maxHeartbeats 1000000 in
theorem widths_any (x : PMem) (a : Option Addr) (c : Nat) (a2 : Option Addr) (c2 : Nat) (w : World) (h : Ports w w.heap.size a c a2 c2 x) :
    Calls Try.prog 39 #[.agg #[.int .i64 x.ma, .int .i64 x.mw, .bool x.mn, .slice a x.mr.length c, .slice a2 x.mx.length c2]] w fun e w' => e = .returned (.bool x.wide) ∧ Below w.heap.size w w' := by
  have hbx := below_box w #[.int .i64 x.ma, .int .i64 x.mw, .bool x.mn, .slice a x.mr.length c, .slice a2 x.mx.length c2] 56
  have hM := memBox_new w x a c a2 c2 56
  have hP := Ports.below hbx (Nat.le_refl _) h
  have hR := Lib.hid (reads_differ x a c a2 c2 w.heap.size w.heap.size _ (by simp) hP hM.lt hM.m0)
  have hW := Lib.hid fun (W : World) (hb : Below (w.alloc (.cells #[.int .i64 x.ma, .int .i64 x.mw, .bool x.mn, .slice a x.mr.length c, .slice a2 x.mx.length c2] 56)).heap.size (w.alloc (.cells #[.int .i64 x.ma, .int .i64 x.mw, .bool x.mn, .slice a x.mr.length c, .slice a2 x.mx.length c2] 56)) W) =>
    writes_differ x a c a2 c2 w.heap.size w.heap.size W (by have := hb.size; simp at this; omega) (Ports.below hb (by simp) hP) (hM.below hb hM.lt).lt (hM.below hb hM.lt).m0 (hM.below hb hM.lt).m1
  have HB := Lib.hid (And.intro hbx hM)
  clear hbx hM hP h
  by_cases ha : 1 ≤ x.ma ∧ x.ma ≤ 62
  · by_cases hd : 1 ≤ x.mw ∧ x.mw ≤ 64
    · cases hq : x.mr.any (PRead.wide x.ma) with
      | true =>
        rw [hq] at hR
        have HN := Lib.hid hq
        clear hq
        go_enter Try.func39, Try.ntmps39
        go_wp2_with (first | (go_at_call 45; refine (within_yes _ _ _ _ (by omega)).mono ?_; rintro e w' ⟨rfl, rfl⟩) | (go_at_call 63; refine hR.out.mono ?_; rintro e w1 ⟨rfl, hb1⟩))
        go_ret
        refine ⟨ret_bool ?_, below_on HB.out.1 hb1⟩
        unfold PMem.wide
        rw [HN.out]
        simp
      | false =>
        rw [hq] at hR
        have HN := Lib.hid hq
        clear hq
        go_enter Try.func39, Try.ntmps39
        go_wp2_with (first | (go_at_call 45; refine (within_yes _ _ _ _ (by omega)).mono ?_; rintro e w' ⟨rfl, rfl⟩) | (go_at_call 63; refine hR.out.mono ?_; rintro e w1 ⟨rfl, hb1⟩; obtain ⟨e0, e1, e2, e3, e4, e5⟩ := HB.out.2.below hb1 HB.out.2.lt) | (go_at_call 64; refine (hW.out _ hb1).mono ?_; rintro e w2 ⟨rfl, hb2⟩))
        go_ret
        refine ⟨ret_bool ?_, below_on HB.out.1 (below_on hb1 hb2)⟩
        have hA := ha.1
        have hB := ha.2
        have hC := hd.1
        have hD := hd.2
        unfold PMem.wide
        rw [HN.out]
        rw [Bool.eq_iff_iff]; simp; omega
    · have hd2 : x.mw < 1 ∨ 64 < x.mw := by omega
      have HD := Lib.hid hd2
      clear hd hd2
      go_enter Try.func39, Try.ntmps39
      go_wp2_with (first | (go_at_call 45; ((with_reducible refine (within_yes x.ma _ _ _ ha).mono ?_); rintro e w' ⟨rfl, rfl⟩)) | (go_at_call 45; ((with_reducible refine (within_no x.mw _ _ _ HD.out).mono ?_); rintro e w' ⟨rfl, rfl⟩)))
      go_ret
      refine ⟨ret_bool ?_, HB.out.1⟩
      have := HD.out
      unfold PMem.wide
      rw [Bool.eq_iff_iff]; simp; omega
  · have ha2 : x.ma < 1 ∨ 62 < x.ma := by omega
    have HD := Lib.hid ha2
    clear ha ha2
    go_enter Try.func39, Try.ntmps39
    go_wp2_with (go_at_call 45; refine (within_no x.ma _ _ _ HD.out).mono ?_; rintro e w' ⟨rfl, rfl⟩)
    go_ret
    refine ⟨ret_bool ?_, HB.out.1⟩
    have := HD.out
    unfold PMem.wide
    rw [Bool.eq_iff_iff]; simp; omega

set_option maxHeartbeats 1000000 in
theorem above_any (n : PNet) (S : NetS) (w : World) (h : NetAt w w.heap.size S n) (hl : n.outs.length ≤ 1000000 ∧ n.bads.length ≤ 1000000 ∧ n.cons.length ≤ 1000000) :
    Calls Try.prog 37 #[.agg #[.int .i64 n.vars, .slice S.i n.inputs.length S.ic, .slice S.l n.latches.length S.lc, .slice S.o n.outs.length S.oc, .slice S.b n.bads.length S.bc, .slice S.c n.cons.length S.cc, .slice S.m n.mems.length S.mc, .slice S.a n.ands.length S.ac]] w fun e w' => e = .returned (.bool n.lim) ∧ Below w.heap.size w w' := by
  have hbx := below_box w #[.int .i64 n.vars, .slice S.i n.inputs.length S.ic, .slice S.l n.latches.length S.lc, .slice S.o n.outs.length S.oc, .slice S.b n.bads.length S.bc, .slice S.c n.cons.length S.cc, .slice S.m n.mems.length S.mc, .slice S.a n.ands.length S.ac] 27
  have hM := netBox_new w n S 27
  have hN := NetAt.later h hbx (by simp)
  have hq := contains_memory S.m S.mc n.mems PMem.many 59 #[] (enters_of Try.func59 (by kernel_rfl) rfl) _ (by have := h.caps; have := h.room; omega) hN.mems
    fun V x a c a2 c2 hx hV hP => many_any x a c a2 c2 V
  obtain ⟨hl1, hl2, hl3⟩ := hl
  have HB := Lib.hid (And.intro hbx hM)
  clear hbx hM hN h
  by_cases hv : 0 ≤ n.vars ∧ n.vars ≤ 2000
  · cases hm : n.mems.any PMem.many
    all_goals
      rw [hm] at hq
      have HQ := Lib.hid hq
      have HM := Lib.hid hm
      clear hm hq
      go_enter Try.func37, Try.ntmps37
      go_wp2_with (first | (go_at_call 45; refine (within_yes _ _ _ _ (by omega)).mono ?_; rintro e w' ⟨rfl, rfl⟩) | (go_at_call 38; refine HQ.out.mono ?_; rintro e w1 ⟨rfl, hb1⟩; obtain ⟨e0, e1, e2, e3, e4, e5, e6, e7, e8⟩ := HB.out.2.below hb1 HB.out.2.lt))
      all_goals
        go_ret
        refine ⟨ret_bool ?_, by first | exact HB.out.1 | exact below_on HB.out.1 hb1⟩
        have hA := hv.1
        have hB := hv.2
        unfold PNet.lim
        rw [HM.out]
        rw [Bool.eq_iff_iff]; simp; try omega
  · have hv2 : n.vars < 0 ∨ 2000 < n.vars := by omega
    have HD := Lib.hid hv2
    clear hv hv2
    go_enter Try.func37, Try.ntmps37
    go_wp2_with (go_at_call 45; refine (within_no n.vars _ _ _ HD.out).mono ?_; rintro e w' ⟨rfl, rfl⟩)
    go_ret
    refine ⟨ret_bool ?_, HB.out.1⟩
    have := HD.out
    unfold PNet.lim
    rw [Bool.eq_iff_iff]; simp; omega
end Go.Proofs.Ytchnpooijaalnaa
