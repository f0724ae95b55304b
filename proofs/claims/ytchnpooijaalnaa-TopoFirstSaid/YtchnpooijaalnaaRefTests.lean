/- The contracts of the tests by definition: limits and widths (conditions: the netlist lies where its value says). -/
import Derived.Test.YtchnpooijaalnaaNetTests
import Derived.Deep.QuietTactic
import Derived.BigQuiet
namespace Go.Proofs.Ytchnpooijaalnaa
open Go.ChangeShapes Go.WideShapes Go.RowKit
set_option linter.unusedVariables false

theorem below_drewN {B : Nat} {w w' : World} (h : Below B w w') (n : Nat) : Below B w (w'.drewN n) := ⟨h.os, h.tape, h.output, h.size, h.block⟩

set_option maxRecDepth 100000 in
set_option maxHeartbeats 1000000 in
theorem rlimits_any (n : PNet) (S : NetS) (w : World) (h : NetAt w w.heap.size S n) (hl : n.outs.length ≤ 1000000 ∧ n.bads.length ≤ 1000000 ∧ n.cons.length ≤ 1000000 ∧ n.mems.length ≤ 1000000) :
    Calls Try.prog 48 #[.agg #[.int .i64 n.vars, .slice S.i n.inputs.length S.ic, .slice S.l n.latches.length S.lc, .slice S.o n.outs.length S.oc, .slice S.b n.bads.length S.bc, .slice S.c n.cons.length S.cc, .slice S.m n.mems.length S.mc, .slice S.a n.ands.length S.ac]] w fun e w' => e = .returned (.bool n.lim) ∧ Below w.heap.size w w' := by
  obtain ⟨hl1, hl2, hl3, hl4⟩ := hl
  by_cases hA : 0 ≤ n.vars ∧ n.vars ≤ 2000 ∧ n.outs.length + n.bads.length + n.cons.length ≤ 1000 ∧ n.mems.length ≤ 4
  · obtain ⟨hA1, hA2, hA3, hA4⟩ := hA
    have hbx := below_box w #[.int .i64 n.vars, .slice S.i n.inputs.length S.ic, .slice S.l n.latches.length S.lc, .slice S.o n.outs.length S.oc, .slice S.b n.bads.length S.bc, .slice S.c n.cons.length S.cc, .slice S.m n.mems.length S.mc, .slice S.a n.ands.length S.ac] 27
    have hM := netBox_new w n S 27
    have hN := NetAt.below hbx (Nat.le_refl _) h
    have p1 : decide (n.vars < 0) = false := by simp; omega
    have p2 : decide (2000 < n.vars) = false := by simp; omega
    have p3 : decide (1000 < (n.outs.length : Int) + (n.bads.length : Int) + (n.cons.length : Int)) = false := by simp; omega
    have p4 : decide (4 < (n.mems.length : Int)) = false := by simp; omega
    go_enter Try.func48, Try.ntmps48
    go_wp2
    clear p1 p2 p3 p4
    generalize w.alloc (.cells #[.int .i64 n.vars, .slice S.i n.inputs.length S.ic, .slice S.l n.latches.length S.lc, .slice S.o n.outs.length S.oc, .slice S.b n.bads.length S.bc, .slice S.c n.cons.length S.cc, .slice S.m n.mems.length S.mc, .slice S.a n.ands.length S.ac] 27) = w2 at hbx hM hN ⊢
    have HB := Lib.hid (And.intro hbx hN)
    obtain ⟨e0, e1, e2, e3, e4, e5, e6, e7, e8⟩ := hM
    clear hbx hN h
    go_loopg [3] n.mems.length (fun m s3 wx => ∃ k : Nat, k + m = n.mems.length ∧ s3 = .int .i64 k ∧ Aside ((n.mems.take k).any PMem.many = false) ∧ w2 = wx)
    case atStart => exact ⟨0, by omega, rfl, by simp [Aside], rfl⟩
    case round =>
      obtain ⟨k, hk, rfl, HI, rfl⟩ := hrel
      generalize gk = m at *
      by_cases hlt : k < n.mems.length
      · obtain ⟨x, hx⟩ := some_of_lt hlt
        have HX := Lib.hid hx
        clear hx
        have hltI : (k : Int) < (n.mems.length : Int) := by omega
        obtain ⟨b, o, hS, hbg, hcell⟩ := HB.out.2.mems.at HX.out
        obtain ⟨a1, c1, a2, c2, m0, m1, m2, m3, m4, hP⟩ := hcell k x HX.out
        rw [hS] at e6
        clear hS hcell hP
        by_cases hq : x.mr.length ≤ 4 ∧ x.mx.length ≤ 4
        · have q1 : decide (4 < (x.mr.length : Int)) = false := by simp; omega
          have q2 : decide (4 < (x.mx.length : Int)) = false := by simp; omega
          have hno : x.many = false := by unfold PMem.many; simp; omega
          have HN := Lib.hid (any_take HX.out HI.out hno)
          clear hno hq
          go_wp2
          go_roundg (m - 1)
          case measure => omega
          case rel => exact ⟨k + 1, by omega, by first | rfl | simp, HN.out, rfl⟩
        · have hno : n.lim = true := by
            unfold PNet.lim
            rw [any_yes HX.out (by unfold PMem.many; simp; omega)]
            simp
          have HN := Lib.hid (And.intro hno hq)
          clear hno hq
          go_wp2
          rotate_left
          · have := HN.out.2
            omega
          all_goals
            go_ret
            exact ⟨ret_bool HN.out.1.symm, HB.out.1⟩
      · have hltn : ¬ ((k : Int) < (n.mems.length : Int)) := by omega
        have HN := Lib.hid (any_done hlt HI.out)
        clear HI
        go_wp2
        all_goals
          go_ret
          refine ⟨ret_bool ?_, HB.out.1⟩
          unfold PNet.lim
          rw [HN.out]
          rw [Bool.eq_iff_iff]; simp; omega
  · have hno : n.lim = true := by
      unfold PNet.lim
      simp
      omega
    have HN := Lib.hid (And.intro hno hA)
    clear hno hA
    go_enter Try.func48, Try.ntmps48
    go_wp2
    rotate_left
    · have := HN.out.2
      omega
    all_goals
      go_ret
      exact ⟨ret_bool HN.out.1.symm, below_box _ _ _⟩

set_option maxHeartbeats 1000000 in
theorem rwide_any (x : PMem) (a : Option Addr) (c : Nat) (a2 : Option Addr) (c2 : Nat) (w : World) (h : Ports w w.heap.size a c a2 c2 x) (hl : x.mr.length ≤ 1000000 ∧ x.mx.length ≤ 1000000) :
    Calls Try.prog 49 #[.agg #[.int .i64 x.ma, .int .i64 x.mw, .bool x.mn, .slice a x.mr.length c, .slice a2 x.mx.length c2]] w fun e w' => e = .returned (.bool x.wide) ∧ Below w.heap.size w w' := by
  obtain ⟨hl1, hl2⟩ := hl
  by_cases hA : 1 ≤ x.ma ∧ x.ma ≤ 62 ∧ 1 ≤ x.mw ∧ x.mw ≤ 64
  · have HA := Lib.hid hA
    obtain ⟨hA1, hA2, hA3, hA4⟩ := hA
    have hbx := below_box w #[.int .i64 x.ma, .int .i64 x.mw, .bool x.mn, .slice a x.mr.length c, .slice a2 x.mx.length c2] 56
    have hM := memBox_new w x a c a2 c2 56
    have hP := Ports.below hbx (Nat.le_refl _) h
    have p1 : decide (x.ma < 1) = false := by simp; omega
    have p2 : decide (62 < x.ma) = false := by simp; omega
    have p3 : decide (x.mw < 1) = false := by simp; omega
    have p4 : decide (64 < x.mw) = false := by simp; omega
    go_enter Try.func49, Try.ntmps49
    go_wp2
    clear p1 p2 p3 p4
    generalize w.alloc (.cells #[.int .i64 x.ma, .int .i64 x.mw, .bool x.mn, .slice a x.mr.length c, .slice a2 x.mx.length c2] 56) = w2 at hbx hM hP ⊢
    have HB := Lib.hid (And.intro hbx (And.intro hP hM))
    clear hbx hP h hM
    go_loopg [3] x.mr.length (fun m s3 wx => ∃ k q : Nat, k + m = x.mr.length ∧ s3 = .int .i64 k ∧ Aside ((x.mr.take k).any (PRead.wide x.ma) = false) ∧ wx = w2.drewN q)
    case atStart => exact ⟨0, 0, by omega, rfl, by simp [Aside], rfl⟩
    case round =>
      obtain ⟨k, q, hk, rfl, HI, rfl⟩ := hrel
      generalize gk = m at *
      obtain ⟨e0, e1, e2, e3, e4, e5⟩ := HB.out.2.2
      by_cases hlt : k < x.mr.length
      · obtain ⟨r, hr⟩ := some_of_lt hlt
        have HX := Lib.hid hr
        clear hr
        have hltI : (k : Int) < (x.mr.length : Int) := by omega
        obtain ⟨b, o, hS, hbg, hcell⟩ := HB.out.2.1.1.at HX.out
        obtain ⟨ra, rc, m0, m1, hsrc, hcap, _⟩ := hcell k r HX.out
        rw [hS] at e3
        clear hS hcell hsrc hcap
        have hk0 : (0 : Int) ≤ (k : Int) := by omega
        by_cases hq : (r.ra.length : Int) = x.ma
        · have q1 : ((r.ra.length : Int) != x.ma) = false := by rw [bne_eq_false_iff_eq]; exact hq
          have HN := Lib.hid (any_take HX.out HI.out (show PRead.wide x.ma r = false by unfold PRead.wide; simp [hq]))
          clear hq
          go_wp2
          go_quiet (fail)
          go_wp2
          go_roundg (m - 1)
          case measure => omega
          case rel => exact ⟨k + 1, _, by omega, by first | rfl | simp, HN.out, rfl⟩
        · have q1 : ((r.ra.length : Int) != x.ma) = true := by rw [bne_iff_ne]; exact hq
          have hno : x.wide = true := by
            unfold PMem.wide
            rw [any_yes HX.out (show PRead.wide x.ma r = true by unfold PRead.wide; simp [hq])]
            simp
          have HN := Lib.hid hno
          clear hq hno
          go_wp2
          go_quiet (fail)
          go_wp2
          go_ret
          exact ⟨ret_bool HN.out.symm, by repeat (first | exact HB.out.1 | refine below_drewN ?_ _)⟩
      · have hltn : ¬ ((k : Int) < (x.mr.length : Int)) := by omega
        have HR := Lib.hid (any_done hlt HI.out)
        clear HI
        go_wp2
        go_loopg [4] x.mx.length (fun m s4 wx => ∃ i p : Nat, i + m = x.mx.length ∧ s4 = .int .i64 i ∧ Aside ((x.mx.take i).any (PWrite.wide x.ma x.mw) = false) ∧ wx = w2.drewN p)
        case atStart => exact ⟨0, q, by omega, rfl, by simp [Aside], rfl⟩
        case round =>
          obtain ⟨i, p, hi, rfl, HJ, rfl⟩ := hrel
          generalize gk = m2 at *
          by_cases hil : i < x.mx.length
          · obtain ⟨r, hr⟩ := some_of_lt hil
            have HX := Lib.hid hr
            clear hr
            have hltI : (i : Int) < (x.mx.length : Int) := by omega
            obtain ⟨b, o, hS, hbg, hcell⟩ := HB.out.2.1.2.1.at HX.out
            obtain ⟨wa, wc, wa2, wc2, m0, m1, m3, hs1, hs2, hc1, hc2, hc3, hc4⟩ := hcell i r HX.out
            rw [hS] at e4
            clear hS hcell hs1 hs2 hc1 hc2 hc3 hc4
            have hi0 : (0 : Int) ≤ (i : Int) := by omega
            by_cases hq : (r.wa.length : Int) = x.ma
            · have q1 : ((r.wa.length : Int) != x.ma) = false := by rw [bne_eq_false_iff_eq]; exact hq
              by_cases hd : (r.wd.length : Int) = x.mw
              · have q2 : ((r.wd.length : Int) != x.mw) = false := by rw [bne_eq_false_iff_eq]; exact hd
                have HN := Lib.hid (any_take HX.out HJ.out (show PWrite.wide x.ma x.mw r = false by unfold PWrite.wide; simp [hq, hd]))
                clear hq hd
                go_wp2
                go_quiet (fail)
                go_wp2
                go_roundg (m2 - 1)
                case measure => omega
                case rel => exact ⟨i + 1, _, by omega, by first | rfl | simp, HN.out, rfl⟩
              · have q2 : ((r.wd.length : Int) != x.mw) = true := by rw [bne_iff_ne]; exact hd
                have hno : x.wide = true := by
                  unfold PMem.wide
                  rw [any_yes HX.out (show PWrite.wide x.ma x.mw r = true by unfold PWrite.wide; simp [hd])]
                  simp
                have HN := Lib.hid hno
                clear hq hd hno
                go_wp2
                go_quiet (fail)
                go_wp2
                go_ret
                exact ⟨ret_bool HN.out.symm, by repeat (first | exact HB.out.1 | refine below_drewN ?_ _)⟩
            · have q1 : ((r.wa.length : Int) != x.ma) = true := by rw [bne_iff_ne]; exact hq
              have hno : x.wide = true := by
                unfold PMem.wide
                rw [any_yes HX.out (show PWrite.wide x.ma x.mw r = true by unfold PWrite.wide; simp [hq])]
                simp
              have HN := Lib.hid hno
              clear hq hno
              go_wp2
              go_quiet (fail)
              go_wp2
              go_ret
              exact ⟨ret_bool HN.out.symm, by repeat (first | exact HB.out.1 | refine below_drewN ?_ _)⟩
          · have hiln : ¬ ((i : Int) < (x.mx.length : Int)) := by omega
            have HW := Lib.hid (any_done hil HJ.out)
            clear HJ
            go_wp2
            go_ret
            refine ⟨ret_bool ?_, by repeat (first | exact HB.out.1 | refine below_drewN ?_ _)⟩
            have hA1 := HA.out.1
            have hA2 := HA.out.2.1
            have hA3 := HA.out.2.2.1
            have hA4 := HA.out.2.2.2
            unfold PMem.wide
            rw [HR.out, HW.out]
            simp; omega
  · have hno : x.wide = true := by
      unfold PMem.wide
      simp
      omega
    have HN := Lib.hid (And.intro hno hA)
    clear hno hA
    go_enter Try.func49, Try.ntmps49
    go_wp2
    rotate_left
    · have := HN.out.2
      omega
    all_goals
      go_ret
      exact ⟨ret_bool HN.out.1.symm, below_box _ _ _⟩
end Go.Proofs.Ytchnpooijaalnaa
