/- net.Sound and the answer by definition are one: the contract of net.Sound (conditions: the netlist lies where its value says; its numbers are int's; ports begin near 0; each list has at most 1000000 parts). -/
import Derived.Test.YtchnpooijaalnaaOnceGo
import Derived.Test.YtchnpooijaalnaaNetLits
import Derived.Test.YtchnpooijaalnaaMake
import Derived.Test.YtchnpooijaalnaaRefSound
namespace Go.Proofs.Ytchnpooijaalnaa
open Go.ChangeShapes Go.WideShapes Go.RowKit
set_option linter.unusedVariables false

theorem mems_differ (n : PNet) (S : NetS) (w : World) (h : NetAt w w.heap.size S n) : Calls Try.prog 38 #[.slice S.m n.mems.length S.mc, .func (.func 39) #[] #[]] w
    fun e w' => e = .returned (.bool (n.mems.any PMem.wide)) ∧ Below w.heap.size w w' :=
  contains_memory S.m S.mc n.mems PMem.wide 39 #[] (enters_of Try.func39 (by kernel_rfl) rfl) w (by have := h.caps; have := h.room; omega) h.mems
    fun V x a c a2 c2 hx hV hP => widths_any x a c a2 c2 V (Ports.wider hV.size hP)
theorem latches_wrong (n : PNet) (S : NetS) (w : World) (h : NetAt w w.heap.size S n) : Calls Try.prog 40 #[.slice S.l n.latches.length S.lc, .func (.func 41) #[] #[]] w
    fun e w' => e = .returned (.bool (n.latches.any PLatch.wrong)) ∧ Below w.heap.size w w' :=
  contains_latch S.l S.lc n.latches PLatch.wrong 41 #[] (enters_of Try.func41 (by kernel_rfl) rfl) w (by have := h.caps; have := h.room; omega) h.latches
    fun V x hx hV => begins_any x V

set_option maxHeartbeats 4000000 in
theorem sound_any (n : PNet) (S : NetS) (w : World) (h : NetAt w w.heap.size S n) (hf : n.fits) (hm : n.modest) (hr : n.near) :
    Calls Try.prog 22 #[.agg #[.int .i64 n.vars, .slice S.i n.inputs.length S.ic, .slice S.l n.latches.length S.lc, .slice S.o n.outs.length S.oc, .slice S.b n.bads.length S.bc, .slice S.c n.cons.length S.cc, .slice S.m n.mems.length S.mc, .slice S.a n.ands.length S.ac]] w fun e w' => e = .returned (.int .i64 n.sound) ∧ Below w.heap.size w w' := by
  have hbx := below_box w #[.int .i64 n.vars, .slice S.i n.inputs.length S.ic, .slice S.l n.latches.length S.lc, .slice S.o n.outs.length S.oc, .slice S.b n.bads.length S.bc, .slice S.c n.cons.length S.cc, .slice S.m n.mems.length S.mc, .slice S.a n.ands.length S.ac] 27
  have hM := netBox_new w n S 27
  have hN := NetAt.later h hbx (by simp)
  have hlim := above_any n S _ hN ⟨hm.outs, hm.bads, hm.cons⟩
  have HB := Lib.hid (And.intro hbx (And.intro hM hN))
  cases hL : n.lim with
  | true =>
    rw [hL] at hlim
    have HQ := Lib.hid hlim
    have HS := Lib.hid (sound_lim hL)
    clear hlim hL hN h hbx hM
    go_enter Try.func22, Try.ntmps22
    go_wp2_with (go_at_call 37; refine HQ.out.mono ?_; rintro e w3 ⟨rfl, hb3⟩)
    go_ret
    exact ⟨ret_int HS.out.symm, below_on HB.out.1 hb3⟩
  | false =>
    rw [hL] at hlim
    have hW := within_of hL
    have HQ := Lib.hid hlim
    have HL := Lib.hid hL
    have HW := Lib.hid hW
    have hv0 := hW.vars.1
    have hv1 := hW.vars.2
    have HF := Lib.hid hf
    have HR := Lib.hid hr
    have HMo := Lib.hid hm
    have HWD := Lib.hid fun (W : World) (hb : Below (w.alloc (.cells #[.int .i64 n.vars, .slice S.i n.inputs.length S.ic, .slice S.l n.latches.length S.lc, .slice S.o n.outs.length S.oc, .slice S.b n.bads.length S.bc, .slice S.c n.cons.length S.cc, .slice S.m n.mems.length S.mc, .slice S.a n.ands.length S.ac] 27)).heap.size (w.alloc (.cells #[.int .i64 n.vars, .slice S.i n.inputs.length S.ic, .slice S.l n.latches.length S.lc, .slice S.o n.outs.length S.oc, .slice S.b n.bads.length S.bc, .slice S.c n.cons.length S.cc, .slice S.m n.mems.length S.mc, .slice S.a n.ands.length S.ac] 27)) W) => mems_differ n S W (NetAt.later hN hb hb.size)
    have HLW := Lib.hid fun (W : World) (hb : Below (w.alloc (.cells #[.int .i64 n.vars, .slice S.i n.inputs.length S.ic, .slice S.l n.latches.length S.lc, .slice S.o n.outs.length S.oc, .slice S.b n.bads.length S.bc, .slice S.c n.cons.length S.cc, .slice S.m n.mems.length S.mc, .slice S.a n.ands.length S.ac] 27)).heap.size (w.alloc (.cells #[.int .i64 n.vars, .slice S.i n.inputs.length S.ic, .slice S.l n.latches.length S.lc, .slice S.o n.outs.length S.oc, .slice S.b n.bads.length S.bc, .slice S.c n.cons.length S.cc, .slice S.m n.mems.length S.mc, .slice S.a n.ands.length S.ac] 27)) W) => latches_wrong n S W (NetAt.later hN hb hb.size)
    clear hlim hL h hbx hM hW hf hr hN hm
    cases hwd : n.mems.any PMem.wide with
    | true =>
      rw [hwd] at HWD
      have HS := Lib.hid (sound_wide HL.out hwd)
      clear hwd
      go_enter Try.func22, Try.ntmps22
      go_wp2_with (first | (go_at_call 37; refine HQ.out.mono ?_; rintro e w3 ⟨rfl, hb3⟩; obtain ⟨e0, e1, e2, e3, e4, e5, e6, e7, e8⟩ := HB.out.2.1.below hb3 HB.out.2.1.lt) | (go_at_call 38; refine (HWD.out _ hb3).mono ?_; rintro e w4 ⟨rfl, hb4⟩))
      go_ret
      exact ⟨ret_int HS.out.symm, below_on HB.out.1 (below_on hb3 hb4)⟩
    | false =>
      rw [hwd] at HWD
      have HWD0 := Lib.hid hwd
      have hfit : ∀ m ∈ n.mems, m.Fit := fun m hm => fit_of (any_no hwd m hm)
      cases hlw : n.latches.any PLatch.wrong with
      | true =>
        rw [hlw] at HLW
        have HS := Lib.hid (sound_wrong HL.out hwd hlw)
        clear hwd hlw hfit
        go_enter Try.func22, Try.ntmps22
        go_wp2_with (first | (go_at_call 37; refine HQ.out.mono ?_; rintro e w3 ⟨rfl, hb3⟩; obtain ⟨e0, e1, e2, e3, e4, e5, e6, e7, e8⟩ := HB.out.2.1.below hb3 HB.out.2.1.lt) | (go_at_call 38; refine (HWD.out _ hb3).mono ?_; rintro e w4 ⟨rfl, hb4⟩; obtain ⟨f0, f1, f2, f3, f4, f5, f6, f7, f8⟩ := HB.out.2.1.below (below_on hb3 hb4) HB.out.2.1.lt) | (go_at_call 40; refine (HLW.out _ (below_on hb3 hb4)).mono ?_; rintro e w5 ⟨rfl, hb5⟩))
        go_ret
        exact ⟨ret_int HS.out.symm, below_on HB.out.1 (below_on hb3 (below_on hb4 hb5))⟩
      | false =>
        rw [hlw] at HLW
        have HLW0 := Lib.hid hlw
        have HDF := Lib.hid fun (W : World) (hb : Below (w.alloc (.cells #[.int .i64 n.vars, .slice S.i n.inputs.length S.ic, .slice S.l n.latches.length S.lc, .slice S.o n.outs.length S.oc, .slice S.b n.bads.length S.bc, .slice S.c n.cons.length S.cc, .slice S.m n.mems.length S.mc, .slice S.a n.ands.length S.ac] 27)).heap.size (w.alloc (.cells #[.int .i64 n.vars, .slice S.i n.inputs.length S.ic, .slice S.l n.latches.length S.lc, .slice S.o n.outs.length S.oc, .slice S.b n.bads.length S.bc, .slice S.c n.cons.length S.cc, .slice S.m n.mems.length S.mc, .slice S.a n.ands.length S.ac] 27)) W) => once_any n S W (NetAt.later HB.out.2.2 hb hb.size) HMo.out (told_of HR.out hfit) HW.out.vars
        have HLT := Lib.hid fun (W : World) (hb : Below (w.alloc (.cells #[.int .i64 n.vars, .slice S.i n.inputs.length S.ic, .slice S.l n.latches.length S.lc, .slice S.o n.outs.length S.oc, .slice S.b n.bads.length S.bc, .slice S.c n.cons.length S.cc, .slice S.m n.mems.length S.mc, .slice S.a n.ands.length S.ac] 27)).heap.size (w.alloc (.cells #[.int .i64 n.vars, .slice S.i n.inputs.length S.ic, .slice S.l n.latches.length S.lc, .slice S.o n.outs.length S.oc, .slice S.b n.bads.length S.bc, .slice S.c n.cons.length S.cc, .slice S.m n.mems.length S.mc, .slice S.a n.ands.length S.ac] 27)) W) => literals_any n S W (NetAt.later HB.out.2.2 hb hb.size) HMo.out (by have := lits_small HW.out hfit; omega)
        have HLS := Lib.hid (lits_small HW.out hfit)
        clear hwd hlw hfit
        by_cases ho : n.once = 0
        · rw [ho] at HDF
          have HO := Lib.hid ho
          have HMK := Lib.hid fun (W : World) => make_any n.vars true hv0 (by omega) W
          have hmk : mkl n.vars true = 2 * n.vars + 1 := rfl
          rw [hmk] at HMK
          clear ho hmk
          go_enter Try.func22, Try.ntmps22
          go_wp2_with (first | (go_at_call 37; refine HQ.out.mono ?_; rintro e w3 ⟨rfl, hb3⟩; obtain ⟨e0, e1, e2, e3, e4, e5, e6, e7, e8⟩ := HB.out.2.1.below hb3 HB.out.2.1.lt) | (go_at_call 38; refine (HWD.out _ hb3).mono ?_; rintro e w4 ⟨rfl, hb4⟩; obtain ⟨f0, f1, f2, f3, f4, f5, f6, f7, f8⟩ := HB.out.2.1.below (below_on hb3 hb4) HB.out.2.1.lt) | (go_at_call 40; refine (HLW.out _ (below_on hb3 hb4)).mono ?_; rintro e w5 ⟨rfl, hb5⟩; obtain ⟨g0, g1, g2, g3, g4, g5, g6, g7, g8⟩ := HB.out.2.1.below (below_on hb3 (below_on hb4 hb5)) HB.out.2.1.lt) | (go_at_call 42; refine (HDF.out _ (below_on hb3 (below_on hb4 hb5))).mono ?_; rintro e w6 ⟨rfl, hb6⟩; obtain ⟨k0, k1, k2, k3, k4, k5, k6, k7, k8⟩ := HB.out.2.1.below (below_on hb3 (below_on hb4 (below_on hb5 hb6))) HB.out.2.1.lt) | (go_at_call 43; refine (HMK.out _).mono ?_; rintro e w' ⟨rfl, rfl⟩) | (go_at_call 44; refine (HLT.out _ (below_on hb3 (below_on hb4 (below_on hb5 hb6)))).mono ?_; rintro e w7 ⟨v7, rfl, hO7⟩; obtain ⟨A7, c7, rfl, hs7, hc7, hd7⟩ := hO7.form))
          have HB7 := Lib.hid (below_on HB.out.1 (below_on hb3 (below_on hb4 (below_on hb5 (below_on hb6 hO7.2.1)))))
          have HS7 := Lib.hid hs7
          have hl7 := HLS.out
          clear e0 e1 e2 e3 e4 e5 e6 e7 e8 f0 f1 f2 f3 f4 f5 f6 f7 f8 g0 g1 g2 g3 g4 g5 g6 g7 g8 k0 k1 k2 k3 k4 k5 k6 k7 k8 hb3 hb4 hb5 hb6 hO7 hs7 hc7 hd7
          go_loopg [29] n.lits.length (fun m s29 wx => ∃ k : Nat, k + m = n.lits.length ∧ s29 = .int .i64 k ∧ Aside ((n.lits.take k).any (outB n.vars) = false) ∧ w7 = wx)
          case atStart => exact ⟨0, by omega, rfl, by simp [Aside], rfl⟩
          case round =>
            obtain ⟨i, hi, rfl, HK, rfl⟩ := hrel
            generalize gk = m3 at *
            by_cases hil : i < n.lits.length
            · obtain ⟨x, hx⟩ := some_of_lt hil
              have hiI : (i : Int) < (n.lits.length : Int) := by omega
              obtain ⟨b, o, rfl, hbg, hcell⟩ := HS7.out.at hx
              have hx0 := hcell i x hx
              by_cases hq : 0 ≤ x ∧ x ≤ 2 * n.vars + 1
              · have HN2 := Lib.hid (any_take hx HK.out (show outB n.vars x = false by unfold outB; simp; omega))
                have HC := Lib.hid fun (W : World) => within_yes x 0 (2 * n.vars + 1) W hq
                clear hcell hx hq
                go_wp2_with (go_at_call 45; refine (HC.out _).mono ?_; rintro e w' ⟨rfl, rfl⟩)
                go_roundg (m3 - 1)
                case measure => omega
                case rel => exact ⟨i + 1, by omega, by first | rfl | simp, HN2.out, rfl⟩
              · have HN2 := Lib.hid (sound_loose HL.out HWD0.out HLW0.out HO.out (any_yes hx (show outB n.vars x = true by unfold outB; simp; omega)))
                have HC := Lib.hid fun (W : World) => within_no x 0 (2 * n.vars + 1) W (by omega)
                clear hcell hx hq
                go_wp2_with (go_at_call 45; refine (HC.out _).mono ?_; rintro e w' ⟨rfl, rfl⟩)
                go_ret
                exact ⟨ret_int HN2.out.symm, HB7.out⟩
            · have hin : ¬ ((i : Int) < (n.lits.length : Int)) := by omega
              have HN2 := Lib.hid (sound_ok HL.out HWD0.out HLW0.out HO.out (show n.loose = false from any_done hil HK.out))
              clear HK
              go_wp2
              go_ret
              exact ⟨ret_int HN2.out.symm, HB7.out⟩
        · have hne : (n.once != 0) = true := by rw [bne_iff_ne]; exact ho
          have HN2 := Lib.hid (sound_once HL.out HWD0.out HLW0.out ho)
          clear ho
          go_enter Try.func22, Try.ntmps22
          go_wp2_with (first | (go_at_call 37; refine HQ.out.mono ?_; rintro e w3 ⟨rfl, hb3⟩; obtain ⟨e0, e1, e2, e3, e4, e5, e6, e7, e8⟩ := HB.out.2.1.below hb3 HB.out.2.1.lt) | (go_at_call 38; refine (HWD.out _ hb3).mono ?_; rintro e w4 ⟨rfl, hb4⟩; obtain ⟨f0, f1, f2, f3, f4, f5, f6, f7, f8⟩ := HB.out.2.1.below (below_on hb3 hb4) HB.out.2.1.lt) | (go_at_call 40; refine (HLW.out _ (below_on hb3 hb4)).mono ?_; rintro e w5 ⟨rfl, hb5⟩; obtain ⟨g0, g1, g2, g3, g4, g5, g6, g7, g8⟩ := HB.out.2.1.below (below_on hb3 (below_on hb4 hb5)) HB.out.2.1.lt) | (go_at_call 42; refine (HDF.out _ (below_on hb3 (below_on hb4 hb5))).mono ?_; rintro e w6 ⟨rfl, hb6⟩))
          go_ret
          exact ⟨ret_int HN2.out.symm, below_on HB.out.1 (below_on hb3 (below_on hb4 (below_on hb5 hb6)))⟩
end Go.Proofs.Ytchnpooijaalnaa
