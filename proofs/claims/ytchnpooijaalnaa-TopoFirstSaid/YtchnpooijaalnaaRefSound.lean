/- What is wrong with a netlist's definitions, and what is wrong first, by definition (conditions: the netlist lies where its value says; at most 1000000 definitions and literals; the numbers are int's). -/
import Derived.Test.YtchnpooijaalnaaOnce
import Derived.Test.YtchnpooijaalnaaRefTests
import Derived.Test.YtchnpooijaalnaaRefLits
import Derived.Test.YtchnpooijaalnaaSmall
namespace Go.Proofs.Ytchnpooijaalnaa
open Go.ChangeShapes Go.WideShapes Go.RowKit
set_option linter.unusedVariables false

set_option maxHeartbeats 4000000 in
theorem rdefines_any (n : PNet) (S : NetS) (w : World) (h : NetAt w w.heap.size S n) (hm : n.modest) (ht : ∀ m ∈ n.mems, m.told) (hd : n.defs.length ≤ 1000000) (hv : 0 ≤ n.vars ∧ n.vars ≤ 2000) :
    Calls Try.prog 50 #[.agg #[.int .i64 n.vars, .slice S.i n.inputs.length S.ic, .slice S.l n.latches.length S.lc, .slice S.o n.outs.length S.oc, .slice S.b n.bads.length S.bc, .slice S.c n.cons.length S.cc, .slice S.m n.mems.length S.mc, .slice S.a n.ands.length S.ac]] w fun e w' => e = .returned (.int .i64 n.once) ∧ Below w.heap.size w w' := by
  obtain ⟨hv0, hv1⟩ := hv
  have hbx := below_box w #[.int .i64 n.vars, .slice S.i n.inputs.length S.ic, .slice S.l n.latches.length S.lc, .slice S.o n.outs.length S.oc, .slice S.b n.bads.length S.bc, .slice S.c n.cons.length S.cc, .slice S.m n.mems.length S.mc, .slice S.a n.ands.length S.ac] 27
  have hM := netBox_new w n S 27
  have hN := NetAt.later h hbx (by simp)
  have hD := Lib.hid (rdefined_any n S _ hN hm ht hd)
  have hmk := run_marks n.vars hv0 (by omega)
  have HB := Lib.hid (And.intro hbx hM)
  clear h hm ht hbx hN hM
  go_enter Try.func50, Try.ntmps50
  go_wp2_with (go_at_call 69; refine hD.out.mono ?_; rintro e w3 ⟨v3, rfl, hO3⟩; obtain ⟨A3, c3, rfl, hs3, hc3, hd3⟩ := hO3.form; obtain ⟨e0, e1, e2, e3, e4, e5, e6, e7, e8⟩ := HB.out.2.below hO3.2.1 HB.out.2.lt)
  have HM := Marked.new w3 (n.vars.toNat + 1)
  have H3 := Lib.hid (And.intro (below_on HB.out.1 hO3.2.1) (And.intro hs3 (HB.out.2.below hO3.2.1 HB.out.2.lt)))
  have hb4 := below_box w3 (madeCells #[.bool false] (n.vars.toNat + 1)) 4
  generalize w3.alloc (.cells (madeCells #[.bool false] (n.vars.toNat + 1)) 4) = w4 at HM hb4 ⊢
  clear hmk hD HB hO3 hs3 hc3 hd3 e0 e1 e2 e3 e4 e5 e6 e7 e8
  generalize hg4 : w3.heap.size = g4 at *
  have HG := Lib.hid hg4
  clear hg4
  go_loopg [5] n.defs.length (fun m s5 wx => ∃ k : Nat, k + m = n.defs.length ∧ s5 = .int .i64 k ∧ Aside (Sofar n k) ∧ Marked wx g4 (n.vars.toNat + 1) (n.defs.take k) ∧ Below g4 w3 wx)
  case atStart => exact ⟨0, by omega, rfl, Sofar.zero n, HM, hb4⟩
  case round =>
    clear HM hb4
    obtain ⟨k, hk, rfl, HI, hM, hB⟩ := hrel
    generalize gk = m at *
    have hglt := hM.lt
    have e0 := (H3.out.2.2.below hB (by rw [← HG.out]; exact H3.out.2.2.lt)).n0
    by_cases hlt : k < n.defs.length
    · obtain ⟨x, hx⟩ := some_of_lt hlt
      have hltI : (k : Int) < (n.defs.length : Int) := by omega
      have hk0 : (0 : Int) ≤ (k : Int) := by omega
      obtain ⟨b, o, rfl, hb3, hcell⟩ := H3.out.2.1.at hx
      have hx0 := (hB.cell (p := ⟨b, o + k, none⟩) hb3).trans (hcell k x hx)
      have HX := Lib.hid hx
      clear hcell hx
      by_cases h1 : x < 1
      · have hd1 : decide (x < 1) = true := by simp; omega
        have HN := Lib.hid (HI.out.dangling HX.out (.inl h1))
        clear h1 hM
        go_wp2
        go_quiet (fail)
        go_wp2
        go_ret
        exact ⟨ret_int HN.out.symm, by rw [HG.out.symm] at hB; exact below_drewN (below_on H3.out.1 hB) _⟩
      · have hd1 : decide (x < 1) = false := by simp; omega
        by_cases h2 : n.vars < x
        · have hd2 : decide (n.vars < x) = true := by simp; omega
          have HN := Lib.hid (HI.out.dangling HX.out (.inr h2))
          clear h1 h2 hM
          go_wp2
          go_quiet (fail)
          go_wp2
          go_ret
          exact ⟨ret_int HN.out.symm, by rw [HG.out.symm] at hB; exact below_drewN (below_on H3.out.1 hB) _⟩
        · have hd2 : decide (n.vars < x) = false := by simp; omega
          obtain ⟨y, rfl⟩ := Int.eq_ofNat_of_zero_le (show 0 ≤ x by omega)
          have hy : y < n.vars.toNat + 1 := by omega
          have hyI : (y : Int) < ((n.vars.toNat + 1 : Nat) : Int) := by omega
          have hy0 : (0 : Int) ≤ (y : Int) := by omega
          have hc := hM.cell hy
          have hfz := hM.free y
          by_cases hs : (y : Int) ∈ n.defs.take k
          · have HN := Lib.hid (HI.out.twice HX.out (by omega) (by omega) hs)
            rw [decide_eq_true hs] at hc
            clear h1 h2 hM hs
            go_wp2
            go_quiet (fail)
            go_wp2
            go_ret
            exact ⟨ret_int HN.out.symm, by rw [HG.out.symm] at hB; exact below_drewN (below_on H3.out.1 hB) _⟩
          · have HN := Lib.hid (HI.out.next HX.out (by omega) (by omega) hs)
            have HMN := Lib.hid (show n.defs.take (k + 1) = n.defs.take k ++ [(y : Int)] from take_some HX.out)
            rw [decide_eq_false hs] at hc
            have HMM := Lib.hid hM
            clear h1 h2 hM hs
            go_wp2
            go_quiet (fail)
            go_wp2
            go_roundg (m - 1)
            case measure => omega
            case rel => 
              refine ⟨k + 1, by omega, by first | rfl | simp, HN.out, ?_, ?_⟩
              · rw [HMN.out]
                exact (HMM.out.same (w' := wr.drewN _) rfl).set hy
              · exact (below_drewN hB _).setCell (Nat.le_refl _) _
    · have hltn : ¬ ((k : Int) < (n.defs.length : Int)) := by omega
      have HDn := Lib.hid (HI.out.done hlt)
      have hMd : Marked wr g4 (n.vars.toNat + 1) n.defs := by rwa [List.take_of_length_le (by omega)] at hM
      clear HI hM
      go_wp2
      go_loopg [6] n.vars.toNat (fun m s6 wx => ∃ v : Nat, v + m = n.vars.toNat + 1 ∧ 1 ≤ v ∧ s6 = .int .i64 v ∧ Aside (∀ u : Int, 1 ≤ u → u < (v : Int) → u ∈ n.defs) ∧ wr = wx)
      case atStart => exact ⟨1, by omega, by omega, rfl, fun u h1 h2 => by omega, rfl⟩
      case round =>
        obtain ⟨v, hvm, hv1', rfl, HV, rfl⟩ := hrel
        generalize gk = m2 at *
        by_cases hvl : (v : Int) ≤ n.vars
        · have hvN : v < n.vars.toNat + 1 := by omega
          have hvI : (v : Int) < ((n.vars.toNat + 1 : Nat) : Int) := by omega
          have hc := hMd.cell hvN
          by_cases hs : (v : Int) ∈ n.defs
          · rw [decide_eq_true hs] at hc
            have HV2 := Lib.hid (show ∀ u : Int, 1 ≤ u → u < ((v + 1 : Nat) : Int) → u ∈ n.defs from fun u h1 h2 => by
              by_cases e : u = (v : Int)
              · subst e; exact hs
              · exact HV.out u h1 (by omega))
            clear hs
            go_wp2
            go_roundg (m2 - 1)
            case measure => omega
            case rel => exact ⟨v + 1, by omega, by omega, by first | rfl | simp, HV2.out, rfl⟩
          · rw [decide_eq_false hs] at hc
            have HN := Lib.hid (show n.once = 7 by rw [HDn.out.1, if_pos (missing_yes HDn.out.2.1 HDn.out.2.2 (by omega) hvl hs)])
            clear hs
            go_wp2
            go_ret
            exact ⟨ret_int HN.out.symm, by rw [HG.out.symm] at hB; exact below_on H3.out.1 hB⟩
        · have HN := Lib.hid (show n.once = 0 by rw [HDn.out.1, if_neg (missing_no fun u h1 h2 => HV.out u h1 (by omega))])
          clear hMd
          go_wp2
          go_ret
          exact ⟨ret_int HN.out.symm, by rw [HG.out.symm] at hB; exact below_on H3.out.1 hB⟩
theorem sound_lim {n : PNet} (h : n.lim = true) : n.sound = 10 := by unfold PNet.sound; rw [if_pos h]
theorem sound_wide {n : PNet} (h : n.lim = false) (hw : n.mems.any PMem.wide = true) : n.sound = 9 := by unfold PNet.sound; rw [if_neg (by simp [h]), if_pos hw]
theorem sound_wrong {n : PNet} (h : n.lim = false) (hw : n.mems.any PMem.wide = false) (hl : n.latches.any PLatch.wrong = true) : n.sound = 1 := by
  unfold PNet.sound; rw [if_neg (by simp [h]), if_neg (by simp [hw]), if_pos hl]
theorem sound_once {n : PNet} (h : n.lim = false) (hw : n.mems.any PMem.wide = false) (hl : n.latches.any PLatch.wrong = false) (ho : n.once ≠ 0) : n.sound = n.once := by
  unfold PNet.sound; rw [if_neg (by simp [h]), if_neg (by simp [hw]), if_neg (by simp [hl]), if_pos ho]
theorem sound_loose {n : PNet} (h : n.lim = false) (hw : n.mems.any PMem.wide = false) (hl : n.latches.any PLatch.wrong = false) (ho : n.once = 0) (hs : n.loose = true) : n.sound = 5 := by
  unfold PNet.sound; rw [if_neg (by simp [h]), if_neg (by simp [hw]), if_neg (by simp [hl]), if_neg (by simp [ho]), if_pos hs]
theorem sound_ok {n : PNet} (h : n.lim = false) (hw : n.mems.any PMem.wide = false) (hl : n.latches.any PLatch.wrong = false) (ho : n.once = 0) (hs : n.loose = false) : n.sound = 0 := by
  unfold PNet.sound; rw [if_neg (by simp [h]), if_neg (by simp [hw]), if_neg (by simp [hl]), if_neg (by simp [ho]), if_neg (by simp [hs])]

set_option maxHeartbeats 4000000 in
theorem rsound_any (n : PNet) (S : NetS) (w : World) (h : NetAt w w.heap.size S n) (hf : n.fits) (hm : n.modest) (hr : n.near) :
    Calls Try.prog 25 #[.agg #[.int .i64 n.vars, .slice S.i n.inputs.length S.ic, .slice S.l n.latches.length S.lc, .slice S.o n.outs.length S.oc, .slice S.b n.bads.length S.bc, .slice S.c n.cons.length S.cc, .slice S.m n.mems.length S.mc, .slice S.a n.ands.length S.ac]] w fun e w' => e = .returned (.int .i64 n.sound) ∧ Below w.heap.size w w' := by
  have hbx := below_box w #[.int .i64 n.vars, .slice S.i n.inputs.length S.ic, .slice S.l n.latches.length S.lc, .slice S.o n.outs.length S.oc, .slice S.b n.bads.length S.bc, .slice S.c n.cons.length S.cc, .slice S.m n.mems.length S.mc, .slice S.a n.ands.length S.ac] 27
  have hM := netBox_new w n S 27
  have hN := NetAt.later h hbx (by simp)
  have hlim := rlimits_any n S _ hN ⟨hm.outs, hm.bads, hm.cons, hm.mems⟩
  have HB := Lib.hid (And.intro hbx hM)
  have hb2 := hbx.size
  cases hL : n.lim with
  | true =>
    rw [hL] at hlim
    have HQ := Lib.hid hlim
    have HS := Lib.hid (sound_lim hL)
    clear hlim hL hN h hbx hM hb2
    go_enter Try.func25, Try.ntmps25
    go_wp2_with (go_at_call 48; refine HQ.out.mono ?_; rintro e w3 ⟨rfl, hb3⟩)
    go_ret
    exact ⟨ret_int HS.out.symm, below_on HB.out.1 hb3⟩
  | false =>
    rw [hL] at hlim
    have hW := within_of hL
    have HQ := Lib.hid hlim
    have HL := Lib.hid hL
    have HW := Lib.hid hW
    have HF := Lib.hid hf
    have HR := Lib.hid hr
    have hm4 := hW.mems
    have hl2 := hW.latches
    have hv0 := hW.vars.1
    have hv1 := hW.vars.2
    have HP := Lib.hid hm.ports
    clear hlim hL h hbx hM hW hf hr hb2
    go_enter Try.func25, Try.ntmps25
    go_wp2_with (go_at_call 48; refine HQ.out.mono ?_; rintro e w3 ⟨rfl, hb3⟩)
    have HN := Lib.hid (And.intro (NetAt.later hN hb3 hb3.size) (And.intro (HB.out.2.below hb3 HB.out.2.lt) (below_on HB.out.1 hb3)))
    clear hN hb3 HQ HB
    go_loopg [3] n.mems.length (fun m s3 wx => ∃ k : Nat, k + m = n.mems.length ∧ s3 = .int .i64 k ∧ Aside ((n.mems.take k).any PMem.wide = false) ∧ Below w3.heap.size w3 wx)
    case atStart => exact ⟨0, by omega, rfl, by simp [Aside], Below.refl _ _⟩
    case round =>
      obtain ⟨k, hk, rfl, HI, hB⟩ := hrel
      generalize gk = m at *
      obtain ⟨e0, e1, e2, e3, e4, e5, e6, e7, e8⟩ := HN.out.2.1.below hB HN.out.2.1.lt
      have hNw := NetAt.later HN.out.1 hB hB.size
      by_cases hlt : k < n.mems.length
      · obtain ⟨x, hx⟩ := some_of_lt hlt
        have hltI : (k : Int) < (n.mems.length : Int) := by omega
        obtain ⟨b, o, hS, hbg, hcell⟩ := hNw.mems.at hx
        obtain ⟨a, c, a2, c2, m0, m1, m2, m3, m4, hP⟩ := hcell k x hx
        rw [hS] at e6
        have hwd := rwide_any x a c a2 c2 wr hP (HP.out x (mem_of_some hx))
        cases hq : x.wide with
        | true =>
          rw [hq] at hwd
          have HN2 := Lib.hid (sound_wide HL.out (any_yes hx hq))
          have HWD := Lib.hid hwd
          clear hS hcell hNw hx hP hwd hq
          go_wp2_with (go_at_call 49; refine HWD.out.mono ?_; rintro e w4 ⟨rfl, hb4⟩)
          go_ret
          exact ⟨ret_int HN2.out.symm, below_on HN.out.2.2 (below_on hB hb4)⟩
        | false =>
          rw [hq] at hwd
          have HN2 := Lib.hid (any_take hx HI.out hq)
          have HWD := Lib.hid hwd
          clear hS hcell hNw hx hP hwd hq
          go_wp2_with (go_at_call 49; refine HWD.out.mono ?_; rintro e w4 ⟨rfl, hb4⟩)
          go_roundg (m - 1)
          case measure => omega
          case rel => exact ⟨k + 1, by omega, by first | rfl | simp, HN2.out, below_on hB hb4⟩
      · have hltn : ¬ ((k : Int) < (n.mems.length : Int)) := by omega
        have HWA := Lib.hid (any_done hlt HI.out)
        clear HI hNw
        go_wp2
        go_loopg [4] n.latches.length (fun m s4 wx => ∃ k : Nat, k + m = n.latches.length ∧ s4 = .int .i64 k ∧ Aside ((n.latches.take k).any PLatch.wrong = false) ∧ wr = wx)
        case atStart => exact ⟨0, by omega, rfl, by simp [Aside], rfl⟩
        case round =>
          obtain ⟨j, hj, rfl, HJ, rfl⟩ := hrel
          generalize gk = m2 at *
          have hNw := NetAt.later HN.out.1 hB hB.size
          by_cases hjl : j < n.latches.length
          · obtain ⟨x, hx⟩ := some_of_lt hjl
            have hjI : (j : Int) < (n.latches.length : Int) := by omega
            obtain ⟨b, o, hS, hbg, hcell⟩ := hNw.latches.at hx
            obtain ⟨f0, f1, f2⟩ := hcell j x hx
            rw [hS] at e2
            by_cases hq : 0 ≤ x.li ∧ x.li ≤ 2
            · have q1 : decide (x.li < 0) = false := by simp; omega
              have q2 : decide (2 < x.li) = false := by simp; omega
              have HN2 := Lib.hid (any_take hx HJ.out (show PLatch.wrong x = false by unfold PLatch.wrong; simp; omega))
              clear hS hcell hNw hx hq
              go_wp2
              go_roundg (m2 - 1)
              case measure => omega
              case rel => exact ⟨j + 1, by omega, by first | rfl | simp, HN2.out, rfl⟩
            · have HN2 := Lib.hid (And.intro (sound_wrong HL.out HWA.out (any_yes hx (show PLatch.wrong x = true by unfold PLatch.wrong; simp; omega))) hq)
              clear hS hcell hNw hx hq
              go_wp2
              rotate_left
              · have := HN2.out.2
                omega
              all_goals
                go_ret
                exact ⟨ret_int HN2.out.1.symm, below_on HN.out.2.2 hB⟩
          · have hjn : ¬ ((j : Int) < (n.latches.length : Int)) := by omega
            have HLA := Lib.hid (any_done hjl HJ.out)
            have hfit : ∀ m ∈ n.mems, m.Fit := fun m hm => fit_of (any_no HWA.out m hm)
            have hdf := rdefines_any n S wr hNw hm (told_of HR.out hfit) (by have := defs_small HW.out hfit; omega) HW.out.vars
            have HLT := Lib.hid fun (W : World) (hb : Below wr.heap.size wr W) => rliterals_any n S W (NetAt.later hNw hb hb.size) hm (by have := lits_small HW.out hfit; omega)
            have HLS := Lib.hid (lits_small HW.out hfit)
            clear HJ hNw hfit
            by_cases ho : n.once = 0
            · rw [ho] at hdf
              have HDF := Lib.hid hdf
              have HO := Lib.hid ho
              clear hdf ho
              go_wp2_with (first | (go_at_call 50; refine HDF.out.mono ?_; rintro e w4 ⟨rfl, hb4⟩; obtain ⟨g0, g1, g2, g3, g4, g5, g6, g7, g8⟩ := HN.out.2.1.below (below_on hB hb4) HN.out.2.1.lt) | (go_at_call 51; refine (HLT.out _ hb4).mono ?_; rintro e w5 ⟨v5, rfl, hO5⟩; obtain ⟨A5, c5, rfl, hs5, hc5, hd5⟩ := hO5.form))
              have HB5 := Lib.hid (below_on hB (below_on hb4 hO5.2.1))
              have hz5 := (HN.out.2.1.below HB5.out HN.out.2.1.lt).n0
              have HS5 := Lib.hid hs5
              have hl5 := HLS.out
              clear hO5 hs5 hc5 hd5 g0 g1 g2 g3 g4 g5 g6 g7 g8
              go_loopg [7] n.lits.length (fun m s7 wx => ∃ k p : Nat, k + m = n.lits.length ∧ s7 = .int .i64 k ∧ Aside ((n.lits.take k).any (outB n.vars) = false) ∧ wx = w5.drewN p)
              case atStart => exact ⟨0, 0, by omega, rfl, by simp [Aside], rfl⟩
              case round =>
                obtain ⟨i, p, hi, rfl, HK, rfl⟩ := hrel
                generalize gk = m3 at *
                by_cases hil : i < n.lits.length
                · obtain ⟨x, hx⟩ := some_of_lt hil
                  have hiI : (i : Int) < (n.lits.length : Int) := by omega
                  have hi0 : (0 : Int) ≤ (i : Int) := by omega
                  obtain ⟨b, o, rfl, hbg, hcell⟩ := HS5.out.at hx
                  have hx0 := hcell i x hx
                  have hmul : IntKind.i64.wrap (2 * n.vars) = 2 * n.vars := by rw [IntKind.wrap_i64]; omega
                  have hmul2 : IntKind.i64.wrap (2 * n.vars + 1) = 2 * n.vars + 1 := by rw [IntKind.wrap_i64]; omega
                  by_cases h1 : x < 0
                  · have q1 : decide (x < 0) = true := by simp; omega
                    have HN2 := Lib.hid (sound_loose HL.out HWA.out HLA.out HO.out (any_yes hx (show outB n.vars x = true by unfold outB; simp; omega)))
                    clear hcell hx h1
                    go_wp2
                    go_quiet (fail)
                    go_wp2
                    go_ret
                    exact ⟨ret_int HN2.out.symm, by repeat (first | exact below_on HN.out.2.2 HB5.out | refine below_drewN ?_ _)⟩
                  · have q1 : decide (x < 0) = false := by simp; omega
                    by_cases h2 : 2 * n.vars + 1 < x
                    · have q2 : decide (2 * n.vars + 1 < x) = true := by simp; omega
                      have HN2 := Lib.hid (sound_loose HL.out HWA.out HLA.out HO.out (any_yes hx (show outB n.vars x = true by unfold outB; simp; omega)))
                      clear hcell hx h1 h2
                      go_wp2
                      go_quiet (fail)
                      go_wp2
                      go_ret
                      exact ⟨ret_int HN2.out.symm, by repeat (first | exact below_on HN.out.2.2 HB5.out | refine below_drewN ?_ _)⟩
                    · have q2 : decide (2 * n.vars + 1 < x) = false := by simp; omega
                      have HN2 := Lib.hid (any_take hx HK.out (show outB n.vars x = false by unfold outB; simp; omega))
                      clear hcell hx h1 h2
                      go_wp2
                      go_quiet (fail)
                      go_wp2
                      go_roundg (m3 - 1)
                      case measure => omega
                      case rel => exact ⟨i + 1, _, by omega, by first | rfl | simp, HN2.out, rfl⟩
                · have hin : ¬ ((i : Int) < (n.lits.length : Int)) := by omega
                  have HN2 := Lib.hid (sound_ok HL.out HWA.out HLA.out HO.out (show n.loose = false from any_done hil HK.out))
                  clear HK
                  go_wp2
                  go_ret
                  exact ⟨ret_int HN2.out.symm, below_drewN (below_on HN.out.2.2 HB5.out) _⟩
            · have hne : (n.once != 0) = true := by rw [bne_iff_ne]; exact ho
              have HN2 := Lib.hid (sound_once HL.out HWA.out HLA.out ho)
              have HDF := Lib.hid hdf
              clear hdf ho
              go_wp2_with (go_at_call 50; refine HDF.out.mono ?_; rintro e w4 ⟨rfl, hb4⟩)
              go_ret
              exact ⟨ret_int HN2.out.symm, below_on HN.out.2.2 (below_on hB hb4)⟩
end Go.Proofs.Ytchnpooijaalnaa
