/- The statement FaultPartsCardSaid is proved: for every kind and every two places the law FaultParts returns true, and leaves its arguments as they were. Condition: the library's one variable is laid, which the card ties to the program's text. -/
import Derived.Test.YtmoikkdaigepcaaDoorAlive02
import Derived.Test.YtmoikkdaigepcaaDoorLaw
import Derived.Test.YtmoikkdaigepcaaDoorLaid
import Derived.Test.YtmoikkdaigepcaaDoorCards
import Derived.Test.YtmoikkdaigepcaaDoorTie
import Derived.SevenTiedAt
import Derived.ChangeSlices
import Derived.ProofKit
import Derived.OpenShut
namespace Go.Proofs.YtmoikkdaigepcaaDoor.faultParts
open Go Go.ChangeShapes Go.WideShapes Go.RowKit
set_option linter.unusedVariables false

theorem own : ownKnob Tryd.prog.godebug = none := by kernel_rfl
theorem cells_int : Tryd.prog.cellsOf 3 = 1 := by kernel_rfl

theorem walk_ok (a1 a2 : Int) (w : World) (hL : Laid w) :
    Calls Tryd.prog 5 #[.int .i64 0, .int .i64 a1, .int .i64 a2] w (fun e w' => e = .returned (.bool true) ∧ Below w.heap.size w w') := by
  have h9 := Lib.hid alive2_any
  go_enter Tryd.func5, Tryd.ntmps5
  go_wp2_with fail
  refine (h9.out _ hL).mono ?_
  rintro e wz ⟨rfl, hb⟩
  have BZ := Lib.hid hb
  clear hb
  go_wp2_with fail
  go_ret
  exact ⟨rfl, BZ.out⟩

theorem boxed (a0 a1 : Int) (w : World) : Chain (w.alloc (.cells #[.int .i64 a0, .int .i64 a1, .iface 27 (.int .i64 a0)] 37)) (under (some a0)) [(w.heap.size, a0, a1)] (.iface 35 (.pointer (some ⟨w.heap.size, 0, none⟩))) :=
  ⟨rfl, fun y hy => by (cases hy), under (some a0), heap_alloc_new _ _, rfl⟩

theorem walk (a0 a1 a2 : Int) (h0 : a0 ≠ 0) (w : World) (hL : Laid w) :
    Calls Tryd.prog 5 #[.int .i64 a0, .int .i64 a1, .int .i64 a2] w (fun e w' => e = .returned (.bool true) ∧ Below w.heap.size w w') := by
  have h1 := Lib.hid (fun L e w => Told_any L (some a0) e w)
  have h3 := Lib.hid (fun L e w => Depth_any L (some a0) e w)
  have h4 := Lib.hid (fun e w hl hL hc => Is_any [] a0 a0 e w hl hL hc)
  have h5 := Lib.hid (fun L e w hl hL hc => Wrap_any L a0 a2 e w hl hL hc)
  have h9 := Lib.hid alive2_any
  have hC := Lib.hid (boxed a0 a1 w)
  have hB := Lib.hid ((Below.refl _ w).alloc (Nat.le_refl _) (.cells #[.int .i64 a0, .int .i64 a1, .iface 27 (.int .i64 a0)] 37))
  have hR := Lib.hid (heap_alloc_new w (.cells #[.int .i64 a0, .int .i64 a1, .iface 27 (.int .i64 a0)] 37))
  go_enter Tryd.func5, Tryd.ntmps5
  go_wp2_with fail
  refine (h1.out _ _ _ (by simp) (hL.below hB.out hL.pos) hC.out).mono ?_
  rintro e wa ⟨rfl, hb⟩
  have BA := Lib.hid (hB.out.trans (hb.mono hB.out.size))
  have CA := Lib.hid (hC.out.below hb hC.out.lt)
  have RA := Lib.hid ((hb.block w.heap.size (by simp)).trans hR.out)
  clear hb
  unfold two
  simp only [inmost]
  go_wp2_with fail
  refine (h5.out _ _ _ (by simp) (hL.below BA.out hL.pos) CA.out).mono ?_
  rintro e wb ⟨B, rfl, hb, hc⟩
  simp only [inmost] at hc
  have BB := Lib.hid (BA.out.trans (hb.mono BA.out.size))
  have CB := Lib.hid hc
  have RB := Lib.hid ((hb.block w.heap.size (lt_of_row RA.out)).trans RA.out)
  clear hb hc
  go_wp2_with fail
  refine (h1.out _ _ _ (by simp) (hL.below BB.out hL.pos) CB.out).mono ?_
  rintro e wc ⟨rfl, hb⟩
  have BC := Lib.hid (BB.out.trans (hb.mono BB.out.size))
  have CC := Lib.hid (CB.out.below hb CB.out.lt)
  have RC := Lib.hid ((hb.block w.heap.size (lt_of_row RB.out)).trans RB.out)
  clear hb
  unfold two
  simp only [inmost]
  go_wp2_with fail
  refine (h3.out _ _ _ (by simp) (hL.below BC.out hL.pos) CC.out).mono ?_
  rintro e wd ⟨rfl, hb⟩
  have BD := Lib.hid (BC.out.trans (hb.mono BC.out.size))
  have RD := Lib.hid ((hb.block w.heap.size (lt_of_row RC.out)).trans RC.out)
  clear hb
  simp only [List.length_cons, List.length_nil]
  go_wp2_with fail
  refine (Unwrap_any _ _ _ _ _ RD.out).mono ?_
  rintro e we ⟨rfl, rfl⟩
  go_wp2_with fail
  refine (h4.out _ _ (by simp) (hL.below BD.out hL.pos) rfl).mono ?_
  rintro e wf ⟨rfl, hb⟩
  have BX := Lib.hid (BD.out.trans (hb.mono BD.out.size))
  clear hb
  rw [show (a0 == a0) = true by simp]
  go_wp2_with fail
  refine (h9.out _ (hL.below BX.out hL.pos)).mono ?_
  rintro e wz ⟨rfl, hb⟩
  have BZ := Lib.hid (BX.out.trans (hb.mono BX.out.size))
  clear hb
  go_wp2_with fail
  go_ret
  exact ⟨rfl, BZ.out⟩

set_option maxRecDepth 100000 in
theorem lifted (os : Os) (started : os.Started) (H : Type) (enc : TypeId × Value → H) :
    ReturnsInHanded {} Tryd.checked os 5 .any (fun w args => (Rows.faultPartsSpec.pre enc Tryd.prog Tryd.f5 [] false w args ∧ laidMetH Tryd.prog laidList w) ∧ sizedMet enc Tryd.prog Tryd.f5 (OpenSpec.ofChange Rows.faultPartsSpec) false w args)
      (Rows.faultPartsSpec.post enc Tryd.prog Tryd.f5 false true false false) := by
  refine returnsInHanded_of_change_and (C := Tryd.checked) (X := fun w _ => laidMetH Tryd.prog laidList w) (fun _ _ _ hh h => h.of_heap hh) own started (by kernel_rfl) Tryd.func5
    (ChangeSpec.witness_at (enc := enc) (C := Tryd.checked) (os := os) (X := fun w _ => laidMetH Tryd.prog laidList w) false (laidWorld os) #[.int .i64 0, .int .i64 0, .int .i64 0] 8 rfl (by kernel_rfl) (by kernel_rfl) (by kernel_rfl) (by kernel_rfl) (by kernel_rfl) (laidWorld_met os _)) ?_
  intro W base args ds gs before hval0 hW _ _ hL _
  have hval : ∀ (j : Nat) t v, Tryd.f5.params[j]? = some t → args[j]? = some v → Value.okWide Tryd.prog W .any base t v := hval0
  have hW' := hW
  obtain ⟨p, q, hA0, hV0, rfl, hfz, hnd⟩ := hW
  have hA : DataW.TrodAll enc Tryd.prog W 0 (fun _ => true) true Tryd.f5.params.toList args.toList ds p := hA0
  have hV : DataW.TrodVars enc Tryd.prog W (fun _ => true) [] gs q := hV0
  rw [Tryd.params5] at hA hval
  have hAk := hA
  have hg := laid_of_met hL
  obtain ⟨v0, vs0, d0, ds0, p0, q0, hargs, rfl, rfl, h0, r0⟩ := trodAll_cons hA
  obtain ⟨v1, vs1, d1, ds1, p1, q1, rfl, rfl, rfl, h1, r1⟩ := trodAll_cons r0
  obtain ⟨v2, vs2, d2, ds2, p2, q2, rfl, rfl, rfl, h2, r2⟩ := trodAll_cons r1
  obtain ⟨rfl, rfl, rfl⟩ := trodAll_nil r2
  obtain rfl : args = #[v0, v1, v2] := by cases args; simp_all
  obtain ⟨a0, rfl, rfl, rfl, w0⟩ := open_int Tryd.underlying3 (hval 0 3 v0 rfl rfl) h0
  obtain ⟨a1, rfl, rfl, rfl, w1⟩ := open_int Tryd.underlying3 (hval 1 3 v1 rfl rfl) h1
  obtain ⟨a2, rfl, rfl, rfl, w2⟩ := open_int Tryd.underlying3 (hval 2 3 v2 rfl rfl) h2
  obtain ⟨rfl, rfl⟩ := trodVars_none hV
  clear hA0 hval0
  simp only [List.append_nil] at hW' hAk
  have fin : ∀ W' : World, Below W.heap.size W W' → Rows.faultPartsSpec.post enc Tryd.prog Tryd.f5 false true false false W #[.int .i64 a0, .int .i64 a1, .int .i64 a2] (.bool true) W' := fun W' hb =>
    ⟨_, _, _, [], _, [], hW', trodAll_cons_mk (shut_bool Tryd.underlying4 _) trodAll_mk0, all_stay Tryd.laidOut [3, 3, 3] (by kernel_rfl) hb _ _ _ hAk (fun x hx => hW'.lt x hx), rfl, hb.frame _, fun h => by cases h⟩
  have go : ∀ e W', (e = Ending.returned (.bool true) ∧ Below W.heap.size W W') → ∃ v, e = Ending.returned v ∧ Rows.faultPartsSpec.post enc Tryd.checked.prog Tryd.f5 false true false false W #[.int .i64 a0, .int .i64 a1, .int .i64 a2] v W' :=
    fun e W' ⟨he, hb⟩ => ⟨_, he, fin W' hb⟩
  by_cases hz : a0 = 0
  · subst hz
    exact (walk_ok a1 a2 W hg).mono go
  · exact (walk a0 a1 a2 hz W hg).mono go

theorem over : Rows.FaultPartsSaid :=
  OpenClaim.holds_of_wide 5 Tryd.f5 rfl rfl rfl rfl rfl rfl rfl ⟨rfl, rfl, rfl, rfl, rfl⟩ rfl rfl rfl rfl rfl (by kernel_rfl) Tryd.func5 (by kernel_rfl)
    (of_decide_eq_true (by kernel_rfl)) (by unfold Func.isWrapper; first | (rw [if_pos (by decide +kernel)]; kernel_rfl) | (rw [if_neg (by decide +kernel)]; exact ⟨rfl, rfl⟩))
    (fun os started H enc _ => lifted os started H enc)

theorem proved : Rows.FaultPartsCardSaid :=
  Claim7.holds_tied_plain_at .later [] [.handle] true Rows.faultPartsCard.stood.harness true
    over (fun _ h => by cases h) (by kernel_rfl) (fun _ h => by cases h) faultParts_row_tie rfl ⟨rfl, rfl⟩ (by kernel_rfl) rfl
    (fun f fn hf hfn => by
      obtain rfl : f = 5 := Option.some.inj ((show Tryd.prog.funcNamed Rows.faultPartsRow.func = some 5 by kernel_rfl).symm.trans hf) |>.symm
      obtain rfl : fn = Tryd.f5 := (Option.some.inj (Tryd.func5.symm.trans hfn)).symm
      exact ⟨by kernel_rfl, fun j t ht => by
        have hall : Tryd.f5.params.toList.all (fun t => !Tryd.prog.wantsStandIn t) = true := by kernel_rfl
        have hm : t ∈ Tryd.f5.params.toList := by
          have := Array.mem_of_getElem? ht
          exact Array.mem_toList_iff.2 this
        have := List.all_eq_true.1 hall t hm
        exact (show Tryd.prog.wantsStandIn t = false by simpa using this)⟩)
    (by kernel_rfl)
#print axioms proved
end Go.Proofs.YtmoikkdaigepcaaDoor.faultParts
