/- The statement FaultBareCardSaid is proved: for every kind and every other one the law FaultBare returns true, and leaves its arguments as they were. Condition: the library's one variable is laid, which the card ties to the program's text. -/
import Derived.Test.YtmoikkdaigepcaaDoorAlive02
import Derived.Test.YtmoikkdaigepcaaDoorLaw
import Derived.Test.YtmoikkdaigepcaaDoorLaid
import Derived.Test.YtmoikkdaigepcaaDoorCards
import Derived.Test.YtmoikkdaigepcaaDoorTie
import Derived.SevenTiedAt
import Derived.ChangeSlices
import Derived.ProofKit
import Derived.OpenShut
namespace Go.Proofs.YtmoikkdaigepcaaDoor.faultBare
open Go Go.ChangeShapes Go.WideShapes Go.RowKit
set_option linter.unusedVariables false

theorem own : ownKnob Tryd.prog.godebug = none := by kernel_rfl
theorem cells_int : Tryd.prog.cellsOf 3 = 1 := by kernel_rfl

theorem walk (a0 a1 : Int) (w : World) (hL : Laid w) :
    Calls Tryd.prog 4 #[.int .i64 a0, .int .i64 a1] w (fun e w' => e = .returned (.bool true) ∧ Below w.heap.size w w') := by
  have h1 := Lib.hid (Told_any [] (some a0) (.iface 27 (.int .i64 a0)))
  have h2 := Lib.hid (Told_any [] none .nilIface)
  have h3 := Lib.hid (Depth_any [] (some a0) (.iface 27 (.int .i64 a0)))
  have h4 := Lib.hid (Is_any [] a0 a1 (.iface 27 (.int .i64 a0)))
  have h5 := Lib.hid (Wrap_nil a1)
  have h9 := Lib.hid alive2_any
  cases hq : (a0 == a1)
  all_goals
    go_enter Tryd.func4, Tryd.ntmps4
    go_wp2_with fail
    refine (h1.out _ (by simp) hL rfl).mono ?_
    rintro e wa ⟨rfl, hb⟩
    have BA := Lib.hid hb
    have LA := Lib.hid (hL.below hb hL.pos)
    clear hb
    unfold two
    simp only [inmost, base]
    go_wp2_with fail
    refine (h2.out _ (by simp) LA.out rfl).mono ?_
    rintro e wb ⟨rfl, hb⟩
    have BB := Lib.hid (BA.out.trans (hb.mono BA.out.size))
    clear hb
    unfold two
    simp only [inmost, base]
    go_wp2_with fail
    refine (h3.out _ (by simp) (hL.below BB.out hL.pos) rfl).mono ?_
    rintro e wc ⟨rfl, hb⟩
    have BC := Lib.hid (BB.out.trans (hb.mono BB.out.size))
    clear hb
    simp only [List.length_nil]
    go_wp2_with fail
    refine (h4.out _ (by simp) (hL.below BC.out hL.pos) rfl).mono ?_
    rintro e wd ⟨rfl, hb⟩
    have BD := Lib.hid (BC.out.trans (hb.mono BC.out.size))
    clear hb
    rw [hq]
    go_wp2_with fail
    refine (h5.out _ (hL.below BD.out hL.pos)).mono ?_
    rintro e we ⟨rfl, hb⟩
    have BX := Lib.hid (BD.out.trans (hb.mono BD.out.size))
    clear hb
    go_wp2_with fail
    refine (h9.out _ (hL.below BX.out hL.pos)).mono ?_
    rintro e wz ⟨rfl, hb⟩
    have BZ := Lib.hid (BX.out.trans (hb.mono BX.out.size))
    clear hb
    go_wp2_with fail
    go_ret
    exact ⟨rfl, BZ.out⟩

set_option maxRecDepth 100000 in
theorem lifted (os : Os) (started : os.Started) (H : Type) (enc : TypeId × Value → H) :
    ReturnsInHanded {} Tryd.checked os 4 .any (fun w args => (Rows.faultBareSpec.pre enc Tryd.prog Tryd.f4 [] false w args ∧ laidMetH Tryd.prog laidList w) ∧ sizedMet enc Tryd.prog Tryd.f4 (OpenSpec.ofChange Rows.faultBareSpec) false w args)
      (Rows.faultBareSpec.post enc Tryd.prog Tryd.f4 false true false false) := by
  refine returnsInHanded_of_change_and (C := Tryd.checked) (X := fun w _ => laidMetH Tryd.prog laidList w) (fun _ _ _ hh h => h.of_heap hh) own started (by kernel_rfl) Tryd.func4
    (ChangeSpec.witness_at (enc := enc) (C := Tryd.checked) (os := os) (X := fun w _ => laidMetH Tryd.prog laidList w) false (laidWorld os) #[.int .i64 0, .int .i64 0] 8 rfl (by kernel_rfl) (by kernel_rfl) (by kernel_rfl) (by kernel_rfl) (by kernel_rfl) (laidWorld_met os _)) ?_
  intro W base args ds gs before hval0 hW _ _ hL _
  have hval : ∀ (j : Nat) t v, Tryd.f4.params[j]? = some t → args[j]? = some v → Value.okWide Tryd.prog W .any base t v := hval0
  have hW' := hW
  obtain ⟨p, q, hA0, hV0, rfl, hfz, hnd⟩ := hW
  have hA : DataW.TrodAll enc Tryd.prog W 0 (fun _ => true) true Tryd.f4.params.toList args.toList ds p := hA0
  have hV : DataW.TrodVars enc Tryd.prog W (fun _ => true) [] gs q := hV0
  rw [Tryd.params4] at hA hval
  have hAk := hA
  have hg := laid_of_met hL
  obtain ⟨v0, vs0, d0, ds0, p0, q0, hargs, rfl, rfl, h0, r0⟩ := trodAll_cons hA
  obtain ⟨v1, vs1, d1, ds1, p1, q1, rfl, rfl, rfl, h1, r1⟩ := trodAll_cons r0
  obtain ⟨rfl, rfl, rfl⟩ := trodAll_nil r1
  obtain rfl : args = #[v0, v1] := by cases args; simp_all
  obtain ⟨a0, rfl, rfl, rfl, w0⟩ := open_int Tryd.underlying3 (hval 0 3 v0 rfl rfl) h0
  obtain ⟨a1, rfl, rfl, rfl, w1⟩ := open_int Tryd.underlying3 (hval 1 3 v1 rfl rfl) h1
  obtain ⟨rfl, rfl⟩ := trodVars_none hV
  clear hA0 hval0
  simp only [List.append_nil] at hW' hAk
  have fin : ∀ W' : World, Below W.heap.size W W' → Rows.faultBareSpec.post enc Tryd.prog Tryd.f4 false true false false W #[.int .i64 a0, .int .i64 a1] (.bool true) W' := fun W' hb =>
    ⟨_, _, _, [], _, [], hW', trodAll_cons_mk (shut_bool Tryd.underlying4 _) trodAll_mk0, all_stay Tryd.laidOut [3, 3] (by kernel_rfl) hb _ _ _ hAk (fun x hx => hW'.lt x hx), rfl, hb.frame _, fun h => by cases h⟩
  have go : ∀ e W', (e = Ending.returned (.bool true) ∧ Below W.heap.size W W') → ∃ v, e = Ending.returned v ∧ Rows.faultBareSpec.post enc Tryd.checked.prog Tryd.f4 false true false false W #[.int .i64 a0, .int .i64 a1] v W' :=
    fun e W' ⟨he, hb⟩ => ⟨_, he, fin W' hb⟩
  exact (walk a0 a1 W hg).mono go

theorem over : Rows.FaultBareSaid :=
  OpenClaim.holds_of_wide 4 Tryd.f4 rfl rfl rfl rfl rfl rfl rfl ⟨rfl, rfl, rfl, rfl, rfl⟩ rfl rfl rfl rfl rfl (by kernel_rfl) Tryd.func4 (by kernel_rfl)
    (of_decide_eq_true (by kernel_rfl)) (by unfold Func.isWrapper; first | (rw [if_pos (by decide +kernel)]; kernel_rfl) | (rw [if_neg (by decide +kernel)]; exact ⟨rfl, rfl⟩))
    (fun os started H enc _ => lifted os started H enc)

theorem proved : Rows.FaultBareCardSaid :=
  Claim7.holds_tied_plain_at .later [] [.handle] true Rows.faultBareCard.stood.harness true
    over (fun _ h => by cases h) (by kernel_rfl) (fun _ h => by cases h) faultBare_row_tie rfl ⟨rfl, rfl⟩ (by kernel_rfl) rfl
    (fun f fn hf hfn => by
      obtain rfl : f = 4 := Option.some.inj ((show Tryd.prog.funcNamed Rows.faultBareRow.func = some 4 by kernel_rfl).symm.trans hf) |>.symm
      obtain rfl : fn = Tryd.f4 := (Option.some.inj (Tryd.func4.symm.trans hfn)).symm
      exact ⟨by kernel_rfl, fun j t ht => by
        have hall : Tryd.f4.params.toList.all (fun t => !Tryd.prog.wantsStandIn t) = true := by kernel_rfl
        have hm : t ∈ Tryd.f4.params.toList := by
          have := Array.mem_of_getElem? ht
          exact Array.mem_toList_iff.2 this
        have := List.all_eq_true.1 hall t hm
        exact (show Tryd.prog.wantsStandIn t = false by simpa using this)⟩)
    (by kernel_rfl)
#print axioms proved
end Go.Proofs.YtmoikkdaigepcaaDoor.faultBare
