/- The statement FaultTellsCardSaid is proved: for every two kinds, every place and every list of further places the law FaultTells returns true, and leaves its arguments as they were. Condition: the library's one variable is laid, which the card ties to the program's text. -/
import Derived.Test.YtmoikkdaigepcaaDoorAlive02
import Derived.Test.YtmoikkdaigepcaaDoorLaw
import Derived.Test.YtmoikkdaigepcaaDoorLaid
import Derived.Test.YtmoikkdaigepcaaDoorCards
import Derived.Test.YtmoikkdaigepcaaDoorTie
import Derived.SevenTiedAt
import Derived.ChangeSlices
import Derived.ProofKit
import Derived.OpenShut
namespace Go.Proofs.YtmoikkdaigepcaaDoor.faultTells
open Go Go.ChangeShapes Go.WideShapes Go.RowKit
set_option linter.unusedVariables false

theorem own : ownKnob Tryd.prog.godebug = none := by kernel_rfl
theorem cells_int : Tryd.prog.cellsOf 3 = 1 := by kernel_rfl

theorem full_ok (a1 a2 : Int) (b off c : Nat) (xs : List Int) (w : World) (hL : Laid w) (hn : xs.length ≤ 30) (hp : 0 < xs.length) (hb : b < w.heap.size) (hc : ∀ j, j < xs.length → w.cell? ⟨b, off + j, none⟩ = some (.int .i64 (xs.getD j 0))) :
    Calls Tryd.prog 3 #[.int .i64 0, .int .i64 a1, .int .i64 a2, .slice (some ⟨b, off, none⟩) xs.length c] w (fun e w' => e = .returned (.bool true) ∧ Below w.heap.size w w') := by
  have h1 := Lib.hid (made_ok a2 b off c xs w hn hp hL hb hc)
  have h2 := Lib.hid (Told_any [] none .nilIface)
  have h3 := Lib.hid (Depth_any [] none .nilIface)
  have h4 := Lib.hid (Is_nil a1)
  have h9 := Lib.hid alive2_any
  clear hc
  cases hq : (a1 == 0)
  all_goals
    go_enter Tryd.func3, Tryd.ntmps3
    go_wp2_with fail
    refine h1.out.mono ?_
    rintro e wa ⟨rfl, hb⟩
    have BA := Lib.hid hb
    clear hb
    go_wp2_with fail
    refine (h2.out _ (by simp) (hL.below BA.out hL.pos) rfl).mono ?_
    rintro e wb ⟨rfl, hb⟩
    have BB := Lib.hid (BA.out.trans (hb.mono BA.out.size))
    clear hb
    unfold two
    simp only [inmost, base]
    go_wp2_with fail
    refine (h3.out _ (by simp) (hL.below BB.out hL.pos) rfl).mono ?_
    rintro e wc ⟨rfl, hb⟩
    have BC := Lib.hid (BB.out.trans (hb.mono BB.out.size))
    clear hb
    simp only [List.length_nil]
    go_wp2_with fail
    refine (h4.out _ (hL.below BC.out hL.pos)).mono ?_
    rintro e wd ⟨rfl, hb⟩
    have BX := Lib.hid (BC.out.trans (hb.mono BC.out.size))
    clear hb
    rw [hq]
    go_wp2_with fail
    refine (h9.out _ (hL.below BX.out hL.pos)).mono ?_
    rintro e wz ⟨rfl, hb⟩
    have BZ := Lib.hid (BX.out.trans (hb.mono BX.out.size))
    clear hb
    go_wp2_with fail
    go_ret
    exact ⟨rfl, BZ.out⟩

theorem full_any (a0 a1 a2 : Int) (h0 : a0 ≠ 0) (b off c : Nat) (xs : List Int) (w : World) (hL : Laid w) (hn : xs.length ≤ 30) (hp : 0 < xs.length) (hb : b < w.heap.size) (hc : ∀ j, j < xs.length → w.cell? ⟨b, off + j, none⟩ = some (.int .i64 (xs.getD j 0))) :
    Calls Tryd.prog 3 #[.int .i64 a0, .int .i64 a1, .int .i64 a2, .slice (some ⟨b, off, none⟩) xs.length c] w (fun e w' => e = .returned (.bool true) ∧ Below w.heap.size w w') := by
  have h1 := Lib.hid (made_any a0 a2 h0 b off c xs w hn hp hL hb hc)
  have h2 := Lib.hid (fun L e w hl hL hc => Told_any L (some a0) e w hl hL hc)
  have h3 := Lib.hid (fun L e w hl hL hc => Depth_any L (some a0) e w hl hL hc)
  have h4 := Lib.hid (fun L e w hl hL hc => Is_any L a0 a1 e w hl hL hc)
  have h9 := Lib.hid alive2_any
  clear hc
  have hq2 : (a0 == a1) = (a1 == a0) := by rw [Bool.eq_iff_iff, beq_iff_eq, beq_iff_eq]; exact eq_comm
  have HQ := Lib.hid hq2
  clear hq2
  cases hq : (a1 == a0)
  all_goals
    go_enter Tryd.func3, Tryd.ntmps3
    go_wp2_with fail
    refine h1.out.mono ?_
    rintro e wa ⟨B, L, rfl, hb, hl, hc, hi⟩
    have BA := Lib.hid hb
    have CA := Lib.hid hc
    have HLL := Lib.hid hl
    have HI := Lib.hid hi
    clear hb hc hl hi
    go_wp2_with fail
    refine (h2.out _ _ _ (by rw [HLL.out]; omega) (hL.below BA.out hL.pos) CA.out).mono ?_
    rintro e wb ⟨rfl, hb⟩
    have BB := Lib.hid (BA.out.trans (hb.mono BA.out.size))
    have CB := Lib.hid (CA.out.below hb CA.out.lt)
    clear hb
    rw [HI.out]
    unfold two
    go_wp2_with fail
    refine (h3.out _ _ _ (by rw [HLL.out]; omega) (hL.below BB.out hL.pos) CB.out).mono ?_
    rintro e wc ⟨rfl, hb⟩
    have BC := Lib.hid (BB.out.trans (hb.mono BB.out.size))
    have CC := Lib.hid (CB.out.below hb CB.out.lt)
    clear hb
    rw [HLL.out]
    go_wp2_with fail
    refine (h4.out _ _ _ (by rw [HLL.out]; omega) (hL.below BC.out hL.pos) CC.out).mono ?_
    rintro e wd ⟨rfl, hb⟩
    have BX := Lib.hid (BC.out.trans (hb.mono BC.out.size))
    clear hb
    rw [HQ.out, hq]
    go_wp2_with fail
    refine (h9.out _ (hL.below BX.out hL.pos)).mono ?_
    rintro e wz ⟨rfl, hb⟩
    have BZ := Lib.hid (BX.out.trans (hb.mono BX.out.size))
    clear hb
    go_wp2_with fail
    go_ret
    exact ⟨rfl, BZ.out⟩

theorem empty_ok (a1 a2 : Int) (A : Option Addr) (c : Nat) (w : World) (hL : Laid w) :
    Calls Tryd.prog 3 #[.int .i64 0, .int .i64 a1, .int .i64 a2, .slice A 0 c] w (fun e w' => e = .returned (.bool true) ∧ Below w.heap.size w w') := by
  have h1 := Lib.hid (made_ok_empty a2 A c w)
  have h2 := Lib.hid (Told_any [] none .nilIface)
  have h3 := Lib.hid (Depth_any [] none .nilIface)
  have h4 := Lib.hid (Is_nil a1)
  have h9 := Lib.hid alive2_any
  cases hq : (a1 == 0)
  all_goals
    go_enter Tryd.func3, Tryd.ntmps3
    go_wp2_with fail
    refine h1.out.mono ?_
    rintro e wa ⟨rfl, hb⟩
    have BA := Lib.hid hb
    clear hb
    go_wp2_with fail
    refine (h2.out _ (by simp) (hL.below BA.out hL.pos) rfl).mono ?_
    rintro e wb ⟨rfl, hb⟩
    have BB := Lib.hid (BA.out.trans (hb.mono BA.out.size))
    clear hb
    unfold two
    simp only [inmost, base]
    go_wp2_with fail
    refine (h3.out _ (by simp) (hL.below BB.out hL.pos) rfl).mono ?_
    rintro e wc ⟨rfl, hb⟩
    have BC := Lib.hid (BB.out.trans (hb.mono BB.out.size))
    clear hb
    simp only [List.length_nil]
    go_wp2_with fail
    refine (h4.out _ (hL.below BC.out hL.pos)).mono ?_
    rintro e wd ⟨rfl, hb⟩
    have BX := Lib.hid (BC.out.trans (hb.mono BC.out.size))
    clear hb
    rw [hq]
    go_wp2_with fail
    refine (h9.out _ (hL.below BX.out hL.pos)).mono ?_
    rintro e wz ⟨rfl, hb⟩
    have BZ := Lib.hid (BX.out.trans (hb.mono BX.out.size))
    clear hb
    go_wp2_with fail
    go_ret
    exact ⟨rfl, BZ.out⟩

theorem empty_any (a0 a1 a2 : Int) (h0 : a0 ≠ 0) (A : Option Addr) (c : Nat) (w : World) (hL : Laid w) :
    Calls Tryd.prog 3 #[.int .i64 a0, .int .i64 a1, .int .i64 a2, .slice A 0 c] w (fun e w' => e = .returned (.bool true) ∧ Below w.heap.size w w') := by
  have h1 := Lib.hid (made_empty a0 a2 h0 A c w hL)
  have h2 := Lib.hid (fun L e w hl hL hc => Told_any L (some a0) e w hl hL hc)
  have h3 := Lib.hid (fun L e w hl hL hc => Depth_any L (some a0) e w hl hL hc)
  have h4 := Lib.hid (fun L e w hl hL hc => Is_any L a0 a1 e w hl hL hc)
  have h9 := Lib.hid alive2_any
  have hq2 : (a0 == a1) = (a1 == a0) := by rw [Bool.eq_iff_iff, beq_iff_eq, beq_iff_eq]; exact eq_comm
  have HQ := Lib.hid hq2
  clear hq2
  cases hq : (a1 == a0)
  all_goals
    go_enter Tryd.func3, Tryd.ntmps3
    go_wp2_with fail
    refine h1.out.mono ?_
    rintro e wa ⟨B, L, rfl, hb, hl, hc, hi⟩
    have BA := Lib.hid hb
    have CA := Lib.hid hc
    have HLL := Lib.hid hl
    have HI := Lib.hid hi
    clear hb hc hl hi
    go_wp2_with fail
    refine (h2.out _ _ _ (by rw [HLL.out]; omega) (hL.below BA.out hL.pos) CA.out).mono ?_
    rintro e wb ⟨rfl, hb⟩
    have BB := Lib.hid (BA.out.trans (hb.mono BA.out.size))
    have CB := Lib.hid (CA.out.below hb CA.out.lt)
    clear hb
    rw [HI.out]
    unfold two
    go_wp2_with fail
    refine (h3.out _ _ _ (by rw [HLL.out]; omega) (hL.below BB.out hL.pos) CB.out).mono ?_
    rintro e wc ⟨rfl, hb⟩
    have BC := Lib.hid (BB.out.trans (hb.mono BB.out.size))
    have CC := Lib.hid (CB.out.below hb CB.out.lt)
    clear hb
    rw [HLL.out]
    go_wp2_with fail
    refine (h4.out _ _ _ (by rw [HLL.out]; omega) (hL.below BC.out hL.pos) CC.out).mono ?_
    rintro e wd ⟨rfl, hb⟩
    have BX := Lib.hid (BC.out.trans (hb.mono BC.out.size))
    clear hb
    rw [HQ.out, hq]
    go_wp2_with fail
    refine (h9.out _ (hL.below BX.out hL.pos)).mono ?_
    rintro e wz ⟨rfl, hb⟩
    have BZ := Lib.hid (BX.out.trans (hb.mono BX.out.size))
    clear hb
    go_wp2_with fail
    go_ret
    exact ⟨rfl, BZ.out⟩

theorem long (a0 a1 a2 : Int) (A : Option Addr) (n c : Nat) (w : World) (hL : Laid w) (hn : 30 < n) (hm : n ≤ 9223372036854775807) :
    Calls Tryd.prog 3 #[.int .i64 a0, .int .i64 a1, .int .i64 a2, .slice A n c] w (fun e w' => e = .returned (.bool true) ∧ Below w.heap.size w w') := by
  have h9 := Lib.hid alive2_any
  go_enter Tryd.func3, Tryd.ntmps3
  go_wp2_with fail
  refine (h9.out _ hL).mono ?_
  rintro e wz ⟨rfl, hb⟩
  have BZ := Lib.hid hb
  clear hb
  go_wp2_with fail
  go_ret
  exact ⟨rfl, BZ.out⟩

set_option maxRecDepth 100000 in
theorem lifted (os : Os) (started : os.Started) (H : Type) (enc : TypeId × Value → H) :
    ReturnsInHanded {} Tryd.checked os 3 .any (fun w args => (Rows.faultTellsSpec.pre enc Tryd.prog Tryd.f3 [] false w args ∧ laidMetH Tryd.prog laidList w) ∧ sizedMet enc Tryd.prog Tryd.f3 (OpenSpec.ofChange Rows.faultTellsSpec) false w args)
      (Rows.faultTellsSpec.post enc Tryd.prog Tryd.f3 false true false false) := by
  refine returnsInHanded_of_change_and (C := Tryd.checked) (X := fun w _ => laidMetH Tryd.prog laidList w) (fun _ _ _ hh h => h.of_heap hh) own started (by kernel_rfl) Tryd.func3
    (ChangeSpec.witness_at (enc := enc) (C := Tryd.checked) (os := os) (X := fun w _ => laidMetH Tryd.prog laidList w) false (laidWorld os) #[.int .i64 0, .int .i64 0, .int .i64 0, .slice none 0 0] 8 rfl (by kernel_rfl) (by kernel_rfl) (by kernel_rfl) (by kernel_rfl) (by kernel_rfl) (laidWorld_met os _)) ?_
  intro W base args ds gs before hval0 hW _ _ hL _
  have hval : ∀ (j : Nat) t v, Tryd.f3.params[j]? = some t → args[j]? = some v → Value.okWide Tryd.prog W .any base t v := hval0
  have hW' := hW
  obtain ⟨p, q, hA0, hV0, rfl, hfz, hnd⟩ := hW
  have hA : DataW.TrodAll enc Tryd.prog W 0 (fun _ => true) true Tryd.f3.params.toList args.toList ds p := hA0
  have hV : DataW.TrodVars enc Tryd.prog W (fun _ => true) [] gs q := hV0
  rw [Tryd.params3] at hA hval
  have hAk := hA
  have hg := laid_of_met hL
  obtain ⟨v0, vs0, d0, ds0, p0, q0, hargs, rfl, rfl, h0, r0⟩ := trodAll_cons hA
  obtain ⟨v1, vs1, d1, ds1, p1, q1, rfl, rfl, rfl, h1, r1⟩ := trodAll_cons r0
  obtain ⟨v2, vs2, d2, ds2, p2, q2, rfl, rfl, rfl, h2, r2⟩ := trodAll_cons r1
  obtain ⟨v3, vs3, d3, ds3, p3, q3, rfl, rfl, rfl, h3, r3⟩ := trodAll_cons r2
  obtain ⟨rfl, rfl, rfl⟩ := trodAll_nil r3
  obtain rfl : args = #[v0, v1, v2, v3] := by cases args; simp_all
  obtain ⟨a0, rfl, rfl, rfl, w0⟩ := open_int Tryd.underlying3 (hval 0 3 v0 rfl rfl) h0
  obtain ⟨a1, rfl, rfl, rfl, w1⟩ := open_int Tryd.underlying3 (hval 1 3 v1 rfl rfl) h1
  obtain ⟨a2, rfl, rfl, rfl, w2⟩ := open_int Tryd.underlying3 (hval 2 3 v2 rfl rfl) h2
  obtain ⟨s3, n3, c3, rfl⟩ := okWide_slice Tryd.underlying22 (hval 3 22 v3 rfl rfl)
  obtain ⟨rfl, rfl⟩ := trodVars_none hV
  clear hA0 hval0
  simp only [List.append_nil] at hW' hAk
  have fin : ∀ W' : World, Below W.heap.size W W' → Rows.faultTellsSpec.post enc Tryd.prog Tryd.f3 false true false false W #[.int .i64 a0, .int .i64 a1, .int .i64 a2, .slice s3 n3 c3] (.bool true) W' := fun W' hb =>
    ⟨_, _, _, [], _, [], hW', trodAll_cons_mk (shut_bool Tryd.underlying4 _) trodAll_mk0, all_stay Tryd.laidOut [3, 3, 3, 22] (by kernel_rfl) hb _ _ _ hAk (fun x hx => hW'.lt x hx), rfl, hb.frame _, fun h => by cases h⟩
  have go : ∀ e W', (e = Ending.returned (.bool true) ∧ Below W.heap.size W W') → ∃ v, e = Ending.returned v ∧ Rows.faultTellsSpec.post enc Tryd.checked.prog Tryd.f3 false true false false W #[.int .i64 a0, .int .i64 a1, .int .i64 a2, .slice s3 n3 c3] v W' :=
    fun e W' ⟨he, hb⟩ => ⟨_, he, fin W' hb⟩
  obtain ⟨fuel, hf⟩ := h3
  rcases open_ints Tryd.underlying22 Tryd.underlying3 cells_int hf with ⟨hcs, hx⟩ | ⟨a, len', cap', zs, hcs, _, hl, hm, hz, hx, hcell, hwz⟩
  · simp [Value.cells] at hcs
    obtain ⟨rfl, rfl, rfl⟩ := hcs
    by_cases h0 : a0 = 0
    · subst h0
      exact (empty_ok a1 a2 none 0 W hg).mono go
    · exact (empty_any a0 a1 a2 h0 none 0 W hg).mono go
  · simp [Value.cells] at hcs
    obtain ⟨rfl, rfl, rfl⟩ := hcs
    simp only [if_true] at hz
    by_cases hbig : 30 < n3
    · exact (long a0 a1 a2 (some a) n3 c3 W hg hbig (by unfold maxLen at hm; omega)).mono go
    by_cases hl0 : n3 = 0
    · subst hl0
      by_cases h0 : a0 = 0
      · subst h0
        exact (empty_ok a1 a2 (some a) c3 W hg).mono go
      · exact (empty_any a0 a1 a2 h0 (some a) c3 W hg).mono go
    · obtain ⟨b, off, spot⟩ := a
      have hspot : spot = none := by simpa [Addr.add] using World.cell?_spot (hcell 0 (by omega))
      subst hspot
      have hb : b < W.heap.size := by
        have := World.block_lt_of_cell? W _ (hcell 0 (by omega))
        simpa [Addr.add] using this
      have hlen : (zs.take n3).length = n3 := by rw [List.length_take]; omega
      have hc : ∀ j, j < (zs.take n3).length → W.cell? ⟨b, off + j, none⟩ = some (.int .i64 ((zs.take n3).getD j 0)) := fun j hj => by
        have h1 := hcell j (by omega)
        rw [add_plain] at h1
        rw [h1]
        simp [List.getD, show j < n3 by omega]
      by_cases h0 : a0 = 0
      · subst h0
        have hw := full_ok a1 a2 b off c3 (zs.take n3) W hg (by omega) (by omega) hb hc
        rw [hlen] at hw
        exact hw.mono go
      · have hw := full_any a0 a1 a2 h0 b off c3 (zs.take n3) W hg (by omega) (by omega) hb hc
        rw [hlen] at hw
        exact hw.mono go

theorem over : Rows.FaultTellsSaid :=
  OpenClaim.holds_of_wide 3 Tryd.f3 rfl rfl rfl rfl rfl rfl rfl ⟨rfl, rfl, rfl, rfl, rfl⟩ rfl rfl rfl rfl rfl (by kernel_rfl) Tryd.func3 (by kernel_rfl)
    (of_decide_eq_true (by kernel_rfl)) (by unfold Func.isWrapper; first | (rw [if_pos (by decide +kernel)]; kernel_rfl) | (rw [if_neg (by decide +kernel)]; exact ⟨rfl, rfl⟩))
    (fun os started H enc _ => lifted os started H enc)

theorem proved : Rows.FaultTellsCardSaid :=
  Claim7.holds_tied_plain_at .later [] [.handle] true Rows.faultTellsCard.stood.harness true
    over (fun _ h => by cases h) (by kernel_rfl) (fun _ h => by cases h) faultTells_row_tie rfl ⟨rfl, rfl⟩ (by kernel_rfl) rfl
    (fun f fn hf hfn => by
      obtain rfl : f = 3 := Option.some.inj ((show Tryd.prog.funcNamed Rows.faultTellsRow.func = some 3 by kernel_rfl).symm.trans hf) |>.symm
      obtain rfl : fn = Tryd.f3 := (Option.some.inj (Tryd.func3.symm.trans hfn)).symm
      exact ⟨by kernel_rfl, fun j t ht => by
        have hall : Tryd.f3.params.toList.all (fun t => !Tryd.prog.wantsStandIn t) = true := by kernel_rfl
        have hm : t ∈ Tryd.f3.params.toList := by
          have := Array.mem_of_getElem? ht
          exact Array.mem_toList_iff.2 this
        have := List.all_eq_true.1 hall t hm
        exact (show Tryd.prog.wantsStandIn t = false by simpa using this)⟩)
    (by kernel_rfl)
#print axioms proved
end Go.Proofs.YtmoikkdaigepcaaDoor.faultTells
