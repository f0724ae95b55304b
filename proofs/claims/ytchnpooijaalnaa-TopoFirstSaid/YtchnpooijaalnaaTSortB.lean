/- The merge, the stable sort, and the contract of topo.Order (conditions: the netlist lies where its value says, fits, is modest, its ports begin near 0; at most 900 nodes). -/
import Derived.Test.YtchnpooijaalnaaTSortA
import Derived.Deep.DeepCutAuto
import Derived.Test.YtchnpooijaalnaaTLevels
namespace Go.Proofs.Ytchnpooijaalnaa
open Go.ChangeShapes Go.WideShapes Go.RowKit
set_option linter.unusedVariables false
variable {lo g : Nat} {w3 : World} {N : List PNode} {lev : PNode → Int} {R : PNode → PNode → Prop} {xc : Nat}

set_option maxRecDepth 100000 in
set_option maxHeartbeats 16000000 in
theorem sym_big (hC : Cmps lo g w3 N lev xc) (hR : ∀ x y, lev x ≠ lev y → R x y) {c M : Nat} (IH : SymSays lo g w3 N lev R xc c M) (P S1 S2 Q : List PNode) (w : World) (hM : S1.length + S2.length < M + 1) (hu : 2 ≤ S1.length) (hv : 2 ≤ S2.length) (h : Srt lo g w3 (P ++ S1 ++ S2 ++ Q) w) (hN : ∀ x ∈ P ++ S1 ++ S2 ++ Q, x ∈ N) (hst : (P ++ S1 ++ S2 ++ Q).Pairwise R) (hs1 : Sd lev S1) (hs2 : Sd lev S2) (hbig : (P.length + (P ++ S1 ++ S2).length) / 2 < (P ++ S1).length) (hn : (P ++ S1 ++ S2 ++ Q).length ≤ 1000000) :
    Calls Try.prog 72 #[.slice (some ⟨g, 0, none⟩) (P ++ S1 ++ S2 ++ Q).length c, .int .i64 (P.length : Nat), .int .i64 ((P ++ S1).length : Nat), .int .i64 ((P ++ S1 ++ S2).length : Nat), .func (.func 30) #[] #[.pointer (some ⟨xc, 0, none⟩)]] w fun e w' => e = .returned (.tuple #[]) ∧ Hid (∃ S', Done lev R P (S1 ++ S2) Q S' ∧ Srt lo g w3 (P ++ S' ++ Q) w') := by
  have h1 : (P ++ S1).length = P.length + S1.length := by simp
  have h2 : (P ++ S1 ++ S2).length = P.length + S1.length + S2.length := by simp; omega
  have h3 : (P ++ S1 ++ S2 ++ Q).length = P.length + S1.length + S2.length + Q.length := by simp; omega
  have hX1 : ∀ k, k < S1.length → (P ++ S1 ++ S2 ++ Q)[P.length + k]? = S1[k]? := fun k hk => by
    rw [show P ++ S1 ++ S2 ++ Q = P ++ (S1 ++ (S2 ++ Q)) by simp, List.getElem?_append_right (by omega), List.getElem?_append_left (by omega)]
    congr 1
    omega
  have hX2 : ∀ k, k < S2.length → (P ++ S1 ++ S2 ++ Q)[P.length + S1.length + k]? = S2[k]? := fun k hk => by
    rw [show P ++ S1 ++ S2 ++ Q = (P ++ S1) ++ (S2 ++ Q) by simp, List.getElem?_append_right (by rw [h1]; omega), List.getElem?_append_left (by rw [h1]; omega)]
    congr 1
    rw [h1]
    omega
  generalize hX : P ++ S1 ++ S2 ++ Q = X at *
  generalize hL : X.length = NN at *
  generalize hb : (P ++ S1 ++ S2).length = b at *
  generalize hm : (P ++ S1).length = m at *
  generalize ha : P.length = a at *
  generalize hU : S1.length = u at *
  generalize hV : S2.length = v at *
  obtain ⟨mid, hmd⟩ : ∃ mid, mid = (a + b) / 2 := ⟨_, rfl⟩
  obtain ⟨nn, hnn⟩ : ∃ nn, nn = mid + m := ⟨_, rfl⟩
  obtain ⟨pp, hpp⟩ : ∃ pp, pp = nn - 1 := ⟨_, rfl⟩
  have e1 : (m : Int) - (a : Int) = (u : Int) := by omega
  have e2 : (b : Int) - (m : Int) = (v : Int) := by omega
  have e3 : ((u : Int) == 1) = false := beq_eq_false_iff_ne.2 (by omega)
  have e4 : ((v : Int) == 1) = false := beq_eq_false_iff_ne.2 (by omega)
  have e5 : ((a : Int) + (b : Int)) / 2 = (mid : Int) := by omega
  have e6 : (mid : Int) + (m : Int) = (nn : Int) := by omega
  have e7 : (nn : Int) - 1 = (pp : Int) := by omega
  have d1 : (a : Int) ≤ 1000000 := by omega
  have d3 : (m : Int) ≤ 1000000 := by omega
  have d4 : (NN : Int) ≤ 1000000 := by omega
  have d7 : (b : Int) ≤ 1000000 := by omega
  have d8 : (mid : Int) ≤ 1000000 := by omega
  have d9 : (nn : Int) ≤ 2000000 := by omega
  have d10 : (u : Int) ≤ 1000000 := by omega
  have d11 : (v : Int) ≤ 1000000 := by omega
  have HN := Lib.hid hN
  have HA := Lib.hid (And.intro h1 (And.intro h2 (And.intro h3 (And.intro ha (And.intro hL (And.intro hU (And.intro hV (And.intro hmd (And.intro hnn (And.intro hpp (And.intro hu (And.intro hv hM))))))))))))
  have HX := Lib.hid (And.intro hX (And.intro hX1 hX2))
  have HP := Lib.hid (And.intro hst (And.intro hs1 (And.intro hs2 h)))
  have HC := Lib.hid hC
  have HIH := Lib.hid IH
  have HRR := Lib.hid hR
  clear h hst hN hX hL hb hm ha h1 h2 h3 hX1 hX2 hs1 hs2 hC hU hV hmd hnn hpp hu hv hM IH hR
  obtain ⟨st0, hst0⟩ : ∃ st0, st0 = nn - b := ⟨_, rfl⟩
  have hbI : (mid : Int) < (m : Int) := by omega
  have e8 : (nn : Int) - (b : Int) = (st0 : Int) := by have := HA.out; omega
  have HB := Lib.hid (show a ≤ st0 ∧ st0 ≤ mid ∧ mid ≤ m ∧ (∀ s, st0 < s → s ≤ mid → a < s ∧ m ≤ nn - s ∧ nn - s < b) ∧ (∀ s, st0 ≤ s → s < mid → a ≤ s ∧ s < m ∧ m ≤ pp - s ∧ pp - s < b) ∧ (st0 = a ∨ nn - st0 = b) ∧ (mid = m ∨ nn - mid = m) ∧ m ≤ nn - mid ∧ nn - st0 ≤ b from by
    have := HA.out
    refine ⟨by omega, by omega, by omega, fun s h4 h5 => by omega, fun s h4 h5 => by omega, .inr (by omega), .inr (by omega), by omega, by omega⟩)
  clear hbig hst0
  go_enter Try.func72, Try.ntmps72
  go_wp2_with fail
  go_loopg [20, 21] (mid - st0) (fun mm s20 s21 wx => ∃ (s r : Nat), r - s = mm ∧ s20 = .int .i64 s ∧ s21 = .int .i64 r ∧ Aside (st0 ≤ s ∧ s ≤ r ∧ r ≤ mid ∧ Srt lo g w3 X wx ∧ (st0 < s → la lev X (s - 1) ≤ la lev X (pp - (s - 1))) ∧ (r < mid → la lev X (pp - r) < la lev X r)))
  case atStart => exact ⟨st0, mid, rfl, rfl, rfl, Nat.le_refl _, HB.out.2.1, Nat.le_refl _, HP.out.2.2.2, fun h => by omega, fun h => by omega⟩
  case round =>
    obtain ⟨s, r, hsr, rfl, rfl, HS⟩ := hrel
    generalize gk = mm at *
    by_cases hlt : s < r
    · have hltI : (s : Int) < (r : Int) := by omega
      obtain ⟨k, hk⟩ : ∃ k, k = (s + r) / 2 := ⟨_, rfl⟩
      have hkb := HB.out.2.2.2.2.1 k (by have := HS.out.1; omega) (by have := HS.out.2.2.1; omega)
      obtain ⟨d, hd⟩ : ∃ d, d = pp - k := ⟨_, rfl⟩
      have hmid : ((s : Int) + (r : Int)) / 2 = (k : Int) := by omega
      have hdk : (pp : Int) - (k : Int) = (d : Int) := by omega
      have hwd := wrap_in (n := (d : Int)) (by omega) (by omega)
      have hs1 : (s : Int) ≤ 1000000 := by omega
      have hr1 : (r : Int) ≤ 1000000 := by have := HS.out.2.2.1; have := HB.out.2.2.1; omega
      have hkN : (k : Int) < (NN : Int) := by have := HA.out; omega
      have hk0 : (0 : Int) ≤ (k : Int) := by omega
      have hkm : (k : Int) ≤ 1000000 := by omega
      have hdN : (d : Int) < (NN : Int) := by have := HA.out; omega
      have hd0 : (0 : Int) ≤ (d : Int) := by omega
      obtain ⟨z, hz⟩ := some_of_lt (show k < X.length by have := HA.out.2.2.2.2.1; omega)
      obtain ⟨y, hy⟩ := some_of_lt (show d < X.length by have := HA.out.2.2.2.2.1; omega)
      have HY := Lib.hid (And.intro hz (And.intro hy (And.intro hd (And.intro hk (And.intro hsr hlt)))))
      have hSs := HS.out.2.2.2.1
      obtain ⟨p0, p1, p2⟩ := hSs.row.node _ _ hy
      obtain ⟨q0, q1, q2⟩ := hSs.row.node _ _ hz
      have hgl : g < wr.heap.size := Nat.lt_of_lt_of_le hSs.lt hSs.near.size
      have HK := Lib.hid fun (W : World) (hW : Below wr.heap.size wr W) => show (W.cell? ⟨g, d * 3, none⟩ = some (.bool y.nr) ∧ W.cell? ⟨g, d * 3 + 1, none⟩ = some (.int .i64 y.nm) ∧ W.cell? ⟨g, d * 3 + 2, none⟩ = some (.int .i64 y.na) ∧ W.cell? ⟨g, k * 3, none⟩ = some (.bool z.nr) ∧ W.cell? ⟨g, k * 3 + 1, none⟩ = some (.int .i64 z.nm) ∧ W.cell? ⟨g, k * 3 + 2, none⟩ = some (.int .i64 z.na)) ∧ Hid (Below wr.heap.size wr W) from ⟨⟨(hW.cell (p := ⟨g, d * 3, none⟩) hgl).trans p0, (hW.cell (p := ⟨g, d * 3 + 1, none⟩) hgl).trans p1, (hW.cell (p := ⟨g, d * 3 + 2, none⟩) hgl).trans p2, (hW.cell (p := ⟨g, k * 3, none⟩) hgl).trans q0, (hW.cell (p := ⟨g, k * 3 + 1, none⟩) hgl).trans q1, (hW.cell (p := ⟨g, k * 3 + 2, none⟩) hgl).trans q2⟩, Lib.hid hW⟩
      have HT := Lib.hid fun (W V' : World) (hW : (W.cell? ⟨g, d * 3, none⟩ = some (.bool y.nr) ∧ W.cell? ⟨g, d * 3 + 1, none⟩ = some (.int .i64 y.nm) ∧ W.cell? ⟨g, d * 3 + 2, none⟩ = some (.int .i64 y.na) ∧ W.cell? ⟨g, k * 3, none⟩ = some (.bool z.nr) ∧ W.cell? ⟨g, k * 3 + 1, none⟩ = some (.int .i64 z.nm) ∧ W.cell? ⟨g, k * 3 + 2, none⟩ = some (.int .i64 z.na)) ∧ Hid (Below wr.heap.size wr W)) (hV : Below W.heap.size W V') => HK.out V' (hW.2.out.trans (hV.mono hW.2.out.size))
      have HCM := Lib.hid fun (W : World) (hW : (W.cell? ⟨g, d * 3, none⟩ = some (.bool y.nr) ∧ W.cell? ⟨g, d * 3 + 1, none⟩ = some (.int .i64 y.nm) ∧ W.cell? ⟨g, d * 3 + 2, none⟩ = some (.int .i64 y.na) ∧ W.cell? ⟨g, k * 3, none⟩ = some (.bool z.nr) ∧ W.cell? ⟨g, k * 3 + 1, none⟩ = some (.int .i64 z.nm) ∧ W.cell? ⟨g, k * 3 + 2, none⟩ = some (.int .i64 z.na)) ∧ Hid (Below wr.heap.size wr W)) => HC.out W y z (hSs.call hW.2.out).near (HN.out y (mem_of_some hy)) (HN.out z (mem_of_some hz))
      have eg := enters_of Try.func30 (by kernel_rfl) rfl
      have HSs := Lib.hid hSs
      clear hSs
      clear hz hy hd hk hsr hlt hkb
      by_cases hc : lev y < lev z
      · as_aux_lemma =>
          have HLT := Lib.hid hc
          clear hc
          go_wp2_with fail
          go_region_held3 (fun W => (W.cell? ⟨g, d * 3, none⟩ = some (.bool y.nr) ∧ W.cell? ⟨g, d * 3 + 1, none⟩ = some (.int .i64 y.nm) ∧ W.cell? ⟨g, d * 3 + 2, none⟩ = some (.int .i64 y.na) ∧ W.cell? ⟨g, k * 3, none⟩ = some (.bool z.nr) ∧ W.cell? ⟨g, k * 3 + 1, none⟩ = some (.int .i64 z.nm) ∧ W.cell? ⟨g, k * 3 + 2, none⟩ = some (.int .i64 z.na)) ∧ Hid (Below wr.heap.size wr W)) (first | exact HK.out _ (Below.refl _ _).drew | exact HT.out _ _ (by assumption) (by assumption) | go_keep)
            (first
              | (go_at_call 30; refine (HCM.out _ (by assumption)).mono ?_; rintro e w5 ⟨cc, rfl, hc1, hc2, hb5⟩; have hcc := hc1 HLT.out; subst hcc)
              | fail)
          all_goals
            have HB5 := Lib.hid (HSs.out.call (show (w5.cell? ⟨g, d * 3, none⟩ = some (.bool y.nr) ∧ w5.cell? ⟨g, d * 3 + 1, none⟩ = some (.int .i64 y.nm) ∧ w5.cell? ⟨g, d * 3 + 2, none⟩ = some (.int .i64 y.na) ∧ w5.cell? ⟨g, k * 3, none⟩ = some (.bool z.nr) ∧ w5.cell? ⟨g, k * 3 + 1, none⟩ = some (.int .i64 z.nm) ∧ w5.cell? ⟨g, k * 3 + 2, none⟩ = some (.int .i64 z.na)) ∧ Hid (Below wr.heap.size wr w5) from by assumption).2.out)
            rename_i hrest
            clear hrest p0 p1 p2 q0 q1 q2 hb5 HK HT HCM eg
            go_wp2_with fail
            go_roundg (k - s)
            case measure => have := HY.out.2.2.2.1; have := HY.out.2.2.2.2; omega
            case rel => exact ⟨s, k, rfl, rfl, by first | rfl | simp, HS.out.1, by have := HY.out.2.2.2; omega, by have := HS.out.2.2.1; have := HY.out.2.2.2; omega, HB5.out, HS.out.2.2.2.2.1, fun _ => by rw [← HY.out.2.2.1, la_at HY.out.2.1, la_at HY.out.1]; exact HLT.out⟩
      · as_aux_lemma =>
          have HLT := Lib.hid hc
          clear hc
          go_wp2_with fail
          go_region_held3 (fun W => (W.cell? ⟨g, d * 3, none⟩ = some (.bool y.nr) ∧ W.cell? ⟨g, d * 3 + 1, none⟩ = some (.int .i64 y.nm) ∧ W.cell? ⟨g, d * 3 + 2, none⟩ = some (.int .i64 y.na) ∧ W.cell? ⟨g, k * 3, none⟩ = some (.bool z.nr) ∧ W.cell? ⟨g, k * 3 + 1, none⟩ = some (.int .i64 z.nm) ∧ W.cell? ⟨g, k * 3 + 2, none⟩ = some (.int .i64 z.na)) ∧ Hid (Below wr.heap.size wr W)) (first | exact HK.out _ (Below.refl _ _).drew | exact HT.out _ _ (by assumption) (by assumption) | go_keep)
            (first
              | (go_at_call 30; refine (HCM.out _ (by assumption)).mono ?_; rintro e w5 ⟨cc, rfl, hc1, hc2, hb5⟩; have hcn : ¬ cc < 0 := (by have := hc2 HLT.out; omega); have hcd : decide (cc < 0) = false := decide_eq_false hcn)
              | fail)
          all_goals
            have HB5 := Lib.hid (HSs.out.call (show (w5.cell? ⟨g, d * 3, none⟩ = some (.bool y.nr) ∧ w5.cell? ⟨g, d * 3 + 1, none⟩ = some (.int .i64 y.nm) ∧ w5.cell? ⟨g, d * 3 + 2, none⟩ = some (.int .i64 y.na) ∧ w5.cell? ⟨g, k * 3, none⟩ = some (.bool z.nr) ∧ w5.cell? ⟨g, k * 3 + 1, none⟩ = some (.int .i64 z.nm) ∧ w5.cell? ⟨g, k * 3 + 2, none⟩ = some (.int .i64 z.na)) ∧ Hid (Below wr.heap.size wr w5) from by assumption).2.out)
            rename_i hrest
            clear hrest p0 p1 p2 q0 q1 q2 hb5 HK HT HCM eg
            go_wp2_with fail
            go_roundg (r - (k + 1))
            case measure => have := HY.out.2.2.2.1; have := HY.out.2.2.2.2; omega
            case rel => exact ⟨k + 1, r, rfl, by first | rfl | simp, rfl, by have := HS.out.1; have := HY.out.2.2.2; omega, by have := HY.out.2.2.2; omega, HS.out.2.2.1, HB5.out, fun _ => by rw [Nat.add_sub_cancel, ← HY.out.2.2.1, la_at HY.out.2.1, la_at HY.out.1]; have := HLT.out; omega, HS.out.2.2.2.2.2⟩
    · have hrs : r = s := by have := HS.out.2.1; omega
      subst hrs
      obtain ⟨i, q, en, hi, hen, hq, hmq, hiu, hqv, hiq, hb1', hb2', hm3⟩ := cut_nums (u := u) (v := v) HA.out.1 HA.out.2.1 HA.out.2.2.2.2.2.2.2.1 HA.out.2.2.2.2.2.2.2.2.1 HA.out.2.2.2.2.2.2.2.2.2.1 HA.out.2.2.2.2.2.2.2.2.2.2.1 HA.out.2.2.2.2.2.2.2.2.2.2.2.1 HS.out.1 HS.out.2.2.1 HB.out.1 HB.out.2.2.1 HB.out.2.2.2.2.2.1 HB.out.2.2.2.2.2.2.1 HB.out.2.2.2.2.2.2.2.1 HB.out.2.2.2.2.2.2.2.2
      have hUl := HA.out.2.2.2.2.2.1
      have hVl := HA.out.2.2.2.2.2.2.1
      have hb1 : ∀ x y, S1[i]? = some x → 0 < q → S2[q - 1]? = some y → lev y < lev x := fun x y hx h0 hy => by
        have hxl := lt_of_some hx
        have hyl := lt_of_some hy
        rw [hUl] at hxl
        obtain ⟨h8, h9⟩ := hb1' hxl h0
        have h5 := HS.out.2.2.2.2.2 h8
        have h6 := HX.out.2.1 i hxl
        have h7 := HX.out.2.2 (q - 1) (by rw [hVl] at hyl; exact hyl)
        rw [hx] at h6
        rw [hy] at h7
        rw [h9, hi, la_at h6, la_at h7] at h5
        exact h5
      have hb2 : ∀ x y, 0 < i → S1[i - 1]? = some x → S2[q]? = some y → lev x ≤ lev y := fun x y h0 hx hy => by
        have hxl := lt_of_some hx
        have hyl := lt_of_some hy
        rw [hVl] at hyl
        rw [hUl] at hxl
        obtain ⟨h8, h9, h10⟩ := hb2' h0 hyl
        have h5 := HS.out.2.2.2.2.1 h8
        have h6 := HX.out.2.1 (i - 1) hxl
        have h7 := HX.out.2.2 q hyl
        rw [hx] at h6
        rw [hy] at h7
        rw [h9, h10, la_at h6, la_at h7] at h5
        exact h5
      have hc1 := cut_strict HP.out.2.1 HP.out.2.2.1 (by rw [hVl]; exact hqv) hb1
      have hc2 := cut_weak HP.out.2.1 HP.out.2.2.1 (by rw [hUl]; exact hiu) hb2
      have hstX := HP.out.1
      have hSX := HS.out.2.2.2.1
      have hNX := HN.out
      rw [← HX.out.1] at hstX hSX hNX
      have HPa := Lib.hid (sym_parts (c := c) (a := a) (m := m) (b := b) (r := r) (en := en) (mid := mid) (NN := NN) HRR.out HIH.out (by rw [hUl, hVl]; exact HA.out.2.2.2.2.2.2.2.2.2.2.2.2) hSX hNX hstX HP.out.2.1 HP.out.2.2.1 hn HA.out.2.2.2.1 (by rw [hUl]; exact HA.out.1) (by rw [hUl, hVl]; exact HA.out.2.1) (by rw [HX.out.1]; exact HA.out.2.2.2.2.1) hi hq hmq (by rw [hUl]; exact hiu) (by rw [hVl]; exact hqv) (by rw [hUl, hVl]; exact hiq) hc1 hc2)
      have henI : (nn : Int) - (r : Int) = (en : Int) := by have := HS.out.2.2.1; have := HB.out.2.2.2.2.2.2.2.1; have := HB.out.2.2.1; omega
      have hrI : (r : Int) ≤ 1000000 := by have := HS.out.2.2.1; have := HB.out.2.2.1; omega
      have HM3 := Lib.hid hm3
      have hlrr : ¬ ((r : Int) < (r : Int)) := by omega
      clear hi hen hq hmq hiu hqv hiq hb1' hb2' hm3 hUl hVl hb1 hb2 hc1 hc2 hstX hSX hNX hsr hlt HS
      go_upto_region 39 with fail
      go_cut [185] (fun s185 wx => s185 = .bool (decide (r < m ∧ m < en)) ∧ wx = wr)
      case first =>
        as_aux_lemma =>
          by_cases h2 : r < m
          · have i2 : (r : Int) < (m : Int) := by omega
            by_cases h3 : m < en
            · have i3 : (m : Int) < (en : Int) := by omega
              have HD := Lib.hid (show decide (r < m ∧ m < en) = true from decide_eq_true ⟨h2, h3⟩)
              go_wp2_with fail
              go_meet
              exact ⟨by rw [HD.out], rfl⟩
            · have i3 : ¬ ((m : Int) < (en : Int)) := by omega
              have HD := Lib.hid (show decide (r < m ∧ m < en) = false from decide_eq_false (fun h => h3 h.2))
              go_wp2_with fail
              go_meet
              exact ⟨by rw [HD.out], rfl⟩
          · have i2 : ¬ ((r : Int) < (m : Int)) := by omega
            have HD := Lib.hid (show decide (r < m ∧ m < en) = false from decide_eq_false (fun h => h2 h.1))
            go_wp2_with fail
            go_meet
            exact ⟨by rw [HD.out], rfl⟩
      case rest =>
      obtain ⟨rfl, rfl⟩ := hcut
      go_upto_if 185 with fail
      go_cut [] (fun wx => SA lo g w3 P S1 S2 Q i q wx)
      case first =>
        as_aux_lemma =>
          by_cases hr : r < m ∧ m < en
          · have HD := Lib.hid (show decide (r < m ∧ m < en) = true from decide_eq_true hr)
            have HH := Lib.hid hr
            rw [HD.out]
            clear hr
            go_wp2_with (go_at_call 88; refine (HPa.out.rot HH.out.1 HH.out.2).mono ?_; rintro e w5 ⟨rfl, hA⟩)
            go_meet
            exact hA.out
          · have HD := Lib.hid (show decide (r < m ∧ m < en) = false from decide_eq_false hr)
            have HH := Lib.hid (HPa.out.sa (by omega))
            rw [HD.out]
            clear hr
            go_wp2_with fail
            go_meet
            exact HH.out
      case rest =>
      have HA1 := Lib.hid hcut
      clear hcut
      generalize wc = wa at *
      go_upto_region 41 with fail
      go_cut [199] (fun s199 wx => s199 = .bool (decide (a < r ∧ r < mid)) ∧ wx = wa)
      case first =>
        as_aux_lemma =>
          by_cases h2 : a < r
          · have i2 : (a : Int) < (r : Int) := by omega
            by_cases h3 : r < mid
            · have i3 : (r : Int) < (mid : Int) := by omega
              have HD := Lib.hid (show decide (a < r ∧ r < mid) = true from decide_eq_true ⟨h2, h3⟩)
              go_wp2_with fail
              go_meet
              exact ⟨by rw [HD.out], rfl⟩
            · have i3 : ¬ ((r : Int) < (mid : Int)) := by omega
              have HD := Lib.hid (show decide (a < r ∧ r < mid) = false from decide_eq_false (fun h => h3 h.2))
              go_wp2_with fail
              go_meet
              exact ⟨by rw [HD.out], rfl⟩
          · have i2 : ¬ ((a : Int) < (r : Int)) := by omega
            have HD := Lib.hid (show decide (a < r ∧ r < mid) = false from decide_eq_false (fun h => h2 h.1))
            go_wp2_with fail
            go_meet
            exact ⟨by rw [HD.out], rfl⟩
      case rest =>
      obtain ⟨rfl, rfl⟩ := hcut
      go_upto_if 199 with fail
      go_cut [] (fun wx => SB lo g w3 lev R P S1 S2 Q i q wx)
      case first =>
        as_aux_lemma =>
          by_cases hr : a < r ∧ r < mid
          · have HD := Lib.hid (show decide (a < r ∧ r < mid) = true from decide_eq_true hr)
            have HH := Lib.hid (show a < r ∧ m < en from ⟨hr.1, HM3.out.1.1 hr.2⟩)
            rw [HD.out]
            clear hr
            go_wp2_with (go_at_call 72; refine (HPa.out.left _ HH.out.1 HH.out.2 HA1.out).mono ?_; rintro e w5 ⟨rfl, hA⟩)
            go_meet
            exact hA.out
          · have HD := Lib.hid (show decide (a < r ∧ r < mid) = false from decide_eq_false hr)
            have HH := Lib.hid (HPa.out.sb _ (by have := HM3.out.1; omega) HA1.out)
            rw [HD.out]
            clear hr
            go_wp2_with fail
            go_meet
            exact HH.out
      case rest =>
      have HB1 := Lib.hid hcut
      clear hcut
      generalize wc = wb at *
      go_upto_region 43 with fail
      go_cut [213] (fun s213 wx => s213 = .bool (decide (mid < en ∧ en < b)) ∧ wx = wb)
      case first =>
        as_aux_lemma =>
          by_cases h2 : mid < en
          · have i2 : (mid : Int) < (en : Int) := by omega
            by_cases h3 : en < b
            · have i3 : (en : Int) < (b : Int) := by omega
              have HD := Lib.hid (show decide (mid < en ∧ en < b) = true from decide_eq_true ⟨h2, h3⟩)
              go_wp2_with fail
              go_meet
              exact ⟨by rw [HD.out], rfl⟩
            · have i3 : ¬ ((en : Int) < (b : Int)) := by omega
              have HD := Lib.hid (show decide (mid < en ∧ en < b) = false from decide_eq_false (fun h => h3 h.2))
              go_wp2_with fail
              go_meet
              exact ⟨by rw [HD.out], rfl⟩
          · have i2 : ¬ ((mid : Int) < (en : Int)) := by omega
            have HD := Lib.hid (show decide (mid < en ∧ en < b) = false from decide_eq_false (fun h => h2 h.1))
            go_wp2_with fail
            go_meet
            exact ⟨by rw [HD.out], rfl⟩
      case rest =>
      obtain ⟨rfl, rfl⟩ := hcut
      by_cases hr : mid < en ∧ en < b
      · as_aux_lemma =>
          have HD := Lib.hid (show decide (mid < en ∧ en < b) = true from decide_eq_true hr)
          have HH := Lib.hid (show r < m ∧ en < b from ⟨HM3.out.2.1 hr.1, hr.2⟩)
          rw [HD.out]
          clear hr
          go_wp2_with (go_at_call 72; refine (HPa.out.right _ HH.out.1 HH.out.2 HB1.out).mono ?_; rintro e w5 ⟨rfl, hA⟩)
          go_end0
          exact ⟨rfl, Lib.hid (by have := hA.out; unfold SC at this; simpa using this)⟩
      · as_aux_lemma =>
          have HD := Lib.hid (show decide (mid < en ∧ en < b) = false from decide_eq_false hr)
          have HH := Lib.hid (HPa.out.sc _ (by have := HM3.out.2; omega) HB1.out)
          rw [HD.out]
          clear hr
          go_wp2_with fail
          go_end0
          exact ⟨rfl, Lib.hid (by have := HH.out; unfold SC at this; simpa using this)⟩
  
end Go.Proofs.Ytchnpooijaalnaa

namespace Go.Proofs.Ytchnpooijaalnaa
open Go.ChangeShapes Go.WideShapes Go.RowKit
set_option linter.unusedVariables false
variable {lo g : Nat} {w3 : World} {N : List PNode} {lev : PNode → Int} {R : PNode → PNode → Prop} {xc : Nat}

set_option maxRecDepth 100000 in
set_option maxHeartbeats 16000000 in
theorem sym_small (hC : Cmps lo g w3 N lev xc) (hR : ∀ x y, lev x ≠ lev y → R x y) {c M : Nat} (IH : SymSays lo g w3 N lev R xc c M) (P S1 S2 Q : List PNode) (w : World) (hM : S1.length + S2.length < M + 1) (hu : 2 ≤ S1.length) (hv : 2 ≤ S2.length) (h : Srt lo g w3 (P ++ S1 ++ S2 ++ Q) w) (hN : ∀ x ∈ P ++ S1 ++ S2 ++ Q, x ∈ N) (hst : (P ++ S1 ++ S2 ++ Q).Pairwise R) (hs1 : Sd lev S1) (hs2 : Sd lev S2) (hbig : ¬ (P.length + (P ++ S1 ++ S2).length) / 2 < (P ++ S1).length) (hn : (P ++ S1 ++ S2 ++ Q).length ≤ 1000000) :
    Calls Try.prog 72 #[.slice (some ⟨g, 0, none⟩) (P ++ S1 ++ S2 ++ Q).length c, .int .i64 (P.length : Nat), .int .i64 ((P ++ S1).length : Nat), .int .i64 ((P ++ S1 ++ S2).length : Nat), .func (.func 30) #[] #[.pointer (some ⟨xc, 0, none⟩)]] w fun e w' => e = .returned (.tuple #[]) ∧ Hid (∃ S', Done lev R P (S1 ++ S2) Q S' ∧ Srt lo g w3 (P ++ S' ++ Q) w') := by
  have h1 : (P ++ S1).length = P.length + S1.length := by simp
  have h2 : (P ++ S1 ++ S2).length = P.length + S1.length + S2.length := by simp; omega
  have h3 : (P ++ S1 ++ S2 ++ Q).length = P.length + S1.length + S2.length + Q.length := by simp; omega
  have hX1 : ∀ k, k < S1.length → (P ++ S1 ++ S2 ++ Q)[P.length + k]? = S1[k]? := fun k hk => by
    rw [show P ++ S1 ++ S2 ++ Q = P ++ (S1 ++ (S2 ++ Q)) by simp, List.getElem?_append_right (by omega), List.getElem?_append_left (by omega)]
    congr 1
    omega
  have hX2 : ∀ k, k < S2.length → (P ++ S1 ++ S2 ++ Q)[P.length + S1.length + k]? = S2[k]? := fun k hk => by
    rw [show P ++ S1 ++ S2 ++ Q = (P ++ S1) ++ (S2 ++ Q) by simp, List.getElem?_append_right (by rw [h1]; omega), List.getElem?_append_left (by rw [h1]; omega)]
    congr 1
    rw [h1]
    omega
  generalize hX : P ++ S1 ++ S2 ++ Q = X at *
  generalize hL : X.length = NN at *
  generalize hb : (P ++ S1 ++ S2).length = b at *
  generalize hm : (P ++ S1).length = m at *
  generalize ha : P.length = a at *
  generalize hU : S1.length = u at *
  generalize hV : S2.length = v at *
  obtain ⟨mid, hmd⟩ : ∃ mid, mid = (a + b) / 2 := ⟨_, rfl⟩
  obtain ⟨nn, hnn⟩ : ∃ nn, nn = mid + m := ⟨_, rfl⟩
  obtain ⟨pp, hpp⟩ : ∃ pp, pp = nn - 1 := ⟨_, rfl⟩
  have e1 : (m : Int) - (a : Int) = (u : Int) := by omega
  have e2 : (b : Int) - (m : Int) = (v : Int) := by omega
  have e3 : ((u : Int) == 1) = false := beq_eq_false_iff_ne.2 (by omega)
  have e4 : ((v : Int) == 1) = false := beq_eq_false_iff_ne.2 (by omega)
  have e5 : ((a : Int) + (b : Int)) / 2 = (mid : Int) := by omega
  have e6 : (mid : Int) + (m : Int) = (nn : Int) := by omega
  have e7 : (nn : Int) - 1 = (pp : Int) := by omega
  have d1 : (a : Int) ≤ 1000000 := by omega
  have d3 : (m : Int) ≤ 1000000 := by omega
  have d4 : (NN : Int) ≤ 1000000 := by omega
  have d7 : (b : Int) ≤ 1000000 := by omega
  have d8 : (mid : Int) ≤ 1000000 := by omega
  have d9 : (nn : Int) ≤ 2000000 := by omega
  have d10 : (u : Int) ≤ 1000000 := by omega
  have d11 : (v : Int) ≤ 1000000 := by omega
  have HN := Lib.hid hN
  have HA := Lib.hid (And.intro h1 (And.intro h2 (And.intro h3 (And.intro ha (And.intro hL (And.intro hU (And.intro hV (And.intro hmd (And.intro hnn (And.intro hpp (And.intro hu (And.intro hv hM))))))))))))
  have HX := Lib.hid (And.intro hX (And.intro hX1 hX2))
  have HP := Lib.hid (And.intro hst (And.intro hs1 (And.intro hs2 h)))
  have HC := Lib.hid hC
  have HIH := Lib.hid IH
  have HRR := Lib.hid hR
  clear h hst hN hX hL hb hm ha h1 h2 h3 hX1 hX2 hs1 hs2 hC hU hV hmd hnn hpp hu hv hM IH hR
  have hbI : ¬ ((mid : Int) < (m : Int)) := by omega
  have HB := Lib.hid (show a ≤ a ∧ a ≤ m ∧ m ≤ m ∧ (∀ s, a < s → s ≤ m → a < s ∧ m ≤ nn - s ∧ nn - s < b) ∧ (∀ s, a ≤ s → s < m → a ≤ s ∧ s < m ∧ m ≤ pp - s ∧ pp - s < b) ∧ (a = a ∨ nn - a = b) ∧ (m = m ∨ nn - m = m) ∧ m ≤ nn - m ∧ nn - a ≤ b from by
    have := HA.out
    refine ⟨by omega, by omega, by omega, fun s h4 h5 => by omega, fun s h4 h5 => by omega, .inl rfl, .inl rfl, by omega, by omega⟩)
  clear hbig
  go_enter Try.func72, Try.ntmps72
  go_wp2_with fail
  go_loopg [20, 21] (m - a) (fun mm s20 s21 wx => ∃ (s r : Nat), r - s = mm ∧ s20 = .int .i64 s ∧ s21 = .int .i64 r ∧ Aside (a ≤ s ∧ s ≤ r ∧ r ≤ m ∧ Srt lo g w3 X wx ∧ (a < s → la lev X (s - 1) ≤ la lev X (pp - (s - 1))) ∧ (r < m → la lev X (pp - r) < la lev X r)))
  case atStart => exact ⟨a, m, rfl, rfl, rfl, Nat.le_refl _, HB.out.2.1, Nat.le_refl _, HP.out.2.2.2, fun h => by omega, fun h => by omega⟩
  case round =>
    obtain ⟨s, r, hsr, rfl, rfl, HS⟩ := hrel
    generalize gk = mm at *
    by_cases hlt : s < r
    · have hltI : (s : Int) < (r : Int) := by omega
      obtain ⟨k, hk⟩ : ∃ k, k = (s + r) / 2 := ⟨_, rfl⟩
      have hkb := HB.out.2.2.2.2.1 k (by have := HS.out.1; omega) (by have := HS.out.2.2.1; omega)
      obtain ⟨d, hd⟩ : ∃ d, d = pp - k := ⟨_, rfl⟩
      have hmid : ((s : Int) + (r : Int)) / 2 = (k : Int) := by omega
      have hdk : (pp : Int) - (k : Int) = (d : Int) := by omega
      have hwd := wrap_in (n := (d : Int)) (by omega) (by omega)
      have hs1 : (s : Int) ≤ 1000000 := by omega
      have hr1 : (r : Int) ≤ 1000000 := by have := HS.out.2.2.1; have := HB.out.2.2.1; omega
      have hkN : (k : Int) < (NN : Int) := by have := HA.out; omega
      have hk0 : (0 : Int) ≤ (k : Int) := by omega
      have hkm : (k : Int) ≤ 1000000 := by omega
      have hdN : (d : Int) < (NN : Int) := by have := HA.out; omega
      have hd0 : (0 : Int) ≤ (d : Int) := by omega
      obtain ⟨z, hz⟩ := some_of_lt (show k < X.length by have := HA.out.2.2.2.2.1; omega)
      obtain ⟨y, hy⟩ := some_of_lt (show d < X.length by have := HA.out.2.2.2.2.1; omega)
      have HY := Lib.hid (And.intro hz (And.intro hy (And.intro hd (And.intro hk (And.intro hsr hlt)))))
      have hSs := HS.out.2.2.2.1
      obtain ⟨p0, p1, p2⟩ := hSs.row.node _ _ hy
      obtain ⟨q0, q1, q2⟩ := hSs.row.node _ _ hz
      have hgl : g < wr.heap.size := Nat.lt_of_lt_of_le hSs.lt hSs.near.size
      have HK := Lib.hid fun (W : World) (hW : Below wr.heap.size wr W) => show (W.cell? ⟨g, d * 3, none⟩ = some (.bool y.nr) ∧ W.cell? ⟨g, d * 3 + 1, none⟩ = some (.int .i64 y.nm) ∧ W.cell? ⟨g, d * 3 + 2, none⟩ = some (.int .i64 y.na) ∧ W.cell? ⟨g, k * 3, none⟩ = some (.bool z.nr) ∧ W.cell? ⟨g, k * 3 + 1, none⟩ = some (.int .i64 z.nm) ∧ W.cell? ⟨g, k * 3 + 2, none⟩ = some (.int .i64 z.na)) ∧ Hid (Below wr.heap.size wr W) from ⟨⟨(hW.cell (p := ⟨g, d * 3, none⟩) hgl).trans p0, (hW.cell (p := ⟨g, d * 3 + 1, none⟩) hgl).trans p1, (hW.cell (p := ⟨g, d * 3 + 2, none⟩) hgl).trans p2, (hW.cell (p := ⟨g, k * 3, none⟩) hgl).trans q0, (hW.cell (p := ⟨g, k * 3 + 1, none⟩) hgl).trans q1, (hW.cell (p := ⟨g, k * 3 + 2, none⟩) hgl).trans q2⟩, Lib.hid hW⟩
      have HT := Lib.hid fun (W V' : World) (hW : (W.cell? ⟨g, d * 3, none⟩ = some (.bool y.nr) ∧ W.cell? ⟨g, d * 3 + 1, none⟩ = some (.int .i64 y.nm) ∧ W.cell? ⟨g, d * 3 + 2, none⟩ = some (.int .i64 y.na) ∧ W.cell? ⟨g, k * 3, none⟩ = some (.bool z.nr) ∧ W.cell? ⟨g, k * 3 + 1, none⟩ = some (.int .i64 z.nm) ∧ W.cell? ⟨g, k * 3 + 2, none⟩ = some (.int .i64 z.na)) ∧ Hid (Below wr.heap.size wr W)) (hV : Below W.heap.size W V') => HK.out V' (hW.2.out.trans (hV.mono hW.2.out.size))
      have HCM := Lib.hid fun (W : World) (hW : (W.cell? ⟨g, d * 3, none⟩ = some (.bool y.nr) ∧ W.cell? ⟨g, d * 3 + 1, none⟩ = some (.int .i64 y.nm) ∧ W.cell? ⟨g, d * 3 + 2, none⟩ = some (.int .i64 y.na) ∧ W.cell? ⟨g, k * 3, none⟩ = some (.bool z.nr) ∧ W.cell? ⟨g, k * 3 + 1, none⟩ = some (.int .i64 z.nm) ∧ W.cell? ⟨g, k * 3 + 2, none⟩ = some (.int .i64 z.na)) ∧ Hid (Below wr.heap.size wr W)) => HC.out W y z (hSs.call hW.2.out).near (HN.out y (mem_of_some hy)) (HN.out z (mem_of_some hz))
      have eg := enters_of Try.func30 (by kernel_rfl) rfl
      have HSs := Lib.hid hSs
      clear hSs
      clear hz hy hd hk hsr hlt hkb
      by_cases hc : lev y < lev z
      · as_aux_lemma =>
          have HLT := Lib.hid hc
          clear hc
          go_wp2_with fail
          go_region_held3 (fun W => (W.cell? ⟨g, d * 3, none⟩ = some (.bool y.nr) ∧ W.cell? ⟨g, d * 3 + 1, none⟩ = some (.int .i64 y.nm) ∧ W.cell? ⟨g, d * 3 + 2, none⟩ = some (.int .i64 y.na) ∧ W.cell? ⟨g, k * 3, none⟩ = some (.bool z.nr) ∧ W.cell? ⟨g, k * 3 + 1, none⟩ = some (.int .i64 z.nm) ∧ W.cell? ⟨g, k * 3 + 2, none⟩ = some (.int .i64 z.na)) ∧ Hid (Below wr.heap.size wr W)) (first | exact HK.out _ (Below.refl _ _).drew | exact HT.out _ _ (by assumption) (by assumption) | go_keep)
            (first
              | (go_at_call 30; refine (HCM.out _ (by assumption)).mono ?_; rintro e w5 ⟨cc, rfl, hc1, hc2, hb5⟩; have hcc := hc1 HLT.out; subst hcc)
              | fail)
          all_goals
            have HB5 := Lib.hid (HSs.out.call (show (w5.cell? ⟨g, d * 3, none⟩ = some (.bool y.nr) ∧ w5.cell? ⟨g, d * 3 + 1, none⟩ = some (.int .i64 y.nm) ∧ w5.cell? ⟨g, d * 3 + 2, none⟩ = some (.int .i64 y.na) ∧ w5.cell? ⟨g, k * 3, none⟩ = some (.bool z.nr) ∧ w5.cell? ⟨g, k * 3 + 1, none⟩ = some (.int .i64 z.nm) ∧ w5.cell? ⟨g, k * 3 + 2, none⟩ = some (.int .i64 z.na)) ∧ Hid (Below wr.heap.size wr w5) from by assumption).2.out)
            rename_i hrest
            clear hrest p0 p1 p2 q0 q1 q2 hb5 HK HT HCM eg
            go_wp2_with fail
            go_roundg (k - s)
            case measure => have := HY.out.2.2.2.1; have := HY.out.2.2.2.2; omega
            case rel => exact ⟨s, k, rfl, rfl, by first | rfl | simp, HS.out.1, by have := HY.out.2.2.2; omega, by have := HS.out.2.2.1; have := HY.out.2.2.2; omega, HB5.out, HS.out.2.2.2.2.1, fun _ => by rw [← HY.out.2.2.1, la_at HY.out.2.1, la_at HY.out.1]; exact HLT.out⟩
      · as_aux_lemma =>
          have HLT := Lib.hid hc
          clear hc
          go_wp2_with fail
          go_region_held3 (fun W => (W.cell? ⟨g, d * 3, none⟩ = some (.bool y.nr) ∧ W.cell? ⟨g, d * 3 + 1, none⟩ = some (.int .i64 y.nm) ∧ W.cell? ⟨g, d * 3 + 2, none⟩ = some (.int .i64 y.na) ∧ W.cell? ⟨g, k * 3, none⟩ = some (.bool z.nr) ∧ W.cell? ⟨g, k * 3 + 1, none⟩ = some (.int .i64 z.nm) ∧ W.cell? ⟨g, k * 3 + 2, none⟩ = some (.int .i64 z.na)) ∧ Hid (Below wr.heap.size wr W)) (first | exact HK.out _ (Below.refl _ _).drew | exact HT.out _ _ (by assumption) (by assumption) | go_keep)
            (first
              | (go_at_call 30; refine (HCM.out _ (by assumption)).mono ?_; rintro e w5 ⟨cc, rfl, hc1, hc2, hb5⟩; have hcn : ¬ cc < 0 := (by have := hc2 HLT.out; omega); have hcd : decide (cc < 0) = false := decide_eq_false hcn)
              | fail)
          all_goals
            have HB5 := Lib.hid (HSs.out.call (show (w5.cell? ⟨g, d * 3, none⟩ = some (.bool y.nr) ∧ w5.cell? ⟨g, d * 3 + 1, none⟩ = some (.int .i64 y.nm) ∧ w5.cell? ⟨g, d * 3 + 2, none⟩ = some (.int .i64 y.na) ∧ w5.cell? ⟨g, k * 3, none⟩ = some (.bool z.nr) ∧ w5.cell? ⟨g, k * 3 + 1, none⟩ = some (.int .i64 z.nm) ∧ w5.cell? ⟨g, k * 3 + 2, none⟩ = some (.int .i64 z.na)) ∧ Hid (Below wr.heap.size wr w5) from by assumption).2.out)
            rename_i hrest
            clear hrest p0 p1 p2 q0 q1 q2 hb5 HK HT HCM eg
            go_wp2_with fail
            go_roundg (r - (k + 1))
            case measure => have := HY.out.2.2.2.1; have := HY.out.2.2.2.2; omega
            case rel => exact ⟨k + 1, r, rfl, by first | rfl | simp, rfl, by have := HS.out.1; have := HY.out.2.2.2; omega, by have := HY.out.2.2.2; omega, HS.out.2.2.1, HB5.out, fun _ => by rw [Nat.add_sub_cancel, ← HY.out.2.2.1, la_at HY.out.2.1, la_at HY.out.1]; have := HLT.out; omega, HS.out.2.2.2.2.2⟩
    · have hrs : r = s := by have := HS.out.2.1; omega
      subst hrs
      obtain ⟨i, q, en, hi, hen, hq, hmq, hiu, hqv, hiq, hb1', hb2', hm3⟩ := cut_nums (u := u) (v := v) HA.out.1 HA.out.2.1 HA.out.2.2.2.2.2.2.2.1 HA.out.2.2.2.2.2.2.2.2.1 HA.out.2.2.2.2.2.2.2.2.2.1 HA.out.2.2.2.2.2.2.2.2.2.2.1 HA.out.2.2.2.2.2.2.2.2.2.2.2.1 HS.out.1 HS.out.2.2.1 (Nat.le_refl _) (Nat.le_refl _) (.inl rfl) (.inl rfl) HB.out.2.2.2.2.2.2.2.1 HB.out.2.2.2.2.2.2.2.2
      have hUl := HA.out.2.2.2.2.2.1
      have hVl := HA.out.2.2.2.2.2.2.1
      have hb1 : ∀ x y, S1[i]? = some x → 0 < q → S2[q - 1]? = some y → lev y < lev x := fun x y hx h0 hy => by
        have hxl := lt_of_some hx
        have hyl := lt_of_some hy
        rw [hUl] at hxl
        obtain ⟨h8, h9⟩ := hb1' hxl h0
        have h5 := HS.out.2.2.2.2.2 h8
        have h6 := HX.out.2.1 i hxl
        have h7 := HX.out.2.2 (q - 1) (by rw [hVl] at hyl; exact hyl)
        rw [hx] at h6
        rw [hy] at h7
        rw [h9, hi, la_at h6, la_at h7] at h5
        exact h5
      have hb2 : ∀ x y, 0 < i → S1[i - 1]? = some x → S2[q]? = some y → lev x ≤ lev y := fun x y h0 hx hy => by
        have hxl := lt_of_some hx
        have hyl := lt_of_some hy
        rw [hVl] at hyl
        rw [hUl] at hxl
        obtain ⟨h8, h9, h10⟩ := hb2' h0 hyl
        have h5 := HS.out.2.2.2.2.1 h8
        have h6 := HX.out.2.1 (i - 1) hxl
        have h7 := HX.out.2.2 q hyl
        rw [hx] at h6
        rw [hy] at h7
        rw [h9, h10, la_at h6, la_at h7] at h5
        exact h5
      have hc1 := cut_strict HP.out.2.1 HP.out.2.2.1 (by rw [hVl]; exact hqv) hb1
      have hc2 := cut_weak HP.out.2.1 HP.out.2.2.1 (by rw [hUl]; exact hiu) hb2
      have hstX := HP.out.1
      have hSX := HS.out.2.2.2.1
      have hNX := HN.out
      rw [← HX.out.1] at hstX hSX hNX
      have HPa := Lib.hid (sym_parts (c := c) (a := a) (m := m) (b := b) (r := r) (en := en) (mid := mid) (NN := NN) HRR.out HIH.out (by rw [hUl, hVl]; exact HA.out.2.2.2.2.2.2.2.2.2.2.2.2) hSX hNX hstX HP.out.2.1 HP.out.2.2.1 hn HA.out.2.2.2.1 (by rw [hUl]; exact HA.out.1) (by rw [hUl, hVl]; exact HA.out.2.1) (by rw [HX.out.1]; exact HA.out.2.2.2.2.1) hi hq hmq (by rw [hUl]; exact hiu) (by rw [hVl]; exact hqv) (by rw [hUl, hVl]; exact hiq) hc1 hc2)
      have henI : (nn : Int) - (r : Int) = (en : Int) := by have := HS.out.2.2.1; have := HB.out.2.2.2.2.2.2.2.1; have := HB.out.2.2.1; omega
      have hrI : (r : Int) ≤ 1000000 := by have := HS.out.2.2.1; have := HB.out.2.2.1; omega
      have HM3 := Lib.hid hm3
      have hlrr : ¬ ((r : Int) < (r : Int)) := by omega
      clear hi hen hq hmq hiu hqv hiq hb1' hb2' hm3 hUl hVl hb1 hb2 hc1 hc2 hstX hSX hNX hsr hlt HS
      go_upto_region 39 with fail
      go_cut [185] (fun s185 wx => s185 = .bool (decide (r < m ∧ m < en)) ∧ wx = wr)
      case first =>
        as_aux_lemma =>
          by_cases h2 : r < m
          · have i2 : (r : Int) < (m : Int) := by omega
            by_cases h3 : m < en
            · have i3 : (m : Int) < (en : Int) := by omega
              have HD := Lib.hid (show decide (r < m ∧ m < en) = true from decide_eq_true ⟨h2, h3⟩)
              go_wp2_with fail
              go_meet
              exact ⟨by rw [HD.out], rfl⟩
            · have i3 : ¬ ((m : Int) < (en : Int)) := by omega
              have HD := Lib.hid (show decide (r < m ∧ m < en) = false from decide_eq_false (fun h => h3 h.2))
              go_wp2_with fail
              go_meet
              exact ⟨by rw [HD.out], rfl⟩
          · have i2 : ¬ ((r : Int) < (m : Int)) := by omega
            have HD := Lib.hid (show decide (r < m ∧ m < en) = false from decide_eq_false (fun h => h2 h.1))
            go_wp2_with fail
            go_meet
            exact ⟨by rw [HD.out], rfl⟩
      case rest =>
      obtain ⟨rfl, rfl⟩ := hcut
      go_upto_if 185 with fail
      go_cut [] (fun wx => SA lo g w3 P S1 S2 Q i q wx)
      case first =>
        as_aux_lemma =>
          by_cases hr : r < m ∧ m < en
          · have HD := Lib.hid (show decide (r < m ∧ m < en) = true from decide_eq_true hr)
            have HH := Lib.hid hr
            rw [HD.out]
            clear hr
            go_wp2_with (go_at_call 88; refine (HPa.out.rot HH.out.1 HH.out.2).mono ?_; rintro e w5 ⟨rfl, hA⟩)
            go_meet
            exact hA.out
          · have HD := Lib.hid (show decide (r < m ∧ m < en) = false from decide_eq_false hr)
            have HH := Lib.hid (HPa.out.sa (by omega))
            rw [HD.out]
            clear hr
            go_wp2_with fail
            go_meet
            exact HH.out
      case rest =>
      have HA1 := Lib.hid hcut
      clear hcut
      generalize wc = wa at *
      go_upto_region 41 with fail
      go_cut [199] (fun s199 wx => s199 = .bool (decide (a < r ∧ r < mid)) ∧ wx = wa)
      case first =>
        as_aux_lemma =>
          by_cases h2 : a < r
          · have i2 : (a : Int) < (r : Int) := by omega
            by_cases h3 : r < mid
            · have i3 : (r : Int) < (mid : Int) := by omega
              have HD := Lib.hid (show decide (a < r ∧ r < mid) = true from decide_eq_true ⟨h2, h3⟩)
              go_wp2_with fail
              go_meet
              exact ⟨by rw [HD.out], rfl⟩
            · have i3 : ¬ ((r : Int) < (mid : Int)) := by omega
              have HD := Lib.hid (show decide (a < r ∧ r < mid) = false from decide_eq_false (fun h => h3 h.2))
              go_wp2_with fail
              go_meet
              exact ⟨by rw [HD.out], rfl⟩
          · have i2 : ¬ ((a : Int) < (r : Int)) := by omega
            have HD := Lib.hid (show decide (a < r ∧ r < mid) = false from decide_eq_false (fun h => h2 h.1))
            go_wp2_with fail
            go_meet
            exact ⟨by rw [HD.out], rfl⟩
      case rest =>
      obtain ⟨rfl, rfl⟩ := hcut
      go_upto_if 199 with fail
      go_cut [] (fun wx => SB lo g w3 lev R P S1 S2 Q i q wx)
      case first =>
        as_aux_lemma =>
          by_cases hr : a < r ∧ r < mid
          · have HD := Lib.hid (show decide (a < r ∧ r < mid) = true from decide_eq_true hr)
            have HH := Lib.hid (show a < r ∧ m < en from ⟨hr.1, HM3.out.1.1 hr.2⟩)
            rw [HD.out]
            clear hr
            go_wp2_with (go_at_call 72; refine (HPa.out.left _ HH.out.1 HH.out.2 HA1.out).mono ?_; rintro e w5 ⟨rfl, hA⟩)
            go_meet
            exact hA.out
          · have HD := Lib.hid (show decide (a < r ∧ r < mid) = false from decide_eq_false hr)
            have HH := Lib.hid (HPa.out.sb _ (by have := HM3.out.1; omega) HA1.out)
            rw [HD.out]
            clear hr
            go_wp2_with fail
            go_meet
            exact HH.out
      case rest =>
      have HB1 := Lib.hid hcut
      clear hcut
      generalize wc = wb at *
      go_upto_region 43 with fail
      go_cut [213] (fun s213 wx => s213 = .bool (decide (mid < en ∧ en < b)) ∧ wx = wb)
      case first =>
        as_aux_lemma =>
          by_cases h2 : mid < en
          · have i2 : (mid : Int) < (en : Int) := by omega
            by_cases h3 : en < b
            · have i3 : (en : Int) < (b : Int) := by omega
              have HD := Lib.hid (show decide (mid < en ∧ en < b) = true from decide_eq_true ⟨h2, h3⟩)
              go_wp2_with fail
              go_meet
              exact ⟨by rw [HD.out], rfl⟩
            · have i3 : ¬ ((en : Int) < (b : Int)) := by omega
              have HD := Lib.hid (show decide (mid < en ∧ en < b) = false from decide_eq_false (fun h => h3 h.2))
              go_wp2_with fail
              go_meet
              exact ⟨by rw [HD.out], rfl⟩
          · have i2 : ¬ ((mid : Int) < (en : Int)) := by omega
            have HD := Lib.hid (show decide (mid < en ∧ en < b) = false from decide_eq_false (fun h => h2 h.1))
            go_wp2_with fail
            go_meet
            exact ⟨by rw [HD.out], rfl⟩
      case rest =>
      obtain ⟨rfl, rfl⟩ := hcut
      by_cases hr : mid < en ∧ en < b
      · as_aux_lemma =>
          have HD := Lib.hid (show decide (mid < en ∧ en < b) = true from decide_eq_true hr)
          have HH := Lib.hid (show r < m ∧ en < b from ⟨HM3.out.2.1 hr.1, hr.2⟩)
          rw [HD.out]
          clear hr
          go_wp2_with (go_at_call 72; refine (HPa.out.right _ HH.out.1 HH.out.2 HB1.out).mono ?_; rintro e w5 ⟨rfl, hA⟩)
          go_end0
          exact ⟨rfl, Lib.hid (by have := hA.out; unfold SC at this; simpa using this)⟩
      · as_aux_lemma =>
          have HD := Lib.hid (show decide (mid < en ∧ en < b) = false from decide_eq_false hr)
          have HH := Lib.hid (HPa.out.sc _ (by have := HM3.out.2; omega) HB1.out)
          rw [HD.out]
          clear hr
          go_wp2_with fail
          go_end0
          exact ⟨rfl, Lib.hid (by have := HH.out; unfold SC at this; simpa using this)⟩
  end Go.Proofs.Ytchnpooijaalnaa

namespace Go.Proofs.Ytchnpooijaalnaa
open Go.ChangeShapes Go.WideShapes Go.RowKit
set_option linter.unusedVariables false
variable {lo g : Nat} {w3 : World} {N : List PNode} {lev : PNode → Int} {R : PNode → PNode → Prop} {xc : Nat}

theorem one_of {l : List PNode} (h : l.length = 1) : ∃ x, l = [x] := by
  match l, h with
  | [x], _ => exact ⟨x, rfl⟩
theorem sym_says (hC : Cmps lo g w3 N lev xc) (hR : ∀ x y, lev x ≠ lev y → R x y) (c : Nat) : ∀ M, SymSays lo g w3 N lev R xc c M := by
  intro M
  induction M with
  | zero => intro P S1 S2 Q w h; omega
  | succ M ih =>
    intro P S1 S2 Q w hM h1 h2 hS hN hst s1 s2 hn
    have l1 := List.length_pos_iff.2 h1
    have l2 := List.length_pos_iff.2 h2
    by_cases e1 : S1.length = 1
    · obtain ⟨x, rfl⟩ := one_of e1
      exact sym_one hC hR P S2 Q x c w hS hN hst s2 hn
    · by_cases e2 : S2.length = 1
      · obtain ⟨y, rfl⟩ := one_of e2
        exact sym_last hC hR P S1 Q y c w hS hN hst s1 e1 hn
      · by_cases hb : (P.length + (P ++ S1 ++ S2).length) / 2 < (P ++ S1).length
        · exact sym_big hC hR ih P S1 S2 Q w hM (by omega) (by omega) hS hN hst s1 s2 hb hn
        · exact sym_small hC hR ih P S1 S2 Q w hM (by omega) (by omega) hS hN hst s1 s2 hb hn

/-- From X to Y the places from a to b come to stand by rising keys, and no other place has turned. -/
structure Seg (lev : PNode → Int) (R : PNode → PNode → Prop) (X Y : List PNode) (a b : Nat) : Prop where
  perm : Y.Perm X
  st : Y.Pairwise R
  out : ∀ i, (i < a ∨ b ≤ i) → la lev Y i = la lev X i
  ord : ∀ i j, a ≤ i → i < j → j < b → la lev Y i ≤ la lev Y j
theorem seg_of {P S S' Q : List PNode} (h : Done lev R P S Q S') : Seg lev R (P ++ S ++ Q) (P ++ S' ++ Q) P.length (P ++ S).length := by
  have hl := h.perm.length_eq
  refine ⟨?_, h.st, fun i hi => ?_, fun i j h1 h2 h3 => ?_⟩
  · exact List.Perm.append_right _ (List.Perm.append_left _ h.perm)
  · unfold la
    have : (P ++ S' ++ Q)[i]? = (P ++ S ++ Q)[i]? := by
      rcases hi with hi | hi
      · rw [List.append_assoc, List.append_assoc, List.getElem?_append_left hi, List.getElem?_append_left hi]
      · rw [List.getElem?_append_right (by simp at hi ⊢; omega), List.getElem?_append_right hi]
        congr 1
        simp
        omega
    rw [this]
  · simp at h3
    obtain ⟨x, hx⟩ := some_of_lt (show i - P.length < S'.length by omega)
    obtain ⟨y, hy⟩ := some_of_lt (show j - P.length < S'.length by omega)
    have e : ∀ k z, P.length ≤ k → S'[k - P.length]? = some z → (P ++ S' ++ Q)[k]? = some z := fun k z hk hz => by
      rw [List.append_assoc, List.getElem?_append_right hk, List.getElem?_append_left (lt_of_some hz)]
      exact hz
    rw [la_at (e i x h1 hx), la_at (e j y (by omega) hy)]
    exact sd_upto h.sd hx hy (by omega)
/-- A row parted at two places. -/
theorem parted (X : List PNode) {a b : Nat} (h1 : a ≤ b) (h2 : b ≤ X.length) : X = X.take a ++ (X.drop a).take (b - a) ++ X.drop b ∧ (X.take a).length = a ∧ (X.take a ++ (X.drop a).take (b - a)).length = b := by
  have e : (X.drop a).drop (b - a) = X.drop b := by rw [List.drop_drop]; congr 1; omega
  refine ⟨?_, by rw [List.length_take]; omega, by rw [List.length_append, List.length_take, List.length_take, List.length_drop]; omega⟩
  rw [← e, List.append_assoc, List.take_append_drop, List.take_append_drop]
theorem sd_range {X : List PNode} {a b : Nat} (h : ∀ i j, a ≤ i → i < j → j < b → la lev X i ≤ la lev X j) (hb : b ≤ X.length) : Sd lev ((X.drop a).take (b - a)) := by
  unfold Sd
  rw [List.pairwise_iff_getElem]
  intro i j hi hj hij
  simp only [List.length_take, List.length_drop] at hi hj
  have h1 := h (a + i) (a + j) (by omega) (by omega) (by omega)
  rw [la_at (List.getElem?_eq_getElem (show a + i < X.length by omega)), la_at (List.getElem?_eq_getElem (show a + j < X.length by omega))] at h1
  simpa using h1
theorem insert_seg (hC : Cmps lo g w3 N lev xc) (hR : ∀ x y, lev x ≠ lev y → R x y) (X : List PNode) (a b c : Nat) (w : World) (h : Srt lo g w3 X w) (hN : ∀ x ∈ X, x ∈ N) (hst : X.Pairwise R) (h1 : a ≤ b) (h2 : b ≤ X.length) (hn : X.length ≤ 1000000) :
    Calls Try.prog 71 #[.slice (some ⟨g, 0, none⟩) X.length c, .int .i64 (a : Nat), .int .i64 (b : Nat), .func (.func 30) #[] #[.pointer (some ⟨xc, 0, none⟩)]] w fun e w' => e = .returned (.tuple #[]) ∧ Hid (∃ Y, Seg lev R X Y a b ∧ Srt lo g w3 Y w') := by
  obtain ⟨e, e1, e2⟩ := parted X h1 h2
  have := insert_any hC hR (X.take a) ((X.drop a).take (b - a)) (X.drop b) c w (by rw [← e]; exact h) (fun x hx => hN x (List.mem_of_mem_drop (List.mem_of_mem_take hx))) (by rw [← e]; exact hst) (by rw [← e]; exact hn)
  rw [← e, e1, e2] at this
  refine Calls.mono this ?_
  rintro er w' ⟨rfl, hD⟩
  obtain ⟨S', hD, hS⟩ := hD.out
  have hs := seg_of hD
  rw [← e, e1, e2] at hs
  exact ⟨rfl, Lib.hid ⟨_, hs, hS⟩⟩
theorem sym_seg (hC : Cmps lo g w3 N lev xc) (hR : ∀ x y, lev x ≠ lev y → R x y) (X : List PNode) (a m b c : Nat) (w : World) (h : Srt lo g w3 X w) (hN : ∀ x ∈ X, x ∈ N) (hst : X.Pairwise R) (h1 : a < m) (h2 : m < b) (h3 : b ≤ X.length) (hn : X.length ≤ 1000000) (o1 : ∀ i j, a ≤ i → i < j → j < m → la lev X i ≤ la lev X j) (o2 : ∀ i j, m ≤ i → i < j → j < b → la lev X i ≤ la lev X j) :
    Calls Try.prog 72 #[.slice (some ⟨g, 0, none⟩) X.length c, .int .i64 (a : Nat), .int .i64 (m : Nat), .int .i64 (b : Nat), .func (.func 30) #[] #[.pointer (some ⟨xc, 0, none⟩)]] w fun e w' => e = .returned (.tuple #[]) ∧ Hid (∃ Y, Seg lev R X Y a b ∧ Srt lo g w3 Y w') := by
  obtain ⟨e, e1, e2⟩ := parted X (a := a) (b := b) (by omega) h3
  have hd : (X.drop a).take (b - a) = (X.drop a).take (m - a) ++ (X.drop m).take (b - m) := by
    rw [show X.drop m = (X.drop a).drop (m - a) by rw [List.drop_drop]; congr 1; omega]
    rw [← List.take_append_drop (m - a) ((X.drop a).take (b - a)), List.take_take, List.drop_take]
    congr 2
    · omega
    · omega
  have s1 := sd_range o1 (by omega)
  have s2 := sd_range o2 h3
  have l1 : ((X.drop a).take (m - a)).length = m - a := by rw [List.length_take, List.length_drop]; omega
  have l2 : ((X.drop m).take (b - m)).length = b - m := by rw [List.length_take, List.length_drop]; omega
  have e' : X = X.take a ++ (X.drop a).take (m - a) ++ (X.drop m).take (b - m) ++ X.drop b := by
    rw [List.append_assoc (X.take a), ← hd]; exact e
  have e3 : (X.take a ++ (X.drop a).take (m - a)).length = m := by rw [List.length_append, e1, l1]; omega
  have e4 : (X.take a ++ (X.drop a).take (m - a) ++ (X.drop m).take (b - m)).length = b := by rw [List.length_append, e3, l2]; omega
  have := sym_says hC hR c _ (X.take a) ((X.drop a).take (m - a)) ((X.drop m).take (b - m)) (X.drop b) w (Nat.lt_succ_self _) (List.length_pos_iff.1 (by rw [l1]; omega)) (List.length_pos_iff.1 (by rw [l2]; omega)) (by rw [← e']; exact h) (by rw [← e']; exact hN) (by rw [← e']; exact hst) s1 s2 (by rw [← e']; exact hn)
  rw [← e', e1, e3, e4] at this
  refine Calls.mono this ?_
  rintro er w' ⟨rfl, hD⟩
  obtain ⟨S', hD, hS⟩ := hD.out
  have hs := seg_of hD
  rw [← List.append_assoc, ← e', e1, e4] at hs
  exact ⟨rfl, Lib.hid ⟨_, hs, hS⟩⟩
end Go.Proofs.Ytchnpooijaalnaa

namespace Go.Proofs.Ytchnpooijaalnaa
open Go.ChangeShapes Go.WideShapes Go.RowKit
set_option linter.unusedVariables false
variable {lo g : Nat} {w3 : World} {N : List PNode} {lev : PNode → Int} {R : PNode → PNode → Prop} {xc : Nat}

/-- Below hi, each block of s places stands by rising keys. -/
def Blk (lev : PNode → Int) (X : List PNode) (s hi : Nat) : Prop := ∀ t i j, s * t ≤ i → i < j → j < s * (t + 1) → j < hi → la lev X i ≤ la lev X j
theorem blk_next {X Y : List PNode} {s T a b hi : Nat} (h : Blk lev X s a) (ha : a = s * T) (hb : b ≤ a + s) (hS : Seg lev R X Y a b) (hh : hi ≤ b) : Blk lev Y s hi := fun t i j h1 h2 h3 h4 => by
  rcases Nat.lt_or_ge t T with ht | ht
  · have h5 : s * (t + 1) ≤ s * T := Nat.mul_le_mul_left s ht
    rw [hS.out i (.inl (by omega)), hS.out j (.inl (by omega))]
    exact h t i j h1 h2 h3 (by omega)
  · have h5 : s * T ≤ s * t := Nat.mul_le_mul_left s ht
    exact hS.ord i j (by omega) h2 (by omega)
/-- The other blocks stay as they were, those within the range come to stand in order. -/
theorem blk_keep {X Y : List PNode} {s A B a b hi : Nat} (h : Blk lev X s hi) (ha : a = s * A) (hb : b = s * B ∨ hi ≤ b) (hS : Seg lev R X Y a b) : Blk lev Y s hi := fun t i j h1 h2 h3 h4 => by
  rcases Nat.lt_or_ge t A with ht | ht
  · have h5 : s * (t + 1) ≤ s * A := Nat.mul_le_mul_left s ht
    rw [hS.out i (.inl (by omega)), hS.out j (.inl (by omega))]
    exact h t i j h1 h2 h3 h4
  · have h5 : s * A ≤ s * t := Nat.mul_le_mul_left s ht
    rcases Nat.lt_or_ge j b with hj | hj
    · exact hS.ord i j (by omega) h2 hj
    · rcases hb with hb | hb
      · rcases Nat.lt_or_ge t B with htb | htb
        · have h6 : s * (t + 1) ≤ s * B := Nat.mul_le_mul_left s htb
          omega
        · have h6 : s * B ≤ s * t := Nat.mul_le_mul_left s htb
          rw [hS.out i (.inr (by omega)), hS.out j (.inr hj)]
          exact h t i j h1 h2 h3 h4
      · omega
theorem blk_same {X : List PNode} {s T a hi : Nat} (h2 : Blk lev X (2 * s) a) (h : Blk lev X s hi) (ha : a = 2 * s * T) (hh : hi ≤ a + s) : Blk lev X (2 * s) hi := fun t i j h3 h4 h5 h6 => by
  rcases Nat.lt_or_ge t T with ht | ht
  · have h7 : 2 * s * (t + 1) ≤ 2 * s * T := Nat.mul_le_mul_left _ ht
    exact h2 t i j h3 h4 h5 (by omega)
  · have h7 : 2 * s * T ≤ 2 * s * t := Nat.mul_le_mul_left _ ht
    have h8 : 2 * s * T = s * (2 * T) := by rw [Nat.mul_comm 2 s, Nat.mul_assoc]
    have h9 : s * (2 * T + 1) = s * (2 * T) + s := by rw [Nat.mul_add, Nat.mul_one]
    exact h (2 * T) i j (by omega) h4 (by omega) h6
/-- What the sort has made of X so far. -/
structure SoFarT (lo g : Nat) (w3 : World) (R : PNode → PNode → Prop) (X Y : List PNode) (W : World) : Prop where
  srt : Srt lo g w3 Y W
  perm : Y.Perm X
  st : Y.Pairwise R
theorem SoFarT.next {X Y Z : List PNode} {W W' : World} {a b : Nat} (h : SoFarT lo g w3 R X Y W) (hS : Seg lev R Y Z a b) (hs : Srt lo g w3 Z W') : SoFarT lo g w3 R X Z W' := ⟨hs, hS.perm.trans h.perm, hS.st⟩

set_option maxRecDepth 100000 in
set_option maxHeartbeats 8000000 in
theorem stable_any (hC : Cmps lo g w3 N lev xc) (hR : ∀ x y, lev x ≠ lev y → R x y) (X : List PNode) (c : Nat) (w : World) (h : Srt lo g w3 X w) (hN : ∀ x ∈ X, x ∈ N) (hst : X.Pairwise R) (hn : X.length ≤ 100000) :
    Calls Try.prog 53 #[.slice (some ⟨g, 0, none⟩) X.length c, .int .i64 (X.length : Nat), .func (.func 30) #[] #[.pointer (some ⟨xc, 0, none⟩)]] w fun e w' => e = .returned (.tuple #[]) ∧ Hid (∃ Y, SoFarT lo g w3 R X Y w' ∧ Sd lev Y) := by
  obtain ⟨n, hnl⟩ : ∃ n, X.length = n := ⟨_, rfl⟩
  have HI := Lib.hid fun (Y : List PNode) (W : World) (a b : Nat) (hY : SoFarT lo g w3 R X Y W) (h1 : a ≤ b) (h2 : b ≤ n) => show Calls Try.prog 71 #[.slice (some ⟨g, 0, none⟩) n c, .int .i64 (a : Nat), .int .i64 (b : Nat), .func (.func 30) #[] #[.pointer (some ⟨xc, 0, none⟩)]] W fun e w' => e = .returned (.tuple #[]) ∧ Hid (∃ Z, Seg lev R Y Z a b ∧ Srt lo g w3 Z w') from by
    have hl : Y.length = n := hY.perm.length_eq.trans hnl
    have := insert_seg hC hR Y a b c W hY.srt (fun x hx => hN x (hY.perm.subset hx)) hY.st h1 (by omega) (by omega)
    rw [hl] at this
    exact this
  have HM := Lib.hid fun (Y : List PNode) (W : World) (a m b : Nat) (hY : SoFarT lo g w3 R X Y W) (h1 : a < m) (h2 : m < b) (h3 : b ≤ n) (o1 : ∀ i j, a ≤ i → i < j → j < m → la lev Y i ≤ la lev Y j) (o2 : ∀ i j, m ≤ i → i < j → j < b → la lev Y i ≤ la lev Y j) => show Calls Try.prog 72 #[.slice (some ⟨g, 0, none⟩) n c, .int .i64 (a : Nat), .int .i64 (m : Nat), .int .i64 (b : Nat), .func (.func 30) #[] #[.pointer (some ⟨xc, 0, none⟩)]] W fun e w' => e = .returned (.tuple #[]) ∧ Hid (∃ Z, Seg lev R Y Z a b ∧ Srt lo g w3 Z w') from by
    have hl : Y.length = n := hY.perm.length_eq.trans hnl
    have := sym_seg hC hR Y a m b c W hY.srt (fun x hx => hN x (hY.perm.subset hx)) hY.st h1 h2 (by omega) (by omega) o1 o2
    rw [hl] at this
    exact this
  have HS0 := Lib.hid (show SoFarT lo g w3 R X X w from ⟨h, List.Perm.refl _, hst⟩)
  have HL := Lib.hid hnl
  rw [hnl] at hn ⊢
  have hnI : (n : Int) ≤ 100000 := by omega
  clear h hN hst hC hnl
  go_enter Try.func53, Try.ntmps53
  go_wp2_with fail
  go_loopg [7, 8] n (fun mm s7 s8 wx => ∃ (a b T : Nat) (Y : List PNode), mm = n - a ∧ s7 = .int .i64 a ∧ s8 = .int .i64 b ∧ Aside (b = a + 20 ∧ a = 20 * T ∧ a ≤ n ∧ SoFarT lo g w3 R X Y wx ∧ Blk lev Y 20 a))
  case atStart => exact ⟨0, 20, 0, X, by omega, rfl, rfl, rfl, rfl, by omega, HS0.out, fun t i j h1 h2 h3 h4 => by omega⟩
  case round =>
    clear HS0
    obtain ⟨a, b, T, Y, hm, rfl, rfl, HS⟩ := hrel
    generalize gk = mm at *
    by_cases hlt : b ≤ n
    · have hltI : (b : Int) ≤ (n : Int) := by omega
      have HC := Lib.hid (HI.out Y wr a b HS.out.2.2.2.1 (by have := HS.out.1; omega) hlt)
      have HM2 := Lib.hid (And.intro hm hlt)
      clear hm hlt
      go_wp2_with (go_at_call 71; refine HC.out.mono ?_; rintro e w5 ⟨rfl, hD⟩)
      obtain ⟨Z, hZ, hs⟩ := hD.out
      have HQ := Lib.hid (And.intro (HS.out.2.2.2.1.next hZ hs) (blk_next (hi := b) HS.out.2.2.2.2 HS.out.2.1 (by have := HS.out.1; omega) hZ (Nat.le_refl _)))
      clear hZ hs hD
      go_roundg (n - b)
      case measure => have := HS.out.1; have := HM2.out; omega
      case rel => exact ⟨b, b + 20, T + 1, Z, rfl, rfl, by first | rfl | simp, rfl, by have := HS.out; omega, HM2.out.2, HQ.out.1, HQ.out.2⟩
    · have hltn : ¬ ((b : Int) ≤ (n : Int)) := by omega
      have HC := Lib.hid (HI.out Y wr a n HS.out.2.2.2.1 HS.out.2.2.1 (Nat.le_refl _))
      have HM2 := Lib.hid (And.intro hm hlt)
      clear hm hlt
      go_wp2_with (go_at_call 71; refine HC.out.mono ?_; rintro e w5 ⟨rfl, hD⟩)
      obtain ⟨Z, hZ, hs⟩ := hD.out
      have HQ := Lib.hid (And.intro (HS.out.2.2.2.1.next hZ hs) (blk_next (hi := n) HS.out.2.2.2.2 HS.out.2.1 (by have := HS.out.1; have := HM2.out.2; omega) hZ (Nat.le_refl _)))
      clear hZ hs hD HS
      go_loopg [6] (n - 20) (fun mm s6 wx => ∃ (s : Nat) (Y : List PNode), mm = n - s ∧ s6 = .int .i64 s ∧ Aside (0 < s ∧ s ≤ 200020 ∧ SoFarT lo g w3 R X Y wx ∧ Blk lev Y s n))
      case atStart => exact ⟨20, Z, by omega, rfl, by omega, by omega, HQ.out⟩
      case round =>
        clear HQ
        obtain ⟨s, Y, hms, rfl, HS⟩ := hrel
        generalize gk = mm2 at *
        by_cases hsn : s < n
        · have hsI : (s : Int) < (n : Int) := by omega
          have hsm : (s : Int) ≤ 100000 := by omega
          have HK := Lib.hid (And.intro hms (And.intro hsn HS.out.1))
          obtain ⟨d, hd⟩ : ∃ d, d = 2 * s := ⟨_, rfl⟩
          have hdI : (2 : Int) * (s : Int) = (d : Int) := by omega
          have hdI2 : (s : Int) * 2 = (d : Int) := by omega
          have HD := Lib.hid hd
          have HW := Lib.hid HS.out.2.2
          clear hms hsn HS hd
          go_wp2_with fail
          go_loopg [7, 8] n (fun mm s7 s8 wx => ∃ (a b T : Nat) (Y : List PNode), mm = n - a ∧ s7 = .int .i64 a ∧ s8 = .int .i64 b ∧ Aside (b = a + d ∧ a = 2 * s * T ∧ a ≤ n ∧ SoFarT lo g w3 R X Y wx ∧ Blk lev Y (2 * s) a ∧ Blk lev Y s n))
          case atStart => exact ⟨0, d, 0, Y, by omega, rfl, by first | rfl | simp, by omega, rfl, by omega, HW.out.1, fun t i j h1 h2 h3 h4 => by omega, HW.out.2⟩
          case round =>
            clear HW
            obtain ⟨a, b, T, Y, hm, rfl, rfl, HS⟩ := hrel
            generalize gk = m3 at *
            obtain ⟨m, hmm⟩ : ∃ m, m = a + s := ⟨_, rfl⟩
            have hmI : (a : Int) + (s : Int) = (m : Int) := by omega
            have haI : (a : Int) ≤ 100000 := by have := HS.out.2.2.1; omega
            have hd2 := HD.out
            have ho1 : ∀ i j, a ≤ i → i < j → j < m → j < n → la lev Y i ≤ la lev Y j := fun i j h1 h2 h3 h4 => by
              have h8 : 2 * s * T = s * (2 * T) := by rw [Nat.mul_comm 2 s, Nat.mul_assoc]
              have h9 : s * (2 * T + 1) = s * (2 * T) + s := by rw [Nat.mul_add, Nat.mul_one]
              have h10 := HS.out.2.1
              exact HS.out.2.2.2.2.2 (2 * T) i j (by omega) h2 (by omega) h4
            have ho2 : ∀ i j, m ≤ i → i < j → j < b → j < n → la lev Y i ≤ la lev Y j := fun i j h1 h2 h3 h4 => by
              have h8 : 2 * s * T = s * (2 * T) := by rw [Nat.mul_comm 2 s, Nat.mul_assoc]
              have h9 : s * (2 * T + 1) = s * (2 * T) + s := by rw [Nat.mul_add, Nat.mul_one]
              have h11 : s * (2 * T + 1 + 1) = s * (2 * T + 1) + s := by rw [Nat.mul_add s (2 * T + 1) 1, Nat.mul_one]
              have h10 := HS.out.2.1
              have h12 := HS.out.1
              exact HS.out.2.2.2.2.2 (2 * T + 1) i j (by omega) h2 (by omega) h4
            by_cases hlt : b ≤ n
            · have hltI : (b : Int) ≤ (n : Int) := by omega
              have HC := Lib.hid (HM.out Y wr a m b HS.out.2.2.2.1 (by have := HK.out.2.2; omega) (by have := HK.out.2.2; have := HS.out.1; omega) hlt (fun i j h1 h2 h3 => ho1 i j h1 h2 h3 (by have := HS.out.1; omega)) (fun i j h1 h2 h3 => ho2 i j h1 h2 h3 (by omega)))
              have HM2 := Lib.hid (And.intro hm (And.intro hlt hd2))
              clear hm hlt hmm ho1 ho2 hd2
              go_wp2_with (go_at_call 72; refine HC.out.mono ?_; rintro e w5 ⟨rfl, hD⟩)
              obtain ⟨Z, hZ, hs⟩ := hD.out
              have hb2 : b = s * (2 * T + 2) := by
                have h8 : 2 * s * T = s * (2 * T) := by rw [Nat.mul_comm 2 s, Nat.mul_assoc]
                have h9 : s * (2 * T + 2) = s * (2 * T) + s * 2 := Nat.mul_add _ _ _
                have := HS.out.1
                have := HS.out.2.1
                have := HM2.out.2.2
                omega
              have ha2 : a = s * (2 * T) := by rw [HS.out.2.1, Nat.mul_comm 2 s, Nat.mul_assoc]
              have HQ := Lib.hid (And.intro (HS.out.2.2.2.1.next hZ hs) (And.intro (blk_next (hi := b) HS.out.2.2.2.2.1 HS.out.2.1 (by have := HS.out.1; have := HM2.out.2.2; omega) hZ (Nat.le_refl _)) (blk_keep HS.out.2.2.2.2.2 ha2 (.inl hb2) hZ)))
              clear hZ hs hD hb2 ha2
              go_roundg (n - b)
              case measure => have := HS.out.1; have := HM2.out; have := HK.out.2.2; omega
              case rel => exact ⟨b, b + d, T + 1, Z, rfl, rfl, by first | rfl | simp, rfl, by have := HS.out.1; have := HS.out.2.1; have := HM2.out.2.2; rw [Nat.mul_add (2 * s) T 1, Nat.mul_one]; omega, HM2.out.2.1, HQ.out.1, HQ.out.2.1, HQ.out.2.2⟩
            · have hltn : ¬ ((b : Int) ≤ (n : Int)) := by omega
              by_cases hmn : m < n
              · have hmnI : (m : Int) < (n : Int) := by omega
                have HC := Lib.hid (HM.out Y wr a m n HS.out.2.2.2.1 (by have := HK.out.2.2; omega) hmn (Nat.le_refl _) (fun i j h1 h2 h3 => ho1 i j h1 h2 h3 (by omega)) (fun i j h1 h2 h3 => ho2 i j h1 h2 (by omega) h3))
                have HM2 := Lib.hid (And.intro hm (And.intro hlt hd2))
                clear hm hlt hmm ho1 ho2 hd2 hmn
                go_wp2_with (go_at_call 72; refine HC.out.mono ?_; rintro e w5 ⟨rfl, hD⟩)
                obtain ⟨Z, hZ, hs⟩ := hD.out
                have HQ := Lib.hid (And.intro (HS.out.2.2.2.1.next hZ hs) (blk_next (hi := n) HS.out.2.2.2.2.1 HS.out.2.1 (by have := HS.out.1; have := HM2.out.2; omega) hZ (Nat.le_refl _)))
                clear hZ hs hD
                go_roundg (n - d)
                case measure => have := HK.out; have := HM2.out.2.2; omega
                case rel => exact ⟨d, Z, rfl, by first | rfl | simp, by have := HM2.out.2.2; have := HK.out; omega, by have := HM2.out.2.2; have := HK.out; omega, HQ.out.1, by have := HQ.out.2; rw [← HD.out] at this; exact this⟩
              · have hmnI : ¬ ((m : Int) < (n : Int)) := by omega
                have HQ := Lib.hid (And.intro HS.out.2.2.2.1 (blk_same HS.out.2.2.2.2.1 HS.out.2.2.2.2.2 HS.out.2.1 (by omega)))
                have HM2 := Lib.hid (And.intro hm (And.intro hlt hd2))
                clear hm hlt hmm ho1 ho2 hd2 hmn HS
                go_wp2_with fail
                go_roundg (n - d)
                case measure => have := HK.out; have := HM2.out.2.2; omega
                case rel => exact ⟨d, Y, rfl, by first | rfl | simp, by have := HM2.out.2.2; have := HK.out; omega, by have := HM2.out.2.2; have := HK.out; omega, HQ.out.1, by have := HQ.out.2; rw [← HD.out] at this; exact this⟩
        · have hsI : ¬ ((s : Int) < (n : Int)) := by omega
          have hl : Y.length = n := HS.out.2.2.1.perm.length_eq.trans HL.out
          have HE := Lib.hid (show Sd lev Y from by
            have h1 : ∀ i j, 0 ≤ i → i < j → j < n → la lev Y i ≤ la lev Y j := fun i j _ h2 h3 => HS.out.2.2.2 0 i j (by omega) h2 (by omega) h3
            have := sd_range h1 (by omega)
            rw [List.drop_zero, Nat.sub_zero, List.take_of_length_le (by omega)] at this
            exact this)
          have HS2 := Lib.hid HS.out.2.2.1
          clear hl hms hsn HS
          go_wp2_with fail
          go_end0
          exact ⟨rfl, Lib.hid ⟨Y, HS2.out, HE.out⟩⟩
theorem sortStable_any (hC : Cmps lo g w3 N lev xc) (hR : ∀ x y, lev x ≠ lev y → R x y) (X : List PNode) (c : Nat) (w : World) (h : Srt lo g w3 X w) (hN : ∀ x ∈ X, x ∈ N) (hst : X.Pairwise R) (hn : X.length ≤ 100000) :
    Calls Try.prog 29 #[.slice (some ⟨g, 0, none⟩) X.length c, .func (.func 30) #[] #[.pointer (some ⟨xc, 0, none⟩)]] w fun e w' => e = .returned (.tuple #[]) ∧ Hid (∃ Y, SoFarT lo g w3 R X Y w' ∧ Sd lev Y) := by
  have HC := Lib.hid (stable_any hC hR X c w h hN hst hn)
  clear h hN hst hC
  go_enter Try.func29, Try.ntmps29
  go_wp2_with (go_at_call 53; refine HC.out.mono ?_; rintro e w5 ⟨rfl, hD⟩)
  go_end0
  exact ⟨rfl, hD⟩
end Go.Proofs.Ytchnpooijaalnaa

namespace Go.Proofs.Ytchnpooijaalnaa
open Go.ChangeShapes Go.WideShapes Go.RowKit
set_option linter.unusedVariables false

/-- x has its place in D before y. -/
def Ahead (D : List PNode) (x y : PNode) : Prop := ∃ i j : Nat, i < j ∧ D[i]? = some x ∧ D[j]? = some y
theorem Ahead.asym {D : List PNode} (hn : D.Nodup) {x y : PNode} (h : Ahead D x y) : ¬ Ahead D y x := fun h2 => by
  obtain ⟨i, j, hij, hi, hj⟩ := h
  obtain ⟨k, l, hkl, hk, hl⟩ := h2
  have e1 : i = l := (List.getElem?_inj (lt_of_some hi) hn).1 (hi.trans hl.symm)
  have e2 : j = k := (List.getElem?_inj (lt_of_some hj) hn).1 (hj.trans hk.symm)
  omega
theorem ahead_all (D : List PNode) : D.Pairwise (Ahead D) := by
  rw [List.pairwise_iff_getElem]
  intro i j hi hj hij
  exact ⟨i, j, hij, List.getElem?_eq_getElem hi, List.getElem?_eq_getElem hj⟩
theorem nodup_of_vars : ∀ {D : List PNode}, (∀ x ∈ D, x.nv ≠ []) → (D.flatMap PNode.nv).Nodup → D.Nodup
  | [], _, _ => List.nodup_nil
  | x :: D, h1, h2 => by
    rw [List.flatMap_cons, List.nodup_append] at h2
    rw [List.nodup_cons]
    refine ⟨fun hx => ?_, nodup_of_vars (fun y hy => h1 y (by simp [hy])) h2.2.1⟩
    obtain ⟨v, hv⟩ := List.exists_mem_of_ne_nil _ (h1 x (by simp))
    exact h2.2.2 v hv v (List.mem_flatMap.2 ⟨x, hx, hv⟩) rfl
theorem Good6.nodup {V : Nat} {D : List PNode} (h : Good6 V D) : D.Nodup := nodup_of_vars h.some h.once
/-- Two lists of the same members, both in the order r, are one. -/
theorem strict_eq {r : PNode → PNode → Prop} (ha : ∀ x y, r x y → ¬ r y x) : ∀ {l m : List PNode}, l.Pairwise r → m.Pairwise r → (∀ x, x ∈ l ↔ x ∈ m) → l = m
  | [], [], _, _, _ => rfl
  | [], b :: m, _, _, h => by have := (h b).2 (by simp); simp at this
  | a :: l, [], _, _, h => by have := (h a).1 (by simp); simp at this
  | a :: l, b :: m, h1, h2, h => by
    rw [List.pairwise_cons] at h1 h2
    have e : a = b := by
      rcases List.mem_cons.1 ((h a).1 (by simp)) with e | e
      · exact e
      · rcases List.mem_cons.1 ((h b).2 (by simp)) with e2 | e2
        · exact e2.symm
        · exact absurd (h2.1 a e) (ha _ _ (h1.1 b e2))
    subst e
    congr 1
    refine strict_eq ha h1.2 h2.2 fun x => ?_
    constructor
    · intro hx
      rcases List.mem_cons.1 ((h x).1 (by simp [hx])) with e | e
      · subst e
        exact absurd (h1.1 x hx) (fun q => ha _ _ q q)
      · exact e
    · intro hx
      rcases List.mem_cons.1 ((h x).2 (by simp [hx])) with e | e
      · subst e
        exact absurd (h2.1 x hx) (fun q => ha _ _ q q)
      · exact e
/-- By levels, and by places within a level. -/
def Lower (D : List PNode) (L : List Int) (x y : PNode) : Prop := levOf L x < levOf L y ∨ (levOf L x = levOf L y ∧ Ahead D x y)
theorem orderTo_lower (D : List PNode) (L : List Int) : ∀ k, (orderTo D L k).Pairwise (Lower D L)
  | 0 => by simp [orderTo]
  | k + 1 => by
    have hl : ∀ x, x ∈ D.filter (atLevel L ((k : Int) + 1)) → levOf L x = (k : Int) + 1 := fun x hx => of_decide_eq_true (List.mem_filter.1 hx).2
    rw [orderTo_succ, List.pairwise_append]
    refine ⟨orderTo_lower D L k, ?_, fun x hx y hy => .inl ?_⟩
    · refine List.Pairwise.imp_of_mem (fun {a b} h1 h2 h3 => ?_) ((ahead_all D).filter (atLevel L ((k : Int) + 1)))
      exact .inr ⟨(hl a h1).trans (hl b h2).symm, h3⟩
    · have h1 := (mem_orderTo.1 hx).2.2
      have h2 := hl y hy
      omega
theorem order_is {V : Nat} {D Y : List PNode} {L : List Int} (hG : Good6 V D) (h : IsLevels V D L) (hp : Y.Perm D) (hsd : Sd (levOf L) Y) (hr : Y.Pairwise fun x y => levOf L x = levOf L y → Ahead D x y) : Y = orderTo D L D.length := by
  have ha : ∀ x y, Lower D L x y → ¬ Lower D L y x := fun x y h1 h2 => by
    rcases h1 with h1 | ⟨h1, h3⟩
    · rcases h2 with h2 | ⟨h2, _⟩ <;> omega
    · rcases h2 with h2 | ⟨h2, h4⟩
      · omega
      · exact h3.asym hG.nodup h4
  refine strict_eq ha ?_ (orderTo_lower D L D.length) fun x => ?_
  · unfold Sd at hsd
    rw [List.pairwise_iff_getElem] at hsd hr ⊢
    intro i j hi hj hij
    have h1 := hsd i j hi hj hij
    by_cases he : levOf L Y[i] = levOf L Y[j]
    · exact .inr ⟨he, hr i j hi hj hij he⟩
    · exact .inl (by omega)
  · rw [mem_orderTo, hp.mem_iff]
    constructor
    · intro hx
      exact ⟨hx, lev_in hG h hx⟩
    · exact fun hx => hx.1
theorem OwnT.tr {B : Nat} {w0 w : World} {p : Value} {D : List PNode} (h : OwnT B w0 w p D) (hne : D ≠ []) : ∃ g c, p = .slice (some ⟨g, 0, none⟩) D.length c ∧ TR w g D ∧ B ≤ g ∧ g < w.heap.size := by
  obtain ⟨A, c1, hv1, hR, _⟩ := h.form
  rcases h.row.2 with ⟨h1, h0⟩ | ⟨g, cap, cur, hv, hb, hg, hnc, hcm, hs, ht⟩
  · exact absurd (List.eq_nil_of_length_eq_zero h0) hne
  · rw [hv] at hv1
    injection hv1 with e1 e2 e3
    obtain ⟨b, o, e4, h3, h4⟩ := hR hne
    rw [e4] at e1
    injection e1 with e1
    injection e1 with e5 e6
    subst e5
    subst e6
    refine ⟨g, cap, hv, ⟨⟨cur, hg, by rw [hs]; exact Nat.mul_le_mul_right 3 hnc⟩, fun j x hj => ?_⟩, hb, lt_of_row hg⟩
    have := h4 j x hj
    rw [Nat.zero_add] at this
    exact this
end Go.Proofs.Ytchnpooijaalnaa

namespace Go.Proofs.Ytchnpooijaalnaa
open Go.ChangeShapes Go.WideShapes Go.RowKit
set_option linter.unusedVariables false

/-- What the comparison reads, as it lies in w3: none of it in block g. -/
structure CmpAt (lo g : Nat) (w3 : World) (B xl xg xc : Nat) (n : PNet) (S : NetS) (Al : Option Addr) (cl : Nat) (L : List Int) (p q : Value) : Prop where
  net : NetAt w3 B S n
  hB : B ≤ g
  glo : g < lo
  rl : w3.heap[xl]? = some (.cells #[.slice Al L.length cl] 22 (0, 0))
  rg : w3.heap[xg]? = some (.cells #[.int .i64 n.vars, .slice S.i n.inputs.length S.ic, .slice S.l n.latches.length S.lc, .slice S.o n.outs.length S.oc, .slice S.b n.bads.length S.bc, .slice S.c n.cons.length S.cc, .slice S.m n.mems.length S.mc, .slice S.a n.ands.length S.ac, p, q] 62 (0, 0))
  rc : w3.heap[xc]? = some (.cells #[.func (.func 27) #[] #[.pointer (some ⟨xl, 0, none⟩), .pointer (some ⟨xg, 0, none⟩)]] 67 (0, 0))
  nl : xl ≠ g ∧ xl < lo
  ng : xg ≠ g ∧ xg < lo
  nc : xc ≠ g ∧ xc < lo
  src : L ≠ [] → ∃ b s, Al = some ⟨b, s, none⟩ ∧ b ≠ g ∧ b < lo ∧ ∀ j x, L[j]? = some x → w3.cell? ⟨b, s + j, none⟩ = some (.int .i64 x)
variable {lo g B xl xg xc : Nat} {w3 : World} {n : PNet} {S : NetS} {Al : Option Addr} {cl : Nat} {L : List Int} {p q : Value}
theorem CmpAt.near {W : World} (h : CmpAt lo g w3 B xl xg xc n S Al cl L p q) (hn : Near lo g w3 W) : CmpAt lo g W B xl xg xc n S Al cl L p q := by
  have hb := h.hB
  have hg := h.glo
  have hk : ∀ b, b < lo → b ≠ g → ∀ i, W.cell? ⟨b, i, none⟩ = w3.cell? ⟨b, i, none⟩ := fun b h1 h2 i => World.cell?_of_block (a := ⟨b, i, none⟩) (hn.block b h1 h2)
  refine ⟨NetAt.kept (fun b o v hb2 hv => (hk b (by omega) (by omega) o).trans hv) h.net, h.hB, h.glo, (hn.block _ h.nl.2 h.nl.1).trans h.rl, (hn.block _ h.ng.2 h.ng.1).trans h.rg, (hn.block _ h.nc.2 h.nc.1).trans h.rc, h.nl, h.ng, h.nc, fun hne => ?_⟩
  obtain ⟨b, s, e, h1, h2, h3⟩ := h.src hne
  exact ⟨b, s, e, h1, h2, fun j x hj => (hk b h2 h1 _).trans (h3 j x hj)⟩

theorem wpAnyH_turn {P : Program} {ops : Array Oper} {Q : Exit → Act → World → Prop} {md : Region.Mode} {S S' : World → Prop} (hSS : ∀ w, S' w → S w) : ∀ (fuel : Nat) (listed : Array Bool) (a : Act) (w : World), wpAnyH P md ops Q S' fuel listed a w → wpAnyH P md ops Q S fuel listed a w
  | 0, _, _, _, h => h
  | fuel + 1, _, _, _, h => ⟨h.1, fun i hi => wpOp_mono (fun _ _ h' => ⟨hSS _ h'.1, wpAnyH_turn hSS fuel _ _ _ h'.2⟩) (h.2 i hi)⟩

set_option maxRecDepth 100000 in
set_option maxHeartbeats 4000000 in
theorem level_any (W : World) (x : PNode) (h : CmpAt lo g W B xl xg xc n S Al cl L p q) (hsz : lo ≤ W.heap.size) (hx : x ∈ n.nodes) (hm : n.modest) (ht : ∀ m ∈ n.mems, m.told) (hF : ∀ m ∈ n.mems, m.Fit) (hne : x.nv ≠ []) (hvs : ∀ v ∈ x.nv, 1 ≤ v ∧ v < (L.length : Int)) :
    Calls Try.prog 27 #[.agg #[.bool x.nr, .int .i64 x.nm, .int .i64 x.na], .pointer (some ⟨xl, 0, none⟩), .pointer (some ⟨xg, 0, none⟩)] W fun e w' => e = .returned (.int .i64 (levOf L x)) ∧ Below W.heap.size W w' := by
  obtain ⟨v, vs, hv⟩ : ∃ v vs, x.nv = v :: vs := by
    cases hh : x.nv with
    | nil => exact absurd hh hne
    | cons v vs => exact ⟨v, vs, rfl⟩
  obtain ⟨hv1, hv2⟩ := hvs v (by rw [hv]; simp)
  have hlo := h.nl.2
  have hgo := h.ng.2
  have hbx := below_box W #[.bool x.nr, .int .i64 x.nm, .int .i64 x.na] 42
  have tb := tBox_new W x 42
  have hN := NetAt.later (h.net.wider (show B ≤ W.heap.size by have := h.hB; have := h.glo; omega)) hbx hbx.size
  obtain ⟨t0, t1, t2⟩ := tb
  have hnl : W.heap.size < (W.alloc (.cells #[.bool x.nr, .int .i64 x.nm, .int .i64 x.na] 42)).heap.size := by simp
  have hrl := (hbx.block _ (show xl < W.heap.size by omega)).trans h.rl
  have hrg := (hbx.block _ (show xg < W.heap.size by omega)).trans h.rg
  obtain ⟨b, s, hAl, hbg, hbl, hsc⟩ := h.src (by rintro rfl; simp at hv2; omega)
  obtain ⟨l, hl⟩ := some_of_lt (show v.toNat < L.length by omega)
  have hlv : levOf L x = l := by unfold levOf; rw [hv]; show L.getD v.toNat 0 = l; rw [List.getD_eq_getElem?_getD, hl]; rfl
  have m0 := (hbx.cell (p := ⟨b, s + v.toNat, none⟩) (show b < W.heap.size by omega)).trans (hsc v.toNat l hl)
  generalize hw1 : W.alloc (.cells #[.bool x.nr, .int .i64 x.nm, .int .i64 x.na] 42) = w1 at *
  subst hAl
  have hsz1 := hbx.size
  have hgl : xg < w1.heap.size := by omega
  have hll : xl < w1.heap.size := by omega
  have hbw : b < w1.heap.size := by omega
  have r0 : w1.cell? ⟨xl, 0, none⟩ = some (.slice (some ⟨b, s, none⟩) L.length cl) := by rw [cell_of_row w1 xl 0 _ _ _ hrl]; rfl
  have e0 : w1.cell? ⟨xg, 0, none⟩ = some (.int .i64 n.vars) := by rw [cell_of_row w1 xg 0 _ _ _ hrg]; rfl
  have e1 : w1.cell? ⟨xg, 1, none⟩ = some (.slice S.i n.inputs.length S.ic) := by rw [cell_of_row w1 xg 1 _ _ _ hrg]; rfl
  have e2 : w1.cell? ⟨xg, 2, none⟩ = some (.slice S.l n.latches.length S.lc) := by rw [cell_of_row w1 xg 2 _ _ _ hrg]; rfl
  have e3 : w1.cell? ⟨xg, 3, none⟩ = some (.slice S.o n.outs.length S.oc) := by rw [cell_of_row w1 xg 3 _ _ _ hrg]; rfl
  have e4 : w1.cell? ⟨xg, 4, none⟩ = some (.slice S.b n.bads.length S.bc) := by rw [cell_of_row w1 xg 4 _ _ _ hrg]; rfl
  have e5 : w1.cell? ⟨xg, 5, none⟩ = some (.slice S.c n.cons.length S.cc) := by rw [cell_of_row w1 xg 5 _ _ _ hrg]; rfl
  have e6 : w1.cell? ⟨xg, 6, none⟩ = some (.slice S.m n.mems.length S.mc) := by rw [cell_of_row w1 xg 6 _ _ _ hrg]; rfl
  have e7 : w1.cell? ⟨xg, 7, none⟩ = some (.slice S.a n.ands.length S.ac) := by rw [cell_of_row w1 xg 7 _ _ _ hrg]; rfl
  have e8 : w1.cell? ⟨xg, 8, none⟩ = some p := by rw [cell_of_row w1 xg 8 _ _ _ hrg]; rfl
  have e9 : w1.cell? ⟨xg, 9, none⟩ = some q := by rw [cell_of_row w1 xg 9 _ _ _ hrg]; rfl
  have HK := Lib.hid fun (V : World) (hW : Below w1.heap.size w1 V) => show ((V.cell? ⟨xl, 0, none⟩ = some (.slice (some ⟨b, s, none⟩) L.length cl) ∧ V.cell? ⟨xg, 0, none⟩ = some (.int .i64 n.vars) ∧ V.cell? ⟨xg, 1, none⟩ = some (.slice S.i n.inputs.length S.ic) ∧ V.cell? ⟨xg, 2, none⟩ = some (.slice S.l n.latches.length S.lc) ∧ V.cell? ⟨xg, 3, none⟩ = some (.slice S.o n.outs.length S.oc) ∧ V.cell? ⟨xg, 4, none⟩ = some (.slice S.b n.bads.length S.bc) ∧ V.cell? ⟨xg, 5, none⟩ = some (.slice S.c n.cons.length S.cc) ∧ V.cell? ⟨xg, 6, none⟩ = some (.slice S.m n.mems.length S.mc) ∧ V.cell? ⟨xg, 7, none⟩ = some (.slice S.a n.ands.length S.ac) ∧ V.cell? ⟨xg, 8, none⟩ = some p ∧ V.cell? ⟨xg, 9, none⟩ = some q ∧ V.cell? ⟨W.heap.size, 0, none⟩ = some (.bool x.nr) ∧ V.cell? ⟨W.heap.size, 1, none⟩ = some (.int .i64 x.nm) ∧ V.cell? ⟨W.heap.size, 2, none⟩ = some (.int .i64 x.na) ∧ V.cell? ⟨b, s + v.toNat, none⟩ = some (.int .i64 l)) ∧ Hid (Below w1.heap.size w1 V)) from
    ⟨⟨(hW.cell (p := ⟨xl, 0, none⟩) hll).trans r0, (hW.cell (p := ⟨xg, 0, none⟩) hgl).trans e0, (hW.cell (p := ⟨xg, 1, none⟩) hgl).trans e1, (hW.cell (p := ⟨xg, 2, none⟩) hgl).trans e2, (hW.cell (p := ⟨xg, 3, none⟩) hgl).trans e3, (hW.cell (p := ⟨xg, 4, none⟩) hgl).trans e4, (hW.cell (p := ⟨xg, 5, none⟩) hgl).trans e5, (hW.cell (p := ⟨xg, 6, none⟩) hgl).trans e6, (hW.cell (p := ⟨xg, 7, none⟩) hgl).trans e7, (hW.cell (p := ⟨xg, 8, none⟩) hgl).trans e8, (hW.cell (p := ⟨xg, 9, none⟩) hgl).trans e9, (hW.cell (p := ⟨W.heap.size, 0, none⟩) hnl).trans t0, (hW.cell (p := ⟨W.heap.size, 1, none⟩) hnl).trans t1, (hW.cell (p := ⟨W.heap.size, 2, none⟩) hnl).trans t2, (hW.cell (p := ⟨b, s + v.toNat, none⟩) hbw).trans m0⟩, Lib.hid hW⟩
  have HV := Lib.hid fun (V : World) (hW : ((V.cell? ⟨xl, 0, none⟩ = some (.slice (some ⟨b, s, none⟩) L.length cl) ∧ V.cell? ⟨xg, 0, none⟩ = some (.int .i64 n.vars) ∧ V.cell? ⟨xg, 1, none⟩ = some (.slice S.i n.inputs.length S.ic) ∧ V.cell? ⟨xg, 2, none⟩ = some (.slice S.l n.latches.length S.lc) ∧ V.cell? ⟨xg, 3, none⟩ = some (.slice S.o n.outs.length S.oc) ∧ V.cell? ⟨xg, 4, none⟩ = some (.slice S.b n.bads.length S.bc) ∧ V.cell? ⟨xg, 5, none⟩ = some (.slice S.c n.cons.length S.cc) ∧ V.cell? ⟨xg, 6, none⟩ = some (.slice S.m n.mems.length S.mc) ∧ V.cell? ⟨xg, 7, none⟩ = some (.slice S.a n.ands.length S.ac) ∧ V.cell? ⟨xg, 8, none⟩ = some p ∧ V.cell? ⟨xg, 9, none⟩ = some q ∧ V.cell? ⟨W.heap.size, 0, none⟩ = some (.bool x.nr) ∧ V.cell? ⟨W.heap.size, 1, none⟩ = some (.int .i64 x.nm) ∧ V.cell? ⟨W.heap.size, 2, none⟩ = some (.int .i64 x.na) ∧ V.cell? ⟨b, s + v.toNat, none⟩ = some (.int .i64 l)) ∧ Hid (Below w1.heap.size w1 V))) => show Calls Try.prog 28 #[.agg #[.int .i64 n.vars, .slice S.i n.inputs.length S.ic, .slice S.l n.latches.length S.lc, .slice S.o n.outs.length S.oc, .slice S.b n.bads.length S.bc, .slice S.c n.cons.length S.cc, .slice S.m n.mems.length S.mc, .slice S.a n.ands.length S.ac, p, q], .agg #[.bool x.nr, .int .i64 x.nm, .int .i64 x.na]] V (HighL V (v :: vs)) from hv ▸ variables_any n S p q V x (NetAt.later hN hW.2.out hW.2.out.size) hx hm ht hF
  have HT := Lib.hid fun (V V' : World) (hW : ((V.cell? ⟨xl, 0, none⟩ = some (.slice (some ⟨b, s, none⟩) L.length cl) ∧ V.cell? ⟨xg, 0, none⟩ = some (.int .i64 n.vars) ∧ V.cell? ⟨xg, 1, none⟩ = some (.slice S.i n.inputs.length S.ic) ∧ V.cell? ⟨xg, 2, none⟩ = some (.slice S.l n.latches.length S.lc) ∧ V.cell? ⟨xg, 3, none⟩ = some (.slice S.o n.outs.length S.oc) ∧ V.cell? ⟨xg, 4, none⟩ = some (.slice S.b n.bads.length S.bc) ∧ V.cell? ⟨xg, 5, none⟩ = some (.slice S.c n.cons.length S.cc) ∧ V.cell? ⟨xg, 6, none⟩ = some (.slice S.m n.mems.length S.mc) ∧ V.cell? ⟨xg, 7, none⟩ = some (.slice S.a n.ands.length S.ac) ∧ V.cell? ⟨xg, 8, none⟩ = some p ∧ V.cell? ⟨xg, 9, none⟩ = some q ∧ V.cell? ⟨W.heap.size, 0, none⟩ = some (.bool x.nr) ∧ V.cell? ⟨W.heap.size, 1, none⟩ = some (.int .i64 x.nm) ∧ V.cell? ⟨W.heap.size, 2, none⟩ = some (.int .i64 x.na) ∧ V.cell? ⟨b, s + v.toNat, none⟩ = some (.int .i64 l)) ∧ Hid (Below w1.heap.size w1 V))) (hV : Below V.heap.size V V') => HK.out V' (below_on hW.2.out hV)
  have HB := Lib.hid (And.intro hbx (And.intro hlv hv))
  have hv0 : 0 ≤ v := by omega
  clear h hx hm ht hF hne hvs hbx hN hrl hrg hsc hl hlv hv
  go_enter Try.func27, Try.ntmps27
  go_wp2_with fail
  clear hw1
  refine wp_region_held_drew (S := fun V => ((V.cell? ⟨xl, 0, none⟩ = some (.slice (some ⟨b, s, none⟩) L.length cl) ∧ V.cell? ⟨xg, 0, none⟩ = some (.int .i64 n.vars) ∧ V.cell? ⟨xg, 1, none⟩ = some (.slice S.i n.inputs.length S.ic) ∧ V.cell? ⟨xg, 2, none⟩ = some (.slice S.l n.latches.length S.lc) ∧ V.cell? ⟨xg, 3, none⟩ = some (.slice S.o n.outs.length S.oc) ∧ V.cell? ⟨xg, 4, none⟩ = some (.slice S.b n.bads.length S.bc) ∧ V.cell? ⟨xg, 5, none⟩ = some (.slice S.c n.cons.length S.cc) ∧ V.cell? ⟨xg, 6, none⟩ = some (.slice S.m n.mems.length S.mc) ∧ V.cell? ⟨xg, 7, none⟩ = some (.slice S.a n.ands.length S.ac) ∧ V.cell? ⟨xg, 8, none⟩ = some p ∧ V.cell? ⟨xg, 9, none⟩ = some q ∧ V.cell? ⟨W.heap.size, 0, none⟩ = some (.bool x.nr) ∧ V.cell? ⟨W.heap.size, 1, none⟩ = some (.int .i64 x.nm) ∧ V.cell? ⟨W.heap.size, 2, none⟩ = some (.int .i64 x.na) ∧ V.cell? ⟨b, s + v.toNat, none⟩ = some (.int .i64 l)) ∧ Hid (Below w1.heap.size w1 V))) (by kernel_rfl) ?_ (fun hHeld => ?_)
  · exact HK.out _ (Below.refl _ _).drew
  refine wpAnyH_take (i := 0) (oi := ⟨_, _, _, _, _, _⟩) (v := ?_) rfl (by kernel_rfl) (by kernel_rfl) (by kernel_rfl) (fun _ _ _ h => h) (Or.inl ⟨by rfl, ?_⟩) (by assumption) ?_
  rotate_left
  · intro W hSw
    go_simp <;> with_reducible rfl
  try simp only [Act.put, List.setIfInBounds_toArray, List.set_cons_zero, List.set_cons_succ]
  refine wpAnyH_take (i := 1) (oi := ⟨_, _, _, _, _, _⟩) (v := ?_) rfl (by kernel_rfl) (by kernel_rfl) (by kernel_rfl) (fun _ _ _ h => h) (Or.inl ⟨by rfl, ?_⟩) (by assumption) ?_
  rotate_left
  · intro W hSw
    go_simp <;> with_reducible rfl
  try simp only [Act.put, List.setIfInBounds_toArray, List.set_cons_zero, List.set_cons_succ]
  refine wpAnyH_take (i := 2) (oi := ⟨_, _, _, _, _, _⟩) (v := ?_) rfl (by kernel_rfl) (by kernel_rfl) (by kernel_rfl) (fun _ _ _ h => h) (Or.inl ⟨by rfl, ?_⟩) (by assumption) ?_
  rotate_left
  · intro W hSw
    go_simp <;> with_reducible rfl
  try simp only [Act.put, List.setIfInBounds_toArray, List.set_cons_zero, List.set_cons_succ]
  refine wpAnyH_ready (rs := [3]) (by kernel_rfl) (by simp) ?_
  refine AllReadyH.cons (o := ⟨_, _, _, _, _, _⟩) rfl (fun K hK => ?_) AllReadyH.nil
  have HKK := Lib.hid hK
  clear hK
  go_simp
  refine (HV.out _ hHeld).mono ?_
  rintro e w5 ⟨A5, c5, rfl, hH5, hs5, hb5⟩
  obtain ⟨b6, o6, hS6, _, hc6⟩ := hs5.at (show (v :: vs)[0]? = some v from rfl)
  have m6 : w5.cell? ⟨b6, o6, none⟩ = some (.int .i64 v) := by simpa using hc6 0 v rfl
  subst hS6
  have hS5 := HT.out _ _ hHeld hb5
  have hS7 : ((w5.cell? ⟨xl, 0, none⟩ = some (.slice (some ⟨b, s, none⟩) L.length cl) ∧ w5.cell? ⟨xg, 0, none⟩ = some (.int .i64 n.vars) ∧ w5.cell? ⟨xg, 1, none⟩ = some (.slice S.i n.inputs.length S.ic) ∧ w5.cell? ⟨xg, 2, none⟩ = some (.slice S.l n.latches.length S.lc) ∧ w5.cell? ⟨xg, 3, none⟩ = some (.slice S.o n.outs.length S.oc) ∧ w5.cell? ⟨xg, 4, none⟩ = some (.slice S.b n.bads.length S.bc) ∧ w5.cell? ⟨xg, 5, none⟩ = some (.slice S.c n.cons.length S.cc) ∧ w5.cell? ⟨xg, 6, none⟩ = some (.slice S.m n.mems.length S.mc) ∧ w5.cell? ⟨xg, 7, none⟩ = some (.slice S.a n.ands.length S.ac) ∧ w5.cell? ⟨xg, 8, none⟩ = some p ∧ w5.cell? ⟨xg, 9, none⟩ = some q ∧ w5.cell? ⟨W.heap.size, 0, none⟩ = some (.bool x.nr) ∧ w5.cell? ⟨W.heap.size, 1, none⟩ = some (.int .i64 x.nm) ∧ w5.cell? ⟨W.heap.size, 2, none⟩ = some (.int .i64 x.na) ∧ w5.cell? ⟨b, s + v.toNat, none⟩ = some (.int .i64 l)) ∧ Hid (Below w1.heap.size w1 w5)) ∧ w5.cell? ⟨b6, o6, none⟩ = some (.int .i64 v) := ⟨hS5, m6⟩
  refine HKK.out.out _ _ hS5 (fun _ => wpAnyH_turn (S' := fun V => ((V.cell? ⟨xl, 0, none⟩ = some (.slice (some ⟨b, s, none⟩) L.length cl) ∧ V.cell? ⟨xg, 0, none⟩ = some (.int .i64 n.vars) ∧ V.cell? ⟨xg, 1, none⟩ = some (.slice S.i n.inputs.length S.ic) ∧ V.cell? ⟨xg, 2, none⟩ = some (.slice S.l n.latches.length S.lc) ∧ V.cell? ⟨xg, 3, none⟩ = some (.slice S.o n.outs.length S.oc) ∧ V.cell? ⟨xg, 4, none⟩ = some (.slice S.b n.bads.length S.bc) ∧ V.cell? ⟨xg, 5, none⟩ = some (.slice S.c n.cons.length S.cc) ∧ V.cell? ⟨xg, 6, none⟩ = some (.slice S.m n.mems.length S.mc) ∧ V.cell? ⟨xg, 7, none⟩ = some (.slice S.a n.ands.length S.ac) ∧ V.cell? ⟨xg, 8, none⟩ = some p ∧ V.cell? ⟨xg, 9, none⟩ = some q ∧ V.cell? ⟨W.heap.size, 0, none⟩ = some (.bool x.nr) ∧ V.cell? ⟨W.heap.size, 1, none⟩ = some (.int .i64 x.nm) ∧ V.cell? ⟨W.heap.size, 2, none⟩ = some (.int .i64 x.na) ∧ V.cell? ⟨b, s + v.toNat, none⟩ = some (.int .i64 l)) ∧ Hid (Below w1.heap.size w1 V)) ∧ V.cell? ⟨b6, o6, none⟩ = some (.int .i64 v)) (fun _ h => h.1) _ _ _ _ ?_)
  have HB5 := Lib.hid hS5.2.out
  clear HKK K hc6 hs5 hH5 hb5 hS5
  try simp only [Act.put, List.setIfInBounds_toArray, List.set_cons_zero, List.set_cons_succ]
  refine wpAnyH_take (i := 4) (oi := ⟨_, _, _, _, _, _⟩) (v := ?_) rfl (by kernel_rfl) (by kernel_rfl) (by kernel_rfl) (fun _ _ _ h => h) (Or.inl ⟨by rfl, ?_⟩) (by assumption) ?_
  rotate_left
  · intro W hSw
    go_simp <;> with_reducible rfl
  try simp only [Act.put, List.setIfInBounds_toArray, List.set_cons_zero, List.set_cons_succ]
  refine wpAnyH_take (i := 5) (oi := ⟨_, _, _, _, _, _⟩) (v := ?_) rfl (by kernel_rfl) (by kernel_rfl) (by kernel_rfl) (fun _ _ _ h => h) (Or.inl ⟨by rfl, ?_⟩) (by assumption) ?_
  rotate_left
  · intro W hSw
    go_simp <;> with_reducible rfl
  try simp only [Act.put, List.setIfInBounds_toArray, List.set_cons_zero, List.set_cons_succ]
  refine wpAnyH_take (i := 6) (oi := ⟨_, _, _, _, _, _⟩) (v := ?_) rfl (by kernel_rfl) (by kernel_rfl) (by kernel_rfl) (fun _ _ _ h => h) (Or.inl ⟨by rfl, ?_⟩) (by assumption) ?_
  rotate_left
  · intro W hSw
    go_simp <;> with_reducible rfl
  try simp only [Act.put, List.setIfInBounds_toArray, List.set_cons_zero, List.set_cons_succ]
  refine wpAnyH_take (i := 7) (oi := ⟨_, _, _, _, _, _⟩) (v := ?_) rfl (by kernel_rfl) (by kernel_rfl) (by kernel_rfl) (fun _ _ _ h => h) (Or.inl ⟨by rfl, ?_⟩) (by assumption) ?_
  rotate_left
  · intro W hSw
    go_simp <;> with_reducible rfl
  try simp only [Act.put, List.setIfInBounds_toArray, List.set_cons_zero, List.set_cons_succ]
  refine wpAnyH_take (i := 8) (oi := ⟨_, _, _, _, _, _⟩) (v := ?_) rfl (by kernel_rfl) (by kernel_rfl) (by kernel_rfl) (fun _ _ _ h => h) (Or.inl ⟨by rfl, ?_⟩) (by assumption) ?_
  rotate_left
  · intro W hSw
    go_simp <;> with_reducible rfl
  try simp only [Act.put, List.setIfInBounds_toArray, List.set_cons_zero, List.set_cons_succ]
  refine wpAnyH_done (by kernel_rfl) ?_ _
  go_wp2_with fail
  go_ret
  exact ⟨ret_int HB.out.2.1.symm, below_on HB.out.1 HB5.out⟩
end Go.Proofs.Ytchnpooijaalnaa

namespace Go.Proofs.Ytchnpooijaalnaa
open Go.ChangeShapes Go.WideShapes Go.RowKit
set_option linter.unusedVariables false
variable {lo g B xl xg xc : Nat} {w3 : World} {n : PNet} {S : NetS} {Al : Option Addr} {cl : Nat} {L : List Int} {p q : Value}

/-- What cmp.Compare answers. -/
def cmpI (a b : Int) : Int := if a < b then -1 else if b < a then 1 else 0
theorem nan_any (a : Int) (w : World) : Calls Try.prog 54 #[.int .i64 a] w fun e w' => e = .returned (.bool false) ∧ w = w' := by
  go_enter Try.func54, Try.ntmps54
  go_wp2
  go_ret
  exact ⟨by simp, rfl⟩
theorem compare_any (a b : Int) (w : World) : Calls Try.prog 31 #[.int .i64 a, .int .i64 b] w fun e w' => e = .returned (.int .i64 (cmpI a b)) ∧ w = w' := by
  by_cases h1 : a < b
  · have H := Lib.hid (show cmpI a b = -1 by unfold cmpI; rw [if_pos h1])
    go_enter Try.func31, Try.ntmps31
    go_wp2_with (go_at_call 54; refine (nan_any _ _).mono ?_; rintro e w' ⟨rfl, rfl⟩)
    go_ret
    exact ⟨ret_int H.out.symm, rfl⟩
  · by_cases h2 : b < a
    · have H := Lib.hid (show cmpI a b = 1 by unfold cmpI; rw [if_neg h1, if_pos h2])
      go_enter Try.func31, Try.ntmps31
      go_wp2_with (go_at_call 54; refine (nan_any _ _).mono ?_; rintro e w' ⟨rfl, rfl⟩)
      go_ret
      exact ⟨ret_int H.out.symm, rfl⟩
    · have H := Lib.hid (show cmpI a b = 0 by unfold cmpI; rw [if_neg h1, if_neg h2])
      go_enter Try.func31, Try.ntmps31
      go_wp2_with (go_at_call 54; refine (nan_any _ _).mono ?_; rintro e w' ⟨rfl, rfl⟩)
      go_ret
      exact ⟨ret_int H.out.symm, rfl⟩

set_option maxRecDepth 100000 in
set_option maxHeartbeats 4000000 in
theorem cmp_any (h : CmpAt lo g w3 B xl xg xc n S Al cl L p q) (hm : n.modest) (ht : ∀ m ∈ n.mems, m.told) (hF : ∀ m ∈ n.mems, m.Fit) (hne : ∀ x ∈ n.nodes, x.nv ≠ []) (hvs : ∀ x ∈ n.nodes, ∀ v ∈ x.nv, 1 ≤ v ∧ v < (L.length : Int)) : Cmps lo g w3 n.nodes (levOf L) xc := by
  intro W x y hn hx hy
  have hW := h.near hn
  have hsz := hn.size
  have hb2 := below_on (below_box W #[.bool x.nr, .int .i64 x.nm, .int .i64 x.na] 42) (below_box (W.alloc (.cells #[.bool x.nr, .int .i64 x.nm, .int .i64 x.na] 42)) #[.bool y.nr, .int .i64 y.nm, .int .i64 y.na] 42)
  have s1 : (W.alloc (.cells #[.bool x.nr, .int .i64 x.nm, .int .i64 x.na] 42)).heap.size = W.heap.size + 1 := by simp
  have s2 : (World.alloc (W.alloc (.cells #[.bool x.nr, .int .i64 x.nm, .int .i64 x.na] 42)) (.cells #[.bool y.nr, .int .i64 y.nm, .int .i64 y.na] 42)).heap.size = W.heap.size + 2 := by simp
  have tx := tBox_new W x 42
  have ty := tBox_new (W.alloc (.cells #[.bool x.nr, .int .i64 x.nm, .int .i64 x.na] 42)) y 42
  rw [s1] at ty
  have hbb := below_box (W.alloc (.cells #[.bool x.nr, .int .i64 x.nm, .int .i64 x.na] 42)) #[.bool y.nr, .int .i64 y.nm, .int .i64 y.na] 42
  obtain ⟨x0, x1, x2⟩ := tx
  have x0 := (hbb.cell (p := ⟨W.heap.size, 0, none⟩) (show W.heap.size < _ by rw [s1]; omega)).trans x0
  have x1 := (hbb.cell (p := ⟨W.heap.size, 1, none⟩) (show W.heap.size < _ by rw [s1]; omega)).trans x1
  have x2 := (hbb.cell (p := ⟨W.heap.size, 2, none⟩) (show W.heap.size < _ by rw [s1]; omega)).trans x2
  obtain ⟨y0, y1, y2⟩ := ty
  generalize hw2 : World.alloc (World.alloc W (.cells #[.bool x.nr, .int .i64 x.nm, .int .i64 x.na] 42)) (.cells #[.bool y.nr, .int .i64 y.nm, .int .i64 y.na] 42) = w2 at *
  have hxc := h.nc.2
  have hlc : xc < w2.heap.size := by omega
  have hl0 : W.heap.size < w2.heap.size := by omega
  have hl1 : W.heap.size + 1 < w2.heap.size := by omega
  have r0 : w2.cell? ⟨xc, 0, none⟩ = some (.func (.func 27) #[] #[.pointer (some ⟨xl, 0, none⟩), .pointer (some ⟨xg, 0, none⟩)]) := by
    rw [cell_of_row w2 xc 0 _ _ _ ((hb2.block _ (show xc < W.heap.size by omega)).trans hW.rc)]; rfl
  have hnw := fun (V : World) (hV : Below w2.heap.size w2 V) => show Near lo g W V from by
    have h5 := hb2.trans (hV.mono hb2.size)
    exact ⟨h5.os, h5.tape, h5.output, Nat.le_trans hsz h5.size, fun b h1 _ => h5.block b (by omega)⟩
  have HK := Lib.hid fun (V : World) (hV : Below w2.heap.size w2 V) => show (V.cell? ⟨xc, 0, none⟩ = some (.func (.func 27) #[] #[.pointer (some ⟨xl, 0, none⟩), .pointer (some ⟨xg, 0, none⟩)]) ∧ V.cell? ⟨W.heap.size, 0, none⟩ = some (.bool x.nr) ∧ V.cell? ⟨W.heap.size, 1, none⟩ = some (.int .i64 x.nm) ∧ V.cell? ⟨W.heap.size, 2, none⟩ = some (.int .i64 x.na) ∧ V.cell? ⟨W.heap.size + 1, 0, none⟩ = some (.bool y.nr) ∧ V.cell? ⟨W.heap.size + 1, 1, none⟩ = some (.int .i64 y.nm) ∧ V.cell? ⟨W.heap.size + 1, 2, none⟩ = some (.int .i64 y.na)) ∧ Hid (Below w2.heap.size w2 V) from
    ⟨⟨(hV.cell (p := ⟨xc, 0, none⟩) hlc).trans r0, (hV.cell (p := ⟨W.heap.size, 0, none⟩) hl0).trans x0, (hV.cell (p := ⟨W.heap.size, 1, none⟩) hl0).trans x1, (hV.cell (p := ⟨W.heap.size, 2, none⟩) hl0).trans x2, (hV.cell (p := ⟨W.heap.size + 1, 0, none⟩) hl1).trans y0, (hV.cell (p := ⟨W.heap.size + 1, 1, none⟩) hl1).trans y1, (hV.cell (p := ⟨W.heap.size + 1, 2, none⟩) hl1).trans y2⟩, Lib.hid hV⟩
  have HT := Lib.hid fun (V V' : World) (hV : (V.cell? ⟨xc, 0, none⟩ = some (.func (.func 27) #[] #[.pointer (some ⟨xl, 0, none⟩), .pointer (some ⟨xg, 0, none⟩)]) ∧ V.cell? ⟨W.heap.size, 0, none⟩ = some (.bool x.nr) ∧ V.cell? ⟨W.heap.size, 1, none⟩ = some (.int .i64 x.nm) ∧ V.cell? ⟨W.heap.size, 2, none⟩ = some (.int .i64 x.na) ∧ V.cell? ⟨W.heap.size + 1, 0, none⟩ = some (.bool y.nr) ∧ V.cell? ⟨W.heap.size + 1, 1, none⟩ = some (.int .i64 y.nm) ∧ V.cell? ⟨W.heap.size + 1, 2, none⟩ = some (.int .i64 y.na)) ∧ Hid (Below w2.heap.size w2 V)) (hV2 : Below V.heap.size V V') => HK.out V' (below_on hV.2.out hV2)
  have HLX := Lib.hid fun (V : World) (z : PNode) (hz : z ∈ n.nodes) (hV : (V.cell? ⟨xc, 0, none⟩ = some (.func (.func 27) #[] #[.pointer (some ⟨xl, 0, none⟩), .pointer (some ⟨xg, 0, none⟩)]) ∧ V.cell? ⟨W.heap.size, 0, none⟩ = some (.bool x.nr) ∧ V.cell? ⟨W.heap.size, 1, none⟩ = some (.int .i64 x.nm) ∧ V.cell? ⟨W.heap.size, 2, none⟩ = some (.int .i64 x.na) ∧ V.cell? ⟨W.heap.size + 1, 0, none⟩ = some (.bool y.nr) ∧ V.cell? ⟨W.heap.size + 1, 1, none⟩ = some (.int .i64 y.nm) ∧ V.cell? ⟨W.heap.size + 1, 2, none⟩ = some (.int .i64 y.na)) ∧ Hid (Below w2.heap.size w2 V)) => level_any V z (hW.near (hnw V hV.2.out)) (hnw V hV.2.out).size hz hm ht hF (hne z hz) (hvs z hz)
  have HB := Lib.hid hb2
  have eg := enters_of Try.func27 (by kernel_rfl) rfl
  clear h hW hm ht hF hne hvs hb2 hbb hnw hn
  go_enter Try.func30, Try.ntmps30
  go_wp2_with fail
  clear hw2
  go_region_held3 (fun V => (V.cell? ⟨xc, 0, none⟩ = some (.func (.func 27) #[] #[.pointer (some ⟨xl, 0, none⟩), .pointer (some ⟨xg, 0, none⟩)]) ∧ V.cell? ⟨W.heap.size, 0, none⟩ = some (.bool x.nr) ∧ V.cell? ⟨W.heap.size, 1, none⟩ = some (.int .i64 x.nm) ∧ V.cell? ⟨W.heap.size, 2, none⟩ = some (.int .i64 x.na) ∧ V.cell? ⟨W.heap.size + 1, 0, none⟩ = some (.bool y.nr) ∧ V.cell? ⟨W.heap.size + 1, 1, none⟩ = some (.int .i64 y.nm) ∧ V.cell? ⟨W.heap.size + 1, 2, none⟩ = some (.int .i64 y.na)) ∧ Hid (Below w2.heap.size w2 V)) (first | exact HK.out _ (Below.refl _ _).drew | exact HT.out _ _ (by assumption) (by assumption) | assumption | go_keep)
    (first
      | (go_at_call 27; refine (HLX.out _ _ (by assumption) (by assumption)).mono ?_; rintro e w5 ⟨rfl, hb5⟩)
      | (go_at_call 31; refine (compare_any _ _ _).mono ?_; rintro e w7 ⟨rfl, rfl⟩)
      | fail)
  all_goals
    have HE := Lib.hid (show (w5.cell? ⟨xc, 0, none⟩ = some (.func (.func 27) #[] #[.pointer (some ⟨xl, 0, none⟩), .pointer (some ⟨xg, 0, none⟩)]) ∧ w5.cell? ⟨W.heap.size, 0, none⟩ = some (.bool x.nr) ∧ w5.cell? ⟨W.heap.size, 1, none⟩ = some (.int .i64 x.nm) ∧ w5.cell? ⟨W.heap.size, 2, none⟩ = some (.int .i64 x.na) ∧ w5.cell? ⟨W.heap.size + 1, 0, none⟩ = some (.bool y.nr) ∧ w5.cell? ⟨W.heap.size + 1, 1, none⟩ = some (.int .i64 y.nm) ∧ w5.cell? ⟨W.heap.size + 1, 2, none⟩ = some (.int .i64 y.na)) ∧ Hid (Below w2.heap.size w2 w5) from by assumption).2.out
    go_wp2_with fail
    go_ret
    exact ⟨cmpI (levOf L x) (levOf L y), rfl, fun h => by unfold cmpI; rw [if_pos h], fun h => by unfold cmpI; rw [if_neg (by omega)]; split <;> omega, below_on HB.out HE.out⟩
end Go.Proofs.Ytchnpooijaalnaa

namespace Go.Proofs.Ytchnpooijaalnaa
open Go.ChangeShapes Go.WideShapes Go.RowKit
set_option linter.unusedVariables false

theorem TR.below {W W' : World} {g : Nat} {X : List PNode} (h : TR W g X) (hb : Below W.heap.size W W') (hg : g < W.heap.size) : TR W' g X := by
  refine ⟨?_, fun j x hj => (h.node j x hj).below hb hg⟩
  obtain ⟨cur, h1, h2⟩ := h.row
  exact ⟨cur, (hb.block g hg).trans h1, h2⟩
theorem near_self (lo g : Nat) (w : World) (h : lo ≤ w.heap.size) : Near lo g w w := ⟨rfl, rfl, rfl, h, fun _ _ _ => rfl⟩

set_option maxRecDepth 100000 in
set_option maxHeartbeats 4000000 in
theorem order_none (n : PNet) (S : NetS) (w : World) (h : NetAt w w.heap.size S n) (hf : n.fits) (hm : n.modest) (hr : n.near) (hd : n.nodes.length ≤ 900) (hl : n.levels = none) :
    Calls Try.prog 13 #[.agg #[.int .i64 n.vars, .slice S.i n.inputs.length S.ic, .slice S.l n.latches.length S.lc, .slice S.o n.outs.length S.oc, .slice S.b n.bads.length S.bc, .slice S.c n.cons.length S.cc, .slice S.m n.mems.length S.mc, .slice S.a n.ands.length S.ac]] w (TOrder w n.order) := by
  have hbx := below_box w #[.int .i64 n.vars, .slice S.i n.inputs.length S.ic, .slice S.l n.latches.length S.lc, .slice S.o n.outs.length S.oc, .slice S.b n.bads.length S.bc, .slice S.c n.cons.length S.cc, .slice S.m n.mems.length S.mc, .slice S.a n.ands.length S.ac] 27
  have hM := netBox_new w n S 27
  have hN := NetAt.later h hbx (by simp)
  generalize hw1 : w.alloc (.cells #[.int .i64 n.vars, .slice S.i n.inputs.length S.ic, .slice S.l n.latches.length S.lc, .slice S.o n.outs.length S.oc, .slice S.b n.bads.length S.bc, .slice S.c n.cons.length S.cc, .slice S.m n.mems.length S.mc, .slice S.a n.ands.length S.ac] 27) = w1 at *
  have HL := Lib.hid fun (W : World) (hb : Below w1.heap.size w1 W) => show Calls Try.prog 11 #[.agg #[.int .i64 n.vars, .slice S.i n.inputs.length S.ic, .slice S.l n.latches.length S.lc, .slice S.o n.outs.length S.oc, .slice S.b n.bads.length S.bc, .slice S.c n.cons.length S.cc, .slice S.m n.mems.length S.mc, .slice S.a n.ands.length S.ac]] W (TLevels W none) from by
    have := levels_any n S W (NetAt.later hN hb hb.size) hf hm hr hd
    rw [hl] at this
    exact this
  have HO := Lib.hid (show n.order = none by unfold PNet.order; rw [hl]; rfl)
  have HM := Lib.hid (show NetBox w1 w.heap.size n S from hM)
  obtain ⟨e0, e1, e2, e3, e4, e5, e6, e7, hlt⟩ := hM
  have HB := Lib.hid hbx
  clear h hbx hN hf hm hr hd hl hlt
  go_enter Try.func13, Try.ntmps13
  go_wp2_with (first
    | (go_at_call 11; refine (HL.out _ (Below.refl _ _)).mono ?_; rintro e w3 ⟨A3, c3, rfl, hs3, hb3⟩))
  go_ret2
  rw [HO.out]
  exact ⟨none, 0, rfl, Row.nil, below_on HB.out (below_on hb3 (below_box w3 _ _))⟩

/-- What the walk holds before the sort: the three variables, the row of nodes in a block of its own. -/
structure Before (w w7 : World) (n : PNet) (S : NetS) (L : List Int) (g c xl xg xc : Nat) (Al : Option Addr) (cl : Nat) (q : Value) : Prop where
  cmp : CmpAt w7.heap.size g w7 w.heap.size xl xg xc n S Al cl L (.slice (some ⟨g, 0, none⟩) n.nodes.length c) q
  row : Srt w7.heap.size g w7 n.nodes w7
  below : Below w.heap.size w w7
theorem before_of {w w3 w4 w5 w6 : World} {n : PNet} {S : NetS} {L : List Int} {g c : Nat} {Al : Option Addr} {cl : Nat} {q : Value} (h : NetAt w w.heap.size S n)
    (b3 : Below w.heap.size w w3) (hs3 : Src w3 w3.heap.size Al L)
    (h4 : w4 = w3.alloc (.cells #[.slice Al L.length cl] 22))
    (hT : TR w5 g n.nodes) (hg1 : w4.heap.size ≤ g) (hg2 : g < w5.heap.size) (b5 : Below w4.heap.size w4 w5)
    (h6 : (w5.alloc (.cells #[.int .i64 n.vars, .slice S.i n.inputs.length S.ic, .slice S.l n.latches.length S.lc, .slice S.o n.outs.length S.oc, .slice S.b n.bads.length S.bc, .slice S.c n.cons.length S.cc, .slice S.m n.mems.length S.mc, .slice S.a n.ands.length S.ac, .slice (some ⟨g, 0, none⟩) n.nodes.length c, q] 62)).alloc (.cells #[.nilFunc] 67) = w6) :
    w6.cell? ⟨w5.heap.size + 1, 0, none⟩ = some .nilFunc ∧ w6.frozen? ⟨w5.heap.size + 1, 0, none⟩ = false ∧ (w6.setCell ⟨w5.heap.size + 1, 0, none⟩ (.func (.func 27) #[] #[.pointer (some ⟨w3.heap.size, 0, none⟩), .pointer (some ⟨w5.heap.size, 0, none⟩)])).cell? ⟨w5.heap.size, 8, none⟩ = some (.slice (some ⟨g, 0, none⟩) n.nodes.length c) ∧ Hid (Before w (w6.setCell ⟨w5.heap.size + 1, 0, none⟩ (.func (.func 27) #[] #[.pointer (some ⟨w3.heap.size, 0, none⟩), .pointer (some ⟨w5.heap.size, 0, none⟩)])) n S L g c w3.heap.size w5.heap.size (w5.heap.size + 1) Al cl q) := by
  have s4 : w4.heap.size = w3.heap.size + 1 := by rw [h4]; simp
  have s6 : w6.heap.size = w5.heap.size + 2 := by rw [← h6]; simp
  have b4 : Below w3.heap.size w3 w4 := by rw [h4]; exact below_box _ _ _
  have b6 : Below w5.heap.size w5 w6 := by rw [← h6]; exact below_on (below_box _ _ _) (below_box _ _ _)
  have r4 : w4.heap[w3.heap.size]? = some (.cells #[.slice Al L.length cl] 22 (0, 0)) := by rw [h4]; exact heap_alloc_new _ _
  have r6 : w6.heap[w5.heap.size]? = some (.cells #[.int .i64 n.vars, .slice S.i n.inputs.length S.ic, .slice S.l n.latches.length S.lc, .slice S.o n.outs.length S.oc, .slice S.b n.bads.length S.bc, .slice S.c n.cons.length S.cc, .slice S.m n.mems.length S.mc, .slice S.a n.ands.length S.ac, .slice (some ⟨g, 0, none⟩) n.nodes.length c, q] 62 (0, 0)) := by rw [← h6]; exact alloc_old (heap_alloc_new _ _)
  have r7 : w6.heap[w5.heap.size + 1]? = some (.cells #[.nilFunc] 67 (0, 0)) := by
    have := heap_alloc_new (w5.alloc (.cells #[.int .i64 n.vars, .slice S.i n.inputs.length S.ic, .slice S.l n.latches.length S.lc, .slice S.o n.outs.length S.oc, .slice S.b n.bads.length S.bc, .slice S.c n.cons.length S.cc, .slice S.m n.mems.length S.mc, .slice S.a n.ands.length S.ac, .slice (some ⟨g, 0, none⟩) n.nodes.length c, q] 62)) (.cells #[.nilFunc] 67)
    rw [h6] at this
    simpa using this
  clear h4 h6
  have c0 : w6.cell? ⟨w5.heap.size + 1, 0, none⟩ = some .nilFunc := by rw [cell_of_row w6 _ 0 _ _ _ r7]; rfl
  have f0 := frozen_of_row w6 _ 0 _ _ r7
  have b7 : Below w5.heap.size w5 (w6.setCell ⟨w5.heap.size + 1, 0, none⟩ (.func (.func 27) #[] #[.pointer (some ⟨w3.heap.size, 0, none⟩), .pointer (some ⟨w5.heap.size, 0, none⟩)])) := b6.setCell (by show w5.heap.size ≤ w5.heap.size + 1; omega) _
  have q6 : (w6.setCell ⟨w5.heap.size + 1, 0, none⟩ (.func (.func 27) #[] #[.pointer (some ⟨w3.heap.size, 0, none⟩), .pointer (some ⟨w5.heap.size, 0, none⟩)])).heap[w5.heap.size]? = _ := (heap_setCell_other w6 ⟨w5.heap.size + 1, 0, none⟩ w5.heap.size (.func (.func 27) #[] #[.pointer (some ⟨w3.heap.size, 0, none⟩), .pointer (some ⟨w5.heap.size, 0, none⟩)]) (by show w5.heap.size ≠ w5.heap.size + 1; omega)).trans r6
  have q7 : (w6.setCell ⟨w5.heap.size + 1, 0, none⟩ (.func (.func 27) #[] #[.pointer (some ⟨w3.heap.size, 0, none⟩), .pointer (some ⟨w5.heap.size, 0, none⟩)])).heap[w5.heap.size + 1]? = _ := heap_setCell_same w6 _ 0 _ _ (.func (.func 27) #[] #[.pointer (some ⟨w3.heap.size, 0, none⟩), .pointer (some ⟨w5.heap.size, 0, none⟩)]) r7
  have s7 : (w6.setCell ⟨w5.heap.size + 1, 0, none⟩ (.func (.func 27) #[] #[.pointer (some ⟨w3.heap.size, 0, none⟩), .pointer (some ⟨w5.heap.size, 0, none⟩)])).heap.size = w5.heap.size + 2 := by simpa [World.setCell] using s6
  generalize w6.setCell ⟨w5.heap.size + 1, 0, none⟩ (.func (.func 27) #[] #[.pointer (some ⟨w3.heap.size, 0, none⟩), .pointer (some ⟨w5.heap.size, 0, none⟩)]) = w7 at *
  have z5 := b5.size
  have z3 := b3.size
  have b47 : Below w4.heap.size w4 w7 := below_on b5 b7
  have b37 : Below w3.heap.size w3 w7 := below_on b4 b47
  have b07 : Below w.heap.size w w7 := below_on b3 b37
  refine ⟨c0, f0, by rw [cell_of_row w7 _ 8 _ _ _ q6]; rfl, Lib.hid ⟨⟨NetAt.below b07 (Nat.le_refl _) h, by omega, by omega, (b47.block _ (by omega)).trans r4, q6, q7, by omega, by omega, by omega, fun hne => ?_⟩, ⟨near_self _ _ _ (Nat.le_refl _), hT.below b7 hg2, by omega⟩, b07⟩⟩
  obtain ⟨b, s, e, h1, h2⟩ := hs3 hne
  exact ⟨b, s, e, by omega, by omega, fun j x hj => (b37.cell (p := ⟨b, s + j, none⟩) h1).trans (h2 j x hj)⟩
theorem sorted_left {w w7 w8 : World} {n : PNet} {S : NetS} {L : List Int} {g c xl xg xc : Nat} {Al : Option Addr} {cl : Nat} {q : Value} (h : Before w w7 n S L g c xl xg xc Al cl q) (hl : n.levels = some L) {e : Ending} (he : e = .returned (.tuple #[.slice (some ⟨g, 0, none⟩) n.nodes.length c, .bool true]))
    {Y : List PNode} (hY : SoFarT w7.heap.size g w7 (fun x y => levOf L x = levOf L y → Ahead n.nodes x y) n.nodes Y w8) (hS : Sd (levOf L) Y) : TOrder w n.order e w8 := by
  have hs : n.sound = 0 := (levels_len hl).1
  have hlv : IsLevels n.vars.toNat n.nodes L := by
    unfold PNet.levels at hl
    rw [if_pos hs] at hl
    exact (levelsOf_iff (good6_of hs).2.2.1).1 hl
  have hE := order_is (good6_of hs).2.2.1 hlv hY.perm hS hY.st
  have hO : n.order = some Y := by unfold PNet.order; rw [hl, hE]; rfl
  have hB := h.cmp.hB
  have hg := h.cmp.glo
  refine ⟨some ⟨g, 0, none⟩, c, ?_, ?_, ?_⟩
  · rw [he, hO]
    show _ = Ending.returned (.tuple #[.slice _ Y.length c, .bool true])
    rw [hY.perm.length_eq]
  · rw [hO]
    intro hne
    exact ⟨g, 0, rfl, Nat.lt_of_lt_of_le hY.srt.lt hY.srt.near.size, fun j x hj => by rw [Nat.zero_add]; exact hY.srt.row.node j x hj⟩
  · have hN := hY.srt.near
    have b := h.below
    have z := b.size
    exact ⟨hN.os.trans b.os, hN.tape.trans b.tape, hN.output.trans b.output, by have := hN.size; omega, fun k hk => (hN.block k (by omega) (by omega)).trans (b.block k hk)⟩
theorem sort_of {w w7 : World} {n : PNet} {S : NetS} {L : List Int} {g c xl xg xc : Nat} {Al : Option Addr} {cl : Nat} {q : Value} (h : Before w w7 n S L g c xl xg xc Al cl q) (hl : n.levels = some L) (hm : n.modest) (hr : n.near) (hd : n.nodes.length ≤ 900) :
    Calls Try.prog 29 #[.slice (some ⟨g, 0, none⟩) n.nodes.length c, .func (.func 30) #[] #[.pointer (some ⟨xc, 0, none⟩)]] w7 fun e w' => e = .returned (.tuple #[]) ∧ w'.cell? ⟨xg, 8, none⟩ = some (.slice (some ⟨g, 0, none⟩) n.nodes.length c) ∧ Hid (∀ e, e = .returned (.tuple #[.slice (some ⟨g, 0, none⟩) n.nodes.length c, .bool true]) → TOrder w n.order e w') := by
  obtain ⟨hs, hlen⟩ := levels_len hl
  obtain ⟨hW, hF, hG, _, _⟩ := good6_of hs
  have hC := cmp_any h.cmp hm (told_of hr hF) hF hG.some (fun x hx v hv => by have := hG.vars x hx v hv; have := hW.vars; omega)
  have hst : n.nodes.Pairwise fun x y => levOf L x = levOf L y → Ahead n.nodes x y := List.Pairwise.imp (S := fun x y => levOf L x = levOf L y → Ahead n.nodes x y) (fun {a b} (h : Ahead n.nodes a b) (_ : levOf L a = levOf L b) => h) (ahead_all n.nodes)
  refine (sortStable_any (R := fun x y => levOf L x = levOf L y → Ahead n.nodes x y) hC (fun x y hne he => absurd he hne) n.nodes c w7 h.row (fun x hx => hx) hst (by omega)).mono ?_
  rintro e w' ⟨rfl, hD⟩
  refine ⟨rfl, ?_, Lib.hid ?_⟩
  · obtain ⟨Y, hY, _⟩ := hD.out
    have := (hY.srt.near.block _ h.cmp.ng.2 h.cmp.ng.1).trans h.cmp.rg
    rw [cell_of_row w' _ 8 _ _ _ this]
    rfl
  · intro e he
    obtain ⟨Y, hY, hS⟩ := hD.out
    exact sorted_left h hl he hY hS

/-! ### No nodes -/
theorem insert_nil (A : Option Addr) (c xc : Nat) (w : World) : Calls Try.prog 71 #[.slice A 0 c, .int .i64 0, .int .i64 0, .func (.func 30) #[] #[.pointer (some ⟨xc, 0, none⟩)]] w fun e w' => e = .returned (.tuple #[]) ∧ Below w.heap.size w w' := by
  go_enter Try.func71, Try.ntmps71
  go_wp2_with fail
  refine wp_loop_rounds 1 ?_
  rw [rounds_succ]
  go_wp2_with fail
  go_end0
  exact ⟨rfl, Below.refl _ _⟩
theorem stable_nil (A : Option Addr) (c xc : Nat) (w : World) : Calls Try.prog 53 #[.slice A 0 c, .int .i64 0, .func (.func 30) #[] #[.pointer (some ⟨xc, 0, none⟩)]] w fun e w' => e = .returned (.tuple #[]) ∧ Below w.heap.size w w' := by
  go_enter Try.func53, Try.ntmps53
  go_wp2_with fail
  refine wp_loop_rounds 1 ?_
  rw [rounds_succ]
  go_wp2_with (go_at_call 71; refine (insert_nil A c xc _).mono ?_; rintro e w5 ⟨rfl, hb⟩)
  refine wp_loop_rounds 1 ?_
  rw [rounds_succ]
  go_wp2_with fail
  go_end0
  exact ⟨rfl, hb⟩
theorem sortStable_nil (A : Option Addr) (c xc : Nat) (w : World) : Calls Try.prog 29 #[.slice A 0 c, .func (.func 30) #[] #[.pointer (some ⟨xc, 0, none⟩)]] w fun e w' => e = .returned (.tuple #[]) ∧ Below w.heap.size w w' := by
  go_enter Try.func29, Try.ntmps29
  go_wp2_with (go_at_call 53; refine (stable_nil A c xc _).mono ?_; rintro e w5 ⟨rfl, hb⟩)
  go_end0
  exact ⟨rfl, hb⟩

set_option maxRecDepth 100000 in
set_option maxHeartbeats 8000000 in
theorem order_some (n : PNet) (S : NetS) (w : World) (L : List Int) (h : NetAt w w.heap.size S n) (hf : n.fits) (hm : n.modest) (hr : n.near) (hd : n.nodes.length ≤ 900) (hl : n.levels = some L) (hne : n.nodes ≠ []) :
    Calls Try.prog 13 #[.agg #[.int .i64 n.vars, .slice S.i n.inputs.length S.ic, .slice S.l n.latches.length S.lc, .slice S.o n.outs.length S.oc, .slice S.b n.bads.length S.bc, .slice S.c n.cons.length S.cc, .slice S.m n.mems.length S.mc, .slice S.a n.ands.length S.ac]] w (TOrder w n.order) := by
  have hbx := below_box w #[.int .i64 n.vars, .slice S.i n.inputs.length S.ic, .slice S.l n.latches.length S.lc, .slice S.o n.outs.length S.oc, .slice S.b n.bads.length S.bc, .slice S.c n.cons.length S.cc, .slice S.m n.mems.length S.mc, .slice S.a n.ands.length S.ac] 27
  have hM := netBox_new w n S 27
  have hN := NetAt.later h hbx (by simp)
  generalize hw1 : w.alloc (.cells #[.int .i64 n.vars, .slice S.i n.inputs.length S.ic, .slice S.l n.latches.length S.lc, .slice S.o n.outs.length S.oc, .slice S.b n.bads.length S.bc, .slice S.c n.cons.length S.cc, .slice S.m n.mems.length S.mc, .slice S.a n.ands.length S.ac] 27) = w1 at *
  have hs := (levels_len hl).1
  have HL := Lib.hid fun (W : World) (hb : Below w1.heap.size w1 W) => show Calls Try.prog 11 #[.agg #[.int .i64 n.vars, .slice S.i n.inputs.length S.ic, .slice S.l n.latches.length S.lc, .slice S.o n.outs.length S.oc, .slice S.b n.bads.length S.bc, .slice S.c n.cons.length S.cc, .slice S.m n.mems.length S.mc, .slice S.a n.ands.length S.ac]] W (TLevels W (some L)) from by
    have := levels_any n S W (NetAt.later hN hb hb.size) hf hm hr hd
    rw [hl] at this
    exact this
  have HG := Lib.hid fun (W : World) (hb : Below w1.heap.size w1 W) => newGraph_any n S W (NetAt.later hN hb hb.size) hs hm hr hd
  have HM := Lib.hid (show NetBox w1 w.heap.size n S from hM)
  obtain ⟨e0, e1, e2, e3, e4, e5, e6, e7, hlt⟩ := hM
  have H := Lib.hid (And.intro h (And.intro hbx (And.intro hl (And.intro hm (And.intro hr (And.intro hd hne))))))
  clear h hbx hN hf hm hr hd hl hlt hne hs
  go_enter Try.func13, Try.ntmps13
  go_wp2_with (first
    | (go_at_call 11; refine (HL.out _ (Below.refl _ _)).mono ?_; rintro e w3 ⟨A3, c3, rfl, hs3, hb3⟩; simp only [Option.isSome_some, Option.getD_some] at hs3 ⊢; obtain ⟨n0, n1, n2, n3, n4, n5, n6, n7, nlt⟩ := HM.out.below (below_on hb3 (below_box w3 #[.slice A3 L.length c3] 22)) HM.out.lt)
    | (go_at_call 23; refine (HG.out _ (below_on hb3 (below_box w3 #[.slice A3 L.length c3] 22))).mono ?_; rintro e w5 hh; obtain ⟨p, db, rfl, hO, hI, _, _⟩ := hh; obtain ⟨g, c, rfl, hT, hg1, hg2⟩ := hO.tr H.out.2.2.2.2.2.2; obtain ⟨w6, h6⟩ : ∃ w6, (w5.alloc (.cells #[.int .i64 n.vars, .slice S.i n.inputs.length S.ic, .slice S.l n.latches.length S.lc, .slice S.o n.outs.length S.oc, .slice S.b n.bads.length S.bc, .slice S.c n.cons.length S.cc, .slice S.m n.mems.length S.mc, .slice S.a n.ands.length S.ac, .slice (some ⟨g, 0, none⟩) n.nodes.length c, .slice (some ⟨db, 0, none⟩) (dfill 0 n.nodes (List.replicate (n.vars.toNat + 1) (-1))).length (dfill 0 n.nodes (List.replicate (n.vars.toNat + 1) (-1))).length] 62)).alloc (.cells #[.nilFunc] 67) = w6 := ⟨_, rfl⟩; obtain ⟨c6, f6, c8, hBf⟩ := before_of H.out.1 (below_on H.out.2.1 hb3) hs3 rfl hT hg1 hg2 hO.below h6; have hsf : ∀ (a : Addr) (m : Mode) (x y : Array Value) (W : World), (store a (.func (.func 27) x y) m).run Try.prog W = stored Try.prog W a (.func (.func 27) x y) m := fun a m x y W => run_store _ W a _ m rfl)
    | (go_at_call 29; refine (sort_of hBf.out H.out.2.2.1 H.out.2.2.2.1 H.out.2.2.2.2.1 H.out.2.2.2.2.2.1).mono ?_; rintro e w8 ⟨rfl, c9, hE⟩)
    | fail)
  go_ret2
  exact hE.out _ rfl

theorem empty_of {w5 w6 : World} {n : PNet} {S : NetS} {p q : Value} {a : Nat} (h6 : (w5.alloc (.cells #[.int .i64 n.vars, .slice S.i n.inputs.length S.ic, .slice S.l n.latches.length S.lc, .slice S.o n.outs.length S.oc, .slice S.b n.bads.length S.bc, .slice S.c n.cons.length S.cc, .slice S.m n.mems.length S.mc, .slice S.a n.ands.length S.ac, p, q] 62)).alloc (.cells #[.nilFunc] 67) = w6) :
    w6.cell? ⟨w5.heap.size + 1, 0, none⟩ = some .nilFunc ∧ w6.frozen? ⟨w5.heap.size + 1, 0, none⟩ = false ∧ (w6.setCell ⟨w5.heap.size + 1, 0, none⟩ (.func (.func 27) #[] #[.pointer (some ⟨a, 0, none⟩), .pointer (some ⟨w5.heap.size, 0, none⟩)])).cell? ⟨w5.heap.size, 8, none⟩ = some p ∧ Below w5.heap.size w5 (w6.setCell ⟨w5.heap.size + 1, 0, none⟩ (.func (.func 27) #[] #[.pointer (some ⟨a, 0, none⟩), .pointer (some ⟨w5.heap.size, 0, none⟩)])) ∧ (w6.setCell ⟨w5.heap.size + 1, 0, none⟩ (.func (.func 27) #[] #[.pointer (some ⟨a, 0, none⟩), .pointer (some ⟨w5.heap.size, 0, none⟩)])).heap.size = w5.heap.size + 2 := by
  have s6 : w6.heap.size = w5.heap.size + 2 := by rw [← h6]; simp
  have b6 : Below w5.heap.size w5 w6 := by rw [← h6]; exact below_on (below_box _ _ _) (below_box _ _ _)
  have r6 : w6.heap[w5.heap.size]? = some (.cells #[.int .i64 n.vars, .slice S.i n.inputs.length S.ic, .slice S.l n.latches.length S.lc, .slice S.o n.outs.length S.oc, .slice S.b n.bads.length S.bc, .slice S.c n.cons.length S.cc, .slice S.m n.mems.length S.mc, .slice S.a n.ands.length S.ac, p, q] 62 (0, 0)) := by rw [← h6]; exact alloc_old (heap_alloc_new _ _)
  have r7 : w6.heap[w5.heap.size + 1]? = some (.cells #[.nilFunc] 67 (0, 0)) := by
    have := heap_alloc_new (w5.alloc (.cells #[.int .i64 n.vars, .slice S.i n.inputs.length S.ic, .slice S.l n.latches.length S.lc, .slice S.o n.outs.length S.oc, .slice S.b n.bads.length S.bc, .slice S.c n.cons.length S.cc, .slice S.m n.mems.length S.mc, .slice S.a n.ands.length S.ac, p, q] 62)) (.cells #[.nilFunc] 67)
    rw [h6] at this
    simpa using this
  have c0 : w6.cell? ⟨w5.heap.size + 1, 0, none⟩ = some .nilFunc := by rw [cell_of_row w6 _ 0 _ _ _ r7]; rfl
  have f0 := frozen_of_row w6 _ 0 _ _ r7
  have q6 : (w6.setCell ⟨w5.heap.size + 1, 0, none⟩ (.func (.func 27) #[] #[.pointer (some ⟨a, 0, none⟩), .pointer (some ⟨w5.heap.size, 0, none⟩)])).heap[w5.heap.size]? = _ := (heap_setCell_other w6 ⟨w5.heap.size + 1, 0, none⟩ w5.heap.size (.func (.func 27) #[] #[.pointer (some ⟨a, 0, none⟩), .pointer (some ⟨w5.heap.size, 0, none⟩)]) (by show w5.heap.size ≠ w5.heap.size + 1; omega)).trans r6
  exact ⟨c0, f0, by rw [cell_of_row _ _ 8 _ _ _ q6]; rfl, b6.setCell (by show w5.heap.size ≤ w5.heap.size + 1; omega) _, by simpa [World.setCell] using s6⟩
theorem sortStable_none (X : List PNode) (hX : X = []) (A : Option Addr) (c xc : Nat) (w : World) : Calls Try.prog 29 #[.slice A X.length c, .func (.func 30) #[] #[.pointer (some ⟨xc, 0, none⟩)]] w fun e w' => e = .returned (.tuple #[]) ∧ Below w.heap.size w w' := by
  subst hX
  exact sortStable_nil A c xc w

set_option maxRecDepth 100000 in
set_option maxHeartbeats 8000000 in
theorem order_empty (n : PNet) (S : NetS) (w : World) (L : List Int) (h : NetAt w w.heap.size S n) (hf : n.fits) (hm : n.modest) (hr : n.near) (hd : n.nodes.length ≤ 900) (hl : n.levels = some L) (hne : n.nodes = []) :
    Calls Try.prog 13 #[.agg #[.int .i64 n.vars, .slice S.i n.inputs.length S.ic, .slice S.l n.latches.length S.lc, .slice S.o n.outs.length S.oc, .slice S.b n.bads.length S.bc, .slice S.c n.cons.length S.cc, .slice S.m n.mems.length S.mc, .slice S.a n.ands.length S.ac]] w (TOrder w n.order) := by
  have hbx := below_box w #[.int .i64 n.vars, .slice S.i n.inputs.length S.ic, .slice S.l n.latches.length S.lc, .slice S.o n.outs.length S.oc, .slice S.b n.bads.length S.bc, .slice S.c n.cons.length S.cc, .slice S.m n.mems.length S.mc, .slice S.a n.ands.length S.ac] 27
  have hM := netBox_new w n S 27
  have hN := NetAt.later h hbx (by simp)
  generalize hw1 : w.alloc (.cells #[.int .i64 n.vars, .slice S.i n.inputs.length S.ic, .slice S.l n.latches.length S.lc, .slice S.o n.outs.length S.oc, .slice S.b n.bads.length S.bc, .slice S.c n.cons.length S.cc, .slice S.m n.mems.length S.mc, .slice S.a n.ands.length S.ac] 27) = w1 at *
  have hs := (levels_len hl).1
  have HL := Lib.hid fun (W : World) (hb : Below w1.heap.size w1 W) => show Calls Try.prog 11 #[.agg #[.int .i64 n.vars, .slice S.i n.inputs.length S.ic, .slice S.l n.latches.length S.lc, .slice S.o n.outs.length S.oc, .slice S.b n.bads.length S.bc, .slice S.c n.cons.length S.cc, .slice S.m n.mems.length S.mc, .slice S.a n.ands.length S.ac]] W (TLevels W (some L)) from by
    have := levels_any n S W (NetAt.later hN hb hb.size) hf hm hr hd
    rw [hl] at this
    exact this
  have HG := Lib.hid fun (W : World) (hb : Below w1.heap.size w1 W) => newGraph_any n S W (NetAt.later hN hb hb.size) hs hm hr hd
  have HM := Lib.hid (show NetBox w1 w.heap.size n S from hM)
  have HO := Lib.hid (show n.order = some [] by unfold PNet.order; rw [hl, hne]; rfl)
  obtain ⟨e0, e1, e2, e3, e4, e5, e6, e7, hlt⟩ := hM
  have H := Lib.hid (And.intro h (And.intro hbx hne))
  clear h hbx hN hf hm hr hd hl hlt hne hs
  go_enter Try.func13, Try.ntmps13
  go_wp2_with (first
    | (go_at_call 11; refine (HL.out _ (Below.refl _ _)).mono ?_; rintro e w3 ⟨A3, c3, rfl, hs3, hb3⟩; simp only [Option.isSome_some, Option.getD_some] at hs3 ⊢; obtain ⟨n0, n1, n2, n3, n4, n5, n6, n7, nlt⟩ := HM.out.below (below_on hb3 (below_box w3 #[.slice A3 L.length c3] 22)) HM.out.lt)
    | (go_at_call 23; refine (HG.out _ (below_on hb3 (below_box w3 #[.slice A3 L.length c3] 22))).mono ?_; rintro e w5 hh; obtain ⟨p, db, rfl, hO, hI, _, _⟩ := hh; obtain ⟨A5, c5, rfl, _, _⟩ := hO.form; obtain ⟨w6, h6⟩ : ∃ w6, (w5.alloc (.cells #[.int .i64 n.vars, .slice S.i n.inputs.length S.ic, .slice S.l n.latches.length S.lc, .slice S.o n.outs.length S.oc, .slice S.b n.bads.length S.bc, .slice S.c n.cons.length S.cc, .slice S.m n.mems.length S.mc, .slice S.a n.ands.length S.ac, .slice A5 n.nodes.length c5, .slice (some ⟨db, 0, none⟩) (dfill 0 n.nodes (List.replicate (n.vars.toNat + 1) (-1))).length (dfill 0 n.nodes (List.replicate (n.vars.toNat + 1) (-1))).length] 62)).alloc (.cells #[.nilFunc] 67) = w6 := ⟨_, rfl⟩; obtain ⟨c6, f6, c8, b7, s7⟩ := empty_of (a := w3.heap.size) h6; have hsf : ∀ (a : Addr) (m : Mode) (x y : Array Value) (W : World), (store a (.func (.func 27) x y) m).run Try.prog W = stored Try.prog W a (.func (.func 27) x y) m := fun a m x y W => run_store _ W a _ m rfl)
    | (go_at_call 29; refine (sortStable_none n.nodes H.out.2.2 A5 c5 _ _).mono ?_; rintro e w8 ⟨rfl, b8⟩; have c9 : w8.cell? ⟨w5.heap.size, 8, none⟩ = some (.slice A5 n.nodes.length c5) := (b8.cell (p := ⟨w5.heap.size, 8, none⟩) (by show w5.heap.size < _; omega)).trans c8)
    | fail)
  go_ret2
  have hz : n.nodes.length = 0 := by rw [H.out.2.2]; rfl
  have b4 := below_on hb3 (below_box w3 #[.slice A3 L.length c3] 22)
  rw [HO.out, hz]
  exact ⟨A5, c5, rfl, Row.nil, below_on H.out.2.1 (below_on b4 (below_on hO.below (below_on b7 b8)))⟩

theorem order_any (n : PNet) (S : NetS) (w : World) (h : NetAt w w.heap.size S n) (hf : n.fits) (hm : n.modest) (hr : n.near) (hd : n.nodes.length ≤ 900) :
    Calls Try.prog 13 #[.agg #[.int .i64 n.vars, .slice S.i n.inputs.length S.ic, .slice S.l n.latches.length S.lc, .slice S.o n.outs.length S.oc, .slice S.b n.bads.length S.bc, .slice S.c n.cons.length S.cc, .slice S.m n.mems.length S.mc, .slice S.a n.ands.length S.ac]] w (TOrder w n.order) := by
  cases hl : n.levels with
  | none => exact order_none n S w h hf hm hr hd hl
  | some L =>
    by_cases hne : n.nodes = []
    · exact order_empty n S w L h hf hm hr hd hl hne
    · exact order_some n S w L h hf hm hr hd hl hne
end Go.Proofs.Ytchnpooijaalnaa
