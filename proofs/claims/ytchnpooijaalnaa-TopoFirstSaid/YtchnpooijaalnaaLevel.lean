/- A node's level by definition, out of the levels that are told (conditions: the node's literals and the levels lie where their slices say; each literal's variable has a level; levels of -1 to 4000000000000). -/
import Derived.Test.YtchnpooijaalnaaRefNodes
namespace Go.Proofs.Ytchnpooijaalnaa
open Go.ChangeShapes Go.WideShapes Go.RowKit
set_option linter.unusedVariables false

/-- One more than the greatest of n and the literals' variables' levels; -1 if one isn't told. -/
def lvl (L : List Int) : Int → List Int → Int
  | n, [] => n + 1
  | n, f :: fs => if L.getD (f / 2).toNat 0 < 0 then -1 else lvl L (max n (L.getD (f / 2).toNat 0)) fs
def plevel (L : List Int) (x : PNode) : Int := lvl L 0 x.nf

theorem rvar6_any (l : Int) (h0 : 0 ≤ l) (h1 : l ≤ 4611686018427387904) (w : World) :
    Calls Try.prog 20 #[.int .i64 l] w fun e w' => e = .returned (.int .i64 (l / 2)) ∧ w = w' := by
  go_enter Try.func20, Try.ntmps20
  go_wp2
  go_ret
  exact ⟨rfl, rfl⟩

set_option maxRecDepth 100000 in
set_option maxHeartbeats 2000000 in
theorem rlevel_any (x : PNode) (S : NodeS) (A : Option Addr) (c : Nat) (L : List Int) (w : World) (hf : Src w w.heap.size S.a x.nf) (hL : Src w w.heap.size A L) (hlen : L.length ≤ 1000000) (hfl : x.nf.length ≤ 1000000)
    (hv : ∀ f ∈ x.nf, 0 ≤ f ∧ f < 2 * (L.length : Int)) (hlo : ∀ l ∈ L, -1 ≤ l ∧ l ≤ 4000000000000) :
    Calls Try.prog 26 #[.agg #[.bool x.nr, .int .i64 x.nm, .int .i64 x.na, .slice S.a x.nf.length S.c, .slice S.a2 x.nv.length S.c2], .slice A L.length c] w fun e w' => e = .returned (.int .i64 (plevel L x)) ∧ Below w.heap.size w w' := by
  have hbx := below_box w #[.bool x.nr, .int .i64 x.nm, .int .i64 x.na, .slice S.a x.nf.length S.c, .slice S.a2 x.nv.length S.c2] 44
  have h3 := cell_of_row (w.alloc (.cells #[.bool x.nr, .int .i64 x.nm, .int .i64 x.na, .slice S.a x.nf.length S.c, .slice S.a2 x.nv.length S.c2] 44)) w.heap.size 3 _ _ (0, 0) (heap_alloc_new w _)
  have hf2 := hf.below hbx (Nat.le_refl _)
  have hL2 := hL.below hbx (Nat.le_refl _)
  have HV := Lib.hid hv
  have HLO := Lib.hid hlo
  clear hf hL hv hlo
  go_enter Try.func26, Try.ntmps26
  go_wp2
  generalize w.alloc (.cells #[.bool x.nr, .int .i64 x.nm, .int .i64 x.na, .slice S.a x.nf.length S.c, .slice S.a2 x.nv.length S.c2] 44) = w2 at hbx h3 hf2 hL2 ⊢
  have HB := Lib.hid (And.intro hbx (And.intro hf2 hL2))
  have e3 : w2.cell? ⟨w.heap.size, 3, none⟩ = some (.slice S.a x.nf.length S.c) := h3
  clear hbx hf2 hL2 h3
  go_loopg [5, 6] x.nf.length (fun m s5 s6 wx => ∃ (k : Nat) (acc : Int), k + m = x.nf.length ∧ s5 = .int .i64 acc ∧ s6 = .int .i64 k ∧ 0 ≤ acc ∧ acc ≤ 4000000000000 ∧ Aside (lvl L acc (x.nf.drop k) = plevel L x) ∧ w2 = wx)
  case atStart => exact ⟨0, 0, by omega, rfl, rfl, by omega, by omega, by simp [Aside, plevel], rfl⟩
  case round =>
    obtain ⟨k, acc, hk, rfl, rfl, ha0, ha1, HL, rfl⟩ := hrel
    generalize gk = m at *
    by_cases hlt : k < x.nf.length
    · obtain ⟨f, hx⟩ := some_of_lt hlt
      have hltI : (k : Int) < (x.nf.length : Int) := by omega
      obtain ⟨hf0, hf1⟩ := HV.out f (mem_of_some hx)
      obtain ⟨b, o, hS, hbg, hcell⟩ := HB.out.2.1.at hx
      have hc := hcell k f hx
      have hj : (f / 2).toNat < L.length := by omega
      obtain ⟨l, hl⟩ := some_of_lt hj
      obtain ⟨b2, o2, hS2, hbg2, hcell2⟩ := HB.out.2.2.at hl
      have hc2 := hcell2 _ l hl
      obtain ⟨hl0, hl1⟩ := HLO.out l (mem_of_some hl)
      have hg : L.getD (f / 2).toNat 0 = l := by rw [List.getD_eq_getElem?_getD, hl]; rfl
      have HX := Lib.hid (show (if l < 0 then -1 else lvl L (max acc l) (x.nf.drop (k + 1))) = plevel L x by
        rw [← HL.out, drop_some hx]; simp only [lvl, hg])
      rw [hS] at e3
      subst hS2
      have hfd : 0 ≤ f / 2 := by omega
      have hfe : f / 2 < (L.length : Int) := by omega
      clear hS hcell hcell2 hx hl HL hg hbg hbg2
      by_cases hneg : l < 0
      · have HX2 := Lib.hid (show (-1 : Int) = plevel L x by rw [← HX.out, if_pos hneg])
        go_wp2_with (go_at_call 20; refine (rvar6_any _ (by omega) (by omega) _).mono ?_; rintro e w' ⟨rfl, rfl⟩)
        go_ret
        exact ⟨ret_int HX2.out, HB.out.1⟩
      · have HX2 := Lib.hid (show lvl L (max acc l) (x.nf.drop (k + 1)) = plevel L x by rw [← HX.out, if_neg hneg])
        go_wp2_with (go_at_call 20; refine (rvar6_any _ (by omega) (by omega) _).mono ?_; rintro e w' ⟨rfl, rfl⟩)
        go_roundg (m - 1)
        case measure => omega
        case rel => exact ⟨k + 1, max acc l, by omega, by first | rfl | simp, by first | rfl | simp, by omega, by omega, HX2.out, rfl⟩
    · have hltn : ¬ ((k : Int) < (x.nf.length : Int)) := by omega
      have HX2 := Lib.hid (show acc + 1 = plevel L x by rw [← HL.out, List.drop_eq_nil_of_le (by omega)]; rfl)
      clear HL
      go_wp2
      go_ret
      exact ⟨ret_int HX2.out, HB.out.1⟩
end Go.Proofs.Ytchnpooijaalnaa
