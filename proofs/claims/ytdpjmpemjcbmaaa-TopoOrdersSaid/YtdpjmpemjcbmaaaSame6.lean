/- Two slices that read as one list are the same (conditions: the cells hold the numbers; at most 1000000). -/
import Derived.Test.YtdpjmpemjcbmaaaRefTests
import Derived.Test.YtdpjmpemjcbmaaaApp
namespace Go.Proofs.Ytdpjmpemjcbmaaa
open Go.ChangeShapes Go.WideShapes Go.RowKit
set_option linter.unusedVariables false

set_option maxRecDepth 100000 in
theorem same6_any (xs : List Int) (A1 : Option Addr) (c1 : Nat) (A2 : Option Addr) (c2 : Nat) (w : World) (h1 : Src w w.heap.size A1 xs) (h2 : Src w w.heap.size A2 xs) (hn : xs.length ≤ 1000000) :
    Calls Try.prog 15 #[.slice A1 xs.length c1, .slice A2 xs.length c2] w fun e w' => e = .returned (.bool true) ∧ Below w.heap.size w w' := by
  have H1 := Lib.hid h1
  have H2 := Lib.hid h2
  clear h1 h2
  go_enter Try.func15, Try.ntmps15
  go_wp2
  go_loopg [5] xs.length (fun m s5 wx => ∃ k q : Nat, k + m = xs.length ∧ s5 = .int .i64 k ∧ wx = w.drewN q)
  case atStart => exact ⟨0, 0, by omega, rfl, rfl⟩
  case round =>
    obtain ⟨k, q, hk, rfl, rfl⟩ := hrel
    generalize gk = m at *
    by_cases hlt : k < xs.length
    · obtain ⟨x, hx⟩ := some_of_lt hlt
      obtain ⟨b1, o1, rfl, hb1, hc1⟩ := H1.out.at hx
      obtain ⟨b2, o2, rfl, hb2, hc2⟩ := H2.out.at hx
      have g1 := hc1 k x hx
      have g2 := hc2 k x hx
      have hltI : (k : Int) < (xs.length : Int) := by omega
      have hk0 : (0 : Int) ≤ (k : Int) := by omega
      clear hc1 hc2 hx
      go_wp2
      go_quiet (fail)
      go_wp2
      go_roundg (m - 1)
      case measure => omega
      case rel => exact ⟨k + 1, _, by omega, by first | rfl | simp, rfl⟩
    · have hltn : ¬ ((k : Int) < (xs.length : Int)) := by omega
      go_wp2
      go_ret
      exact ⟨rfl, below_drewN (Below.refl _ _) _⟩
end Go.Proofs.Ytdpjmpemjcbmaaa
