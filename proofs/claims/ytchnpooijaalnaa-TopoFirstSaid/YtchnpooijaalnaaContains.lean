/- The contracts of slices.IndexFunc and slices.ContainsFunc at lists of structs: whether the predicate holds of some element, for whatever predicate that leaves old memory as it is (conditions: the slice reads as the list; the predicate's own contract at its elements). -/
import Derived.Test.YtchnpooijaalnaaLight
import Derived.Shelf.GgClosure.Gives
namespace Go.Proofs.Ytchnpooijaalnaa
open Go.ChangeShapes Go.WideShapes Go.RowKit
set_option linter.unusedVariables false

/-- Some place, or none, by whether there is one. -/
def Idx (b : Bool) (w : World) (e : Ending) (w' : World) : Prop := ∃ i : Int, e = .returned (.int .i64 i) ∧ decide (0 ≤ i) = b ∧ Below w.heap.size w w'
theorem any_yes {α : Type} {xs : List α} {k : Nat} {x : α} {p : α → Bool} (h : xs[k]? = some x) (hp : p x = true) : xs.any p = true := by
  rw [List.any_eq_true]
  exact ⟨x, mem_of_some h, hp⟩
theorem any_take {α : Type} {xs : List α} {k : Nat} {x : α} {p : α → Bool} (h : xs[k]? = some x) (ha : (xs.take k).any p = false) (hp : p x = false) : (xs.take (k + 1)).any p = false := by
  rw [take_some h, List.any_append, ha]; simp [hp]
theorem any_done {α : Type} {xs : List α} {k : Nat} {p : α → Bool} (hk : ¬ k < xs.length) (ha : (xs.take k).any p = false) : xs.any p = false := by
  rwa [List.take_of_length_le (by omega)] at ha

set_option maxHeartbeats 1000000 in
theorem index_latch (A : Option Addr) (cc : Nat) (xs : List PLatch) (p : PLatch → Bool) (g : Nat) (lb : Array Value) (eg : ∀ args w, (callFunc g args).run Try.prog w = .ok (.enter g args) w) (w : World) (hbig : xs.length ≤ 9223372036854775807)
    (h : Row w.heap.size 3 (LatchAt w) A xs) (hp : ∀ (W : World) (x : PLatch), x ∈ xs → Below w.heap.size w W → Calls Try.prog g (#[.agg #[.int .i64 x.lv, .int .i64 x.ln, .int .i64 x.li]] ++ lb) W fun e w' => e = .returned (.bool (p x)) ∧ Below W.heap.size W w') :
    Calls Try.prog 65 #[.slice A xs.length cc, .func (.func g) #[] lb] w (Idx (xs.any p) w) := by
  have H := Lib.hid (And.intro h hp)
  clear h hp
  go_enter Try.func65, Try.ntmps65
  go_wp2
  go_loopg [5, 8] xs.length (fun m _ s8 wx => ∃ k : Nat, k + m = xs.length ∧ s8 = .int .i64 k ∧ Aside ((xs.take k).any p = false ∧ Below w.heap.size w wx))
  case atStart => exact ⟨0, by omega, rfl, by simp, Below.refl _ _⟩
  case round =>
    obtain ⟨k, hk, rfl, HI⟩ := hrel
    generalize gk = m at *
    by_cases hlt : k < xs.length
    · obtain ⟨x, hx⟩ := some_of_lt hlt
      have HX := Lib.hid hx
      clear hx
      have hltI : (k : Int) < (xs.length : Int) := by omega
      have hp := H.out.2
      obtain ⟨b, o, rfl, hbg, hcell⟩ := H.out.1.at HX.out
      have HB := Lib.hid HI.out.2
      obtain ⟨m0, m1, m2⟩ := LatchAt.below HB.out (Nat.le_refl _) hbg (hcell k x HX.out)
      have hcall := Lib.hid (hp wr x (mem_of_some HX.out) HB.out)
      clear hp hcell
      cases hq : p x with
      | true =>
        have HN := Lib.hid (And.intro (any_yes HX.out hq) HI.out.2)
        rw [hq] at hcall
        clear hq
        go_wp2_with (go_at_fn g; refine hcall.out.mono ?_; rintro e w' ⟨rfl, hb'⟩)
        go_ret
        exact ⟨_, rfl, by rw [HN.out.1]; simp, HN.out.2.trans (hb'.mono HN.out.2.size)⟩
      | false =>
        have HN := Lib.hid (any_take HX.out HI.out.1 hq)
        rw [hq] at hcall
        clear hq
        go_wp2_with (go_at_fn g; refine hcall.out.mono ?_; rintro e w' ⟨rfl, hb'⟩)
        go_roundg (m - 1)
        case measure => omega
        case rel => exact ⟨k + 1, by omega, by first | rfl | simp, HN.out, HI.out.2.trans (hb'.mono HI.out.2.size)⟩
    · have hltn : ¬ ((k : Int) < (xs.length : Int)) := by omega
      have HN := Lib.hid (And.intro (any_done hlt HI.out.1) HI.out.2)
      clear HI
      go_wp2
      go_ret
      exact ⟨_, rfl, by rw [HN.out.1]; rfl, HN.out.2⟩

theorem contains_latch (A : Option Addr) (cc : Nat) (xs : List PLatch) (p : PLatch → Bool) (g : Nat) (lb : Array Value) (eg : ∀ args w, (callFunc g args).run Try.prog w = .ok (.enter g args) w) (w : World) (hbig : xs.length ≤ 9223372036854775807)
    (h : Row w.heap.size 3 (LatchAt w) A xs) (hp : ∀ (W : World) (x : PLatch), x ∈ xs → Below w.heap.size w W → Calls Try.prog g (#[.agg #[.int .i64 x.lv, .int .i64 x.ln, .int .i64 x.li]] ++ lb) W fun e w' => e = .returned (.bool (p x)) ∧ Below W.heap.size W w') :
    Calls Try.prog 40 #[.slice A xs.length cc, .func (.func g) #[] lb] w fun e w' => e = .returned (.bool (xs.any p)) ∧ Below w.heap.size w w' := by
  have H := Lib.hid (index_latch A cc xs p g lb eg w hbig h hp)
  clear h hp
  go_enter Try.func40, Try.ntmps40
  go_wp2_with fail
  refine H.out.mono ?_
  rintro e w' ⟨i, rfl, hi, hb⟩
  have HI := Lib.hid (And.intro hi hb)
  clear hi hb
  go_wp2
  go_ret
  exact ⟨ret_bool HI.out.1, HI.out.2⟩

set_option maxHeartbeats 1000000 in
theorem index_read (A : Option Addr) (cc : Nat) (xs : List PRead) (p : PRead → Bool) (g : Nat) (lb : Array Value) (eg : ∀ args w, (callFunc g args).run Try.prog w = .ok (.enter g args) w) (w : World) (hbig : xs.length ≤ 9223372036854775807)
    (h : Row w.heap.size 2 (ReadAt w w.heap.size) A xs) (hp : ∀ (W : World) (x : PRead) (a : Option Addr) (c : Nat) , x ∈ xs → Below w.heap.size w W → Src W w.heap.size a x.ra → Calls Try.prog g (#[.agg #[.int .i64 x.rv, .slice a x.ra.length c]] ++ lb) W fun e w' => e = .returned (.bool (p x)) ∧ Below W.heap.size W w') :
    Calls Try.prog 84 #[.slice A xs.length cc, .func (.func g) #[] lb] w (Idx (xs.any p) w) := by
  have H := Lib.hid (And.intro h hp)
  clear h hp
  go_enter Try.func84, Try.ntmps84
  go_wp2
  go_loopg [5, 8] xs.length (fun m _ s8 wx => ∃ k : Nat, k + m = xs.length ∧ s8 = .int .i64 k ∧ Aside ((xs.take k).any p = false ∧ Below w.heap.size w wx))
  case atStart => exact ⟨0, by omega, rfl, by simp, Below.refl _ _⟩
  case round =>
    obtain ⟨k, hk, rfl, HI⟩ := hrel
    generalize gk = m at *
    by_cases hlt : k < xs.length
    · obtain ⟨x, hx⟩ := some_of_lt hlt
      have HX := Lib.hid hx
      clear hx
      have hltI : (k : Int) < (xs.length : Int) := by omega
      have hp := H.out.2
      obtain ⟨b, o, rfl, hbg, hcell⟩ := H.out.1.at HX.out
      have HB := Lib.hid HI.out.2
      obtain ⟨a, c2, m0, m1, hP, _⟩ := ReadAt.below HB.out (Nat.le_refl _) hbg (hcell k x HX.out)
      have hcall := Lib.hid (hp wr x a c2 (mem_of_some HX.out) HB.out hP)
      clear hp hcell hP
      cases hq : p x with
      | true =>
        have HN := Lib.hid (And.intro (any_yes HX.out hq) HI.out.2)
        rw [hq] at hcall
        clear hq
        go_wp2_with (go_at_fn g; refine hcall.out.mono ?_; rintro e w' ⟨rfl, hb'⟩)
        go_ret
        exact ⟨_, rfl, by rw [HN.out.1]; simp, HN.out.2.trans (hb'.mono HN.out.2.size)⟩
      | false =>
        have HN := Lib.hid (any_take HX.out HI.out.1 hq)
        rw [hq] at hcall
        clear hq
        go_wp2_with (go_at_fn g; refine hcall.out.mono ?_; rintro e w' ⟨rfl, hb'⟩)
        go_roundg (m - 1)
        case measure => omega
        case rel => exact ⟨k + 1, by omega, by first | rfl | simp, HN.out, HI.out.2.trans (hb'.mono HI.out.2.size)⟩
    · have hltn : ¬ ((k : Int) < (xs.length : Int)) := by omega
      have HN := Lib.hid (And.intro (any_done hlt HI.out.1) HI.out.2)
      clear HI
      go_wp2
      go_ret
      exact ⟨_, rfl, by rw [HN.out.1]; rfl, HN.out.2⟩

theorem contains_read (A : Option Addr) (cc : Nat) (xs : List PRead) (p : PRead → Bool) (g : Nat) (lb : Array Value) (eg : ∀ args w, (callFunc g args).run Try.prog w = .ok (.enter g args) w) (w : World) (hbig : xs.length ≤ 9223372036854775807)
    (h : Row w.heap.size 2 (ReadAt w w.heap.size) A xs) (hp : ∀ (W : World) (x : PRead) (a : Option Addr) (c : Nat) , x ∈ xs → Below w.heap.size w W → Src W w.heap.size a x.ra → Calls Try.prog g (#[.agg #[.int .i64 x.rv, .slice a x.ra.length c]] ++ lb) W fun e w' => e = .returned (.bool (p x)) ∧ Below W.heap.size W w') :
    Calls Try.prog 63 #[.slice A xs.length cc, .func (.func g) #[] lb] w fun e w' => e = .returned (.bool (xs.any p)) ∧ Below w.heap.size w w' := by
  have H := Lib.hid (index_read A cc xs p g lb eg w hbig h hp)
  clear h hp
  go_enter Try.func63, Try.ntmps63
  go_wp2_with fail
  refine H.out.mono ?_
  rintro e w' ⟨i, rfl, hi, hb⟩
  have HI := Lib.hid (And.intro hi hb)
  clear hi hb
  go_wp2
  go_ret
  exact ⟨ret_bool HI.out.1, HI.out.2⟩

set_option maxHeartbeats 1000000 in
theorem index_write (A : Option Addr) (cc : Nat) (xs : List PWrite) (p : PWrite → Bool) (g : Nat) (lb : Array Value) (eg : ∀ args w, (callFunc g args).run Try.prog w = .ok (.enter g args) w) (w : World) (hbig : xs.length ≤ 9223372036854775807)
    (h : Row w.heap.size 3 (WriteAt w w.heap.size) A xs) (hp : ∀ (W : World) (x : PWrite) (a : Option Addr) (c : Nat) (a2 : Option Addr) (c2 : Nat) , x ∈ xs → Below w.heap.size w W → Src W w.heap.size a x.wa → Src W w.heap.size a2 x.wd → Calls Try.prog g (#[.agg #[.int .i64 x.wo, .slice a x.wa.length c, .slice a2 x.wd.length c2]] ++ lb) W fun e w' => e = .returned (.bool (p x)) ∧ Below W.heap.size W w') :
    Calls Try.prog 85 #[.slice A xs.length cc, .func (.func g) #[] lb] w (Idx (xs.any p) w) := by
  have H := Lib.hid (And.intro h hp)
  clear h hp
  go_enter Try.func85, Try.ntmps85
  go_wp2
  go_loopg [5, 8] xs.length (fun m _ s8 wx => ∃ k : Nat, k + m = xs.length ∧ s8 = .int .i64 k ∧ Aside ((xs.take k).any p = false ∧ Below w.heap.size w wx))
  case atStart => exact ⟨0, by omega, rfl, by simp, Below.refl _ _⟩
  case round =>
    obtain ⟨k, hk, rfl, HI⟩ := hrel
    generalize gk = m at *
    by_cases hlt : k < xs.length
    · obtain ⟨x, hx⟩ := some_of_lt hlt
      have HX := Lib.hid hx
      clear hx
      have hltI : (k : Int) < (xs.length : Int) := by omega
      have hp := H.out.2
      obtain ⟨b, o, rfl, hbg, hcell⟩ := H.out.1.at HX.out
      have HB := Lib.hid HI.out.2
      obtain ⟨a, c, a2, c2, m0, m1, m2, hP, hP2, _⟩ := WriteAt.below HB.out (Nat.le_refl _) hbg (hcell k x HX.out)
      have hcall := Lib.hid (hp wr x a c a2 c2 (mem_of_some HX.out) HB.out hP hP2)
      clear hp hcell hP hP2
      cases hq : p x with
      | true =>
        have HN := Lib.hid (And.intro (any_yes HX.out hq) HI.out.2)
        rw [hq] at hcall
        clear hq
        go_wp2_with (go_at_fn g; refine hcall.out.mono ?_; rintro e w' ⟨rfl, hb'⟩)
        go_ret
        exact ⟨_, rfl, by rw [HN.out.1]; simp, HN.out.2.trans (hb'.mono HN.out.2.size)⟩
      | false =>
        have HN := Lib.hid (any_take HX.out HI.out.1 hq)
        rw [hq] at hcall
        clear hq
        go_wp2_with (go_at_fn g; refine hcall.out.mono ?_; rintro e w' ⟨rfl, hb'⟩)
        go_roundg (m - 1)
        case measure => omega
        case rel => exact ⟨k + 1, by omega, by first | rfl | simp, HN.out, HI.out.2.trans (hb'.mono HI.out.2.size)⟩
    · have hltn : ¬ ((k : Int) < (xs.length : Int)) := by omega
      have HN := Lib.hid (And.intro (any_done hlt HI.out.1) HI.out.2)
      clear HI
      go_wp2
      go_ret
      exact ⟨_, rfl, by rw [HN.out.1]; rfl, HN.out.2⟩

theorem contains_write (A : Option Addr) (cc : Nat) (xs : List PWrite) (p : PWrite → Bool) (g : Nat) (lb : Array Value) (eg : ∀ args w, (callFunc g args).run Try.prog w = .ok (.enter g args) w) (w : World) (hbig : xs.length ≤ 9223372036854775807)
    (h : Row w.heap.size 3 (WriteAt w w.heap.size) A xs) (hp : ∀ (W : World) (x : PWrite) (a : Option Addr) (c : Nat) (a2 : Option Addr) (c2 : Nat) , x ∈ xs → Below w.heap.size w W → Src W w.heap.size a x.wa → Src W w.heap.size a2 x.wd → Calls Try.prog g (#[.agg #[.int .i64 x.wo, .slice a x.wa.length c, .slice a2 x.wd.length c2]] ++ lb) W fun e w' => e = .returned (.bool (p x)) ∧ Below W.heap.size W w') :
    Calls Try.prog 64 #[.slice A xs.length cc, .func (.func g) #[] lb] w fun e w' => e = .returned (.bool (xs.any p)) ∧ Below w.heap.size w w' := by
  have H := Lib.hid (index_write A cc xs p g lb eg w hbig h hp)
  clear h hp
  go_enter Try.func64, Try.ntmps64
  go_wp2_with fail
  refine H.out.mono ?_
  rintro e w' ⟨i, rfl, hi, hb⟩
  have HI := Lib.hid (And.intro hi hb)
  clear hi hb
  go_wp2
  go_ret
  exact ⟨ret_bool HI.out.1, HI.out.2⟩

set_option maxHeartbeats 1000000 in
theorem index_memory (A : Option Addr) (cc : Nat) (xs : List PMem) (p : PMem → Bool) (g : Nat) (lb : Array Value) (eg : ∀ args w, (callFunc g args).run Try.prog w = .ok (.enter g args) w) (w : World) (hbig : xs.length ≤ 9223372036854775807)
    (h : Row w.heap.size 5 (MemAt w w.heap.size) A xs) (hp : ∀ (W : World) (x : PMem) (a : Option Addr) (c : Nat) (a2 : Option Addr) (c2 : Nat) , x ∈ xs → Below w.heap.size w W → Ports W w.heap.size a c a2 c2 x → Calls Try.prog g (#[.agg #[.int .i64 x.ma, .int .i64 x.mw, .bool x.mn, .slice a x.mr.length c, .slice a2 x.mx.length c2]] ++ lb) W fun e w' => e = .returned (.bool (p x)) ∧ Below W.heap.size W w') :
    Calls Try.prog 60 #[.slice A xs.length cc, .func (.func g) #[] lb] w (Idx (xs.any p) w) := by
  have H := Lib.hid (And.intro h hp)
  clear h hp
  go_enter Try.func60, Try.ntmps60
  go_wp2
  go_loopg [5, 8] xs.length (fun m _ s8 wx => ∃ k : Nat, k + m = xs.length ∧ s8 = .int .i64 k ∧ Aside ((xs.take k).any p = false ∧ Below w.heap.size w wx))
  case atStart => exact ⟨0, by omega, rfl, by simp, Below.refl _ _⟩
  case round =>
    obtain ⟨k, hk, rfl, HI⟩ := hrel
    generalize gk = m at *
    by_cases hlt : k < xs.length
    · obtain ⟨x, hx⟩ := some_of_lt hlt
      have HX := Lib.hid hx
      clear hx
      have hltI : (k : Int) < (xs.length : Int) := by omega
      have hp := H.out.2
      obtain ⟨b, o, rfl, hbg, hcell⟩ := H.out.1.at HX.out
      have HB := Lib.hid HI.out.2
      obtain ⟨a, c, a2, c2, m0, m1, m2, m3, m4, hP⟩ := MemAt.below HB.out (Nat.le_refl _) hbg (hcell k x HX.out)
      have hcall := Lib.hid (hp wr x a c a2 c2 (mem_of_some HX.out) HB.out hP)
      clear hp hcell hP
      cases hq : p x with
      | true =>
        have HN := Lib.hid (And.intro (any_yes HX.out hq) HI.out.2)
        rw [hq] at hcall
        clear hq
        go_wp2_with (go_at_fn g; refine hcall.out.mono ?_; rintro e w' ⟨rfl, hb'⟩)
        go_ret
        exact ⟨_, rfl, by rw [HN.out.1]; simp, HN.out.2.trans (hb'.mono HN.out.2.size)⟩
      | false =>
        have HN := Lib.hid (any_take HX.out HI.out.1 hq)
        rw [hq] at hcall
        clear hq
        go_wp2_with (go_at_fn g; refine hcall.out.mono ?_; rintro e w' ⟨rfl, hb'⟩)
        go_roundg (m - 1)
        case measure => omega
        case rel => exact ⟨k + 1, by omega, by first | rfl | simp, HN.out, HI.out.2.trans (hb'.mono HI.out.2.size)⟩
    · have hltn : ¬ ((k : Int) < (xs.length : Int)) := by omega
      have HN := Lib.hid (And.intro (any_done hlt HI.out.1) HI.out.2)
      clear HI
      go_wp2
      go_ret
      exact ⟨_, rfl, by rw [HN.out.1]; rfl, HN.out.2⟩

theorem contains_memory (A : Option Addr) (cc : Nat) (xs : List PMem) (p : PMem → Bool) (g : Nat) (lb : Array Value) (eg : ∀ args w, (callFunc g args).run Try.prog w = .ok (.enter g args) w) (w : World) (hbig : xs.length ≤ 9223372036854775807)
    (h : Row w.heap.size 5 (MemAt w w.heap.size) A xs) (hp : ∀ (W : World) (x : PMem) (a : Option Addr) (c : Nat) (a2 : Option Addr) (c2 : Nat) , x ∈ xs → Below w.heap.size w W → Ports W w.heap.size a c a2 c2 x → Calls Try.prog g (#[.agg #[.int .i64 x.ma, .int .i64 x.mw, .bool x.mn, .slice a x.mr.length c, .slice a2 x.mx.length c2]] ++ lb) W fun e w' => e = .returned (.bool (p x)) ∧ Below W.heap.size W w') :
    Calls Try.prog 38 #[.slice A xs.length cc, .func (.func g) #[] lb] w fun e w' => e = .returned (.bool (xs.any p)) ∧ Below w.heap.size w w' := by
  have H := Lib.hid (index_memory A cc xs p g lb eg w hbig h hp)
  clear h hp
  go_enter Try.func38, Try.ntmps38
  go_wp2_with fail
  refine H.out.mono ?_
  rintro e w' ⟨i, rfl, hi, hb⟩
  have HI := Lib.hid (And.intro hi hb)
  clear hi hb
  go_wp2
  go_ret
  exact ⟨ret_bool HI.out.1, HI.out.2⟩
end Go.Proofs.Ytchnpooijaalnaa
