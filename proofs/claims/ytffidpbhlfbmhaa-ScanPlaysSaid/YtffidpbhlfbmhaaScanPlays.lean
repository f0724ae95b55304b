/- The statement ScanPlaysSaid is proved: for all bytes and all acts the law ScanPlays returns true and leaves its arguments as they were. No condition. -/
import Derived.Test.YtffidpbhlfbmhaaAct
import Derived.Deep.RegionHeld3
import Derived.ProofKit
import Derived.OpenShut
namespace Go.Proofs.Ytffidpbhlfbmhaa.scanPlays
open Go.ChangeShapes Go.WideShapes Go.RowKit
set_option linter.unusedVariables false
set_option linter.unusedSimpArgs false

theorem own : ownKnob Try.prog.godebug = none := by kernel_rfl

theorem walk_long (A : Option Addr) (c n : Nat) (A2 : Option Addr) (n2 c2 : Nat) (w : World) (hn : n ≤ 9223372036854775807) (hn2 : n2 ≤ 9223372036854775807) (h : 200 < n ∨ 60 < n2) :
    Calls Try.prog 3 #[.slice A n c, .slice A2 n2 c2] w fun e w' => e = .returned (.bool true) ∧ Below w.heap.size w w' := by
  have ha := Lib.hid alive_any
  by_cases h1 : 200 < n
  · have hI : (200 : Int) < (n : Int) := by omega
    clear h
    go_enter Try.func3, Try.ntmps3
    go_wp2_with fail
    refine (ha.out _).mono ?_
    rintro e wz ⟨rfl, hbz⟩
    have HZ := Lib.hid hbz
    clear hbz
    go_wp2_with fail
    go_ret
    exact ⟨rfl, HZ.out⟩
  · have hI : (n : Int) ≤ 200 := by omega
    have hI2 : (60 : Int) < (n2 : Int) := by omega
    clear h
    go_enter Try.func3, Try.ntmps3
    go_wp2_with fail
    refine (ha.out _).mono ?_
    rintro e wz ⟨rfl, hbz⟩
    have HZ := Lib.hid hbz
    clear hbz
    go_wp2_with fail
    go_ret
    exact ⟨rfl, HZ.out⟩

/-- The three cells of an act. -/
def Cells (W : World) (b o k : Nat) (kk : Int) (s : ByteArray) (mm : Int) : Prop :=
  W.cell? ⟨b, o + k * 3, none⟩ = some (.int .i64 kk) ∧ W.cell? ⟨b, o + k * 3 + 1, none⟩ = some (.string s) ∧ W.cell? ⟨b, o + k * 3 + 2, none⟩ = some (.int .i64 mm)
theorem Cells.below {w w' : World} {b o k B : Nat} {kk : Int} {s : ByteArray} {mm : Int} (h : Cells w b o k kk s mm) (hb : Below B w w') (hB : b < B) : Cells w' b o k kk s mm :=
  ⟨(hb.cell (p := ⟨b, o + k * 3, none⟩) hB).trans h.1, (hb.cell (p := ⟨b, o + k * 3 + 1, none⟩) hB).trans h.2.1, (hb.cell (p := ⟨b, o + k * 3 + 2, none⟩) hB).trans h.2.2⟩

/-- What is known where both readers stand at j: what the test of a round reads. -/
structure Facts (W : World) (r x B : Nat) (A : Option Addr) (c : Nat) (xs : List Int) (j : Nat) (l : List Int) (A3 : Option Addr) (T : ByteArray) : Prop where
  both : Both W r x B xs j
  eq : xs.drop j = l
  src : Src W B A3 l
  tl : ∀ U : World, (Instr.slice 22 (.slice A xs.length c) (some (.int .i64 (j : Int))) none none).run Try.prog U = .ok (.slice A3 l.length (c - j)) U
  txt : strOfNums l = T

theorem facts {W : World} {r x B c : Nat} {A : Option Addr} {xs : List Int} {j : Nat} (h : Both W r x B xs j) (hs : Src W B A xs) (hc : xs.length ≤ c) : ∃ l A3 T, Facts W r x B A c xs j l A3 T := by
  refine ⟨xs.drop j, taddr A c j, _, h, rfl, hs.tail hc j, fun U => ?_, rfl⟩
  rw [run_tail U A xs.length c j h.st.2.2, List.length_drop]

theorem Facts.sum {W : World} {r x B c : Nat} {A : Option Addr} {xs : List Int} {j : Nat} {l : List Int} {A3 : Option Addr} {T : ByteArray} (h : Facts W r x B A c xs j l A3 T) : (l.length : Int) = (xs.length : Int) - (j : Int) ∧ (j : Int) ≤ (xs.length : Int) := by
  have h1 := h.both.st.2.2
  have h2 := congrArg List.length h.eq
  rw [List.length_drop] at h2
  omega
theorem Facts.rd {W : World} {r x B c : Nat} {A : Option Addr} {xs : List Int} {j : Nat} {l : List Int} {A3 : Option Addr} {T : ByteArray} (h : Facts W r x B A c xs j l A3 T) : Rd W r l j := by
  have := h.both.st.1
  rw [h.eq] at this
  exact this
theorem Facts.conv {W : World} {r x B c : Nat} {A : Option Addr} {xs : List Int} {j : Nat} {l : List Int} {A3 : Option Addr} {T : ByteArray} (h : Facts W r x B A c xs j l A3 T) : (convert 22 9 (.slice A3 l.length (c - j))).run Try.prog W = .ok (.string T) W := by
  rw [conv_src h.src, h.txt]
theorem Facts.cell {W : World} {r x B c : Nat} {A : Option Addr} {xs : List Int} {j : Nat} {l : List Int} {A3 : Option Addr} {T : ByteArray} (h : Facts W r x B A c xs j l A3 T) : W.cell? ⟨x, 1, none⟩ = some (.int .i64 j) := by
  obtain ⟨_, _, _, h2, _⟩ := h.both.rf.cells
  exact h2
theorem Facts.below {W W' : World} {r x B c : Nat} {A : Option Addr} {xs : List Int} {j : Nat} {l : List Int} {A3 : Option Addr} {T : ByteArray} (h : Facts W r x B A c xs j l A3 T) (hb : Below W.heap.size W W') : Facts W' r x B A c xs j l A3 T := by
  have hx := h.both.rf.lt
  have h1 := h.both.rx
  have h2 := h.both.Br
  exact ⟨⟨⟨h.both.st.1.below hb, h.both.st.2.1, h.both.st.2.2⟩, h.both.rf.below hb (by omega), h1, h2⟩, h.eq, h.src.keep (r := W.heap.size) (fun k hk _ => hb.block k hk) hb.size (by omega), h.tl, h.txt⟩

/-- What the test of a round reads behind act. -/
def Known (W : World) (b2 o2 k : Nat) (kk : Int) (s : ByteArray) (mm : Int) (x : Nat) (A3 : Option Addr) (l : List Int) (c' j : Nat) (T : ByteArray) : Prop :=
  Cells W b2 o2 k kk s mm ∧ W.cell? ⟨x, 1, none⟩ = some (.int .i64 j) ∧ (convert 22 9 (.slice A3 l.length c')).run Try.prog W = .ok (.string T) W

theorem wpAnyH_turn {P : Program} {ops : Array Oper} {Q : Exit → Act → World → Prop} {md : Region.Mode} {S S' : World → Prop} (hSS : ∀ w, S' w → S w) : ∀ (fuel : Nat) (listed : Array Bool) (a : Act) (w : World), wpAnyH P md ops Q S' fuel listed a w → wpAnyH P md ops Q S fuel listed a w
  | 0, _, _, _, h => h
  | fuel + 1, _, _, _, h => ⟨h.1, fun i hi => wpOp_mono (fun _ _ h' => ⟨hSS _ h'.1, wpAnyH_turn hSS fuel _ _ _ h'.2⟩) (h.2 i hi)⟩

set_option maxRecDepth 20000 in
set_option maxHeartbeats 8000000 in
theorem walk_full (A : Option Addr) (c : Nat) (xs : List Int) (A2 : Option Addr) (n2 c2 : Nat) (w : World) (hn : xs.length ≤ 200) (hn2 : n2 ≤ 60) (hB : Bytes w A c xs) (hbt : ∀ x ∈ xs, 0 ≤ x ∧ x < 256) (hA : Acts w A2 n2) :
    Calls Try.prog 3 #[.slice A xs.length c, .slice A2 n2 c2] w fun e w' => e = .returned (.bool true) ∧ Below w.heap.size w w' := by
  have ha := Lib.hid alive_any
  have hnew := Lib.hid (new_any A c xs w (by omega) hB)
  have HA := Lib.hid hA
  have HT := Lib.hid hbt
  have HS := Lib.hid hB.src
  have hI : (xs.length : Int) ≤ 200 := by omega
  have hI0 : (0 : Int) ≤ (xs.length : Int) := by omega
  have hI2 : (n2 : Int) ≤ 60 := by omega
  have hI3 : ¬ ((200 : Int) < (xs.length : Int)) := by omega
  clear hB hA hbt
  go_enter Try.func3, Try.ntmps3
  go_wp2_with fail
  refine hnew.out.mono ?_
  rintro e w1 ⟨r, rfl, hrw, hR, hb1⟩
  have hrl : r < w1.heap.size := by obtain ⟨_, _, h, _⟩ := hR; exact lt_of_row h
  have hSX : Both (w1.alloc (.cells #[.slice A xs.length c, .int .i64 0] 29)) r w1.heap.size w.heap.size xs 0 := by
    refine ⟨⟨hR.below ((Below.refl _ _).alloc (Nat.le_refl _) _), rfl, by omega⟩, ⟨A, c, by rw [heap_alloc_new]; rfl, hn, by omega, ?_⟩, hrl, hrw⟩
    exact (HS.out.1.keep (r := w.heap.size) (fun k hk _ => hb1.block k hk) hb1.size (Nat.le_refl _)).keep (r := w1.heap.size) (fun k hk _ => Below.heap_alloc _ _ _ hk) (by simp) hb1.size
  have SX := Lib.hid (And.intro hSX (hb1.alloc hb1.size (.cells #[.slice A xs.length c, .int .i64 0] 29)))
  have hx0 := hb1.size
  clear hR hb1 hSX
  go_wp2_with fail
  generalize w1.alloc (.cells #[.slice A xs.length c, .int .i64 0] 29) = wx at SX ⊢
  generalize w1.heap.size = x at *
  go_loopg [7] n2 (fun m s7 wx => ∃ (k j : Nat), k + m = n2 ∧ s7 = .int .i64 k ∧ Aside (Both wx r x w.heap.size xs j ∧ Below w.heap.size w wx))
  case atStart => exact ⟨0, 0, by omega, rfl, SX.out⟩
  case round =>
    obtain ⟨k, j, hk, rfl, HI⟩ := hrel
    have SI : Hid (Both wr r x w.heap.size xs j ∧ Below w.heap.size w wr) := Lib.hid HI
    clear HI
    generalize gk = m at *
    have hk0 : (0 : Int) ≤ (k : Int) := by omega
    by_cases hlt : k < n2
    · obtain ⟨b2, o2, rfl, hb2, hact⟩ := HA.out (by omega)
      obtain ⟨kk, s, mm, g0, g1, g2, gs, gm1, gm2⟩ := hact k hlt
      have hC0 : Cells w b2 o2 k kk s mm := ⟨g0, g1, g2⟩
      have hC := hC0.below SI.out.2 hb2
      obtain ⟨c0, c1, c2⟩ := hC
      have hkI : (k : Int) < (n2 : Int) := by omega
      clear g0 g1 g2 hact
      by_cases hs : 60 < s.size
      · have hsI : (60 : Int) < (s.size : Int) := by omega
        go_wp2_with fail
        refine (ha.out _).mono ?_
        rintro e wz ⟨rfl, hbz⟩
        have HZ := Lib.hid hbz
        clear hbz
        go_wp2_with fail
        go_ret
        exact ⟨rfl, SI.out.2.trans (HZ.out.mono SI.out.2.size)⟩
      · have hsI : (s.size : Int) ≤ 60 := by omega
        have hsI0 : (0 : Int) ≤ (s.size : Int) := by omega
        have hBD : Both wr.drew r x w.heap.size xs j := by
          have h := SI.out.1
          have hb : Below wr.heap.size wr wr.drew := (Below.refl _ wr).drew
          exact ⟨⟨h.st.1.below hb, h.st.2.1, h.st.2.2⟩, h.rf.below hb (by have := h.rf.lt; have := h.rx; have := h.Br; omega), h.rx, h.Br⟩
        have HACT := Lib.hid (act_any r x w.heap.size j xs kk s mm wr.drew hBD (by omega) gm1 gm2 hn HT.out)
        have hbl : Below w.heap.size w wr.drew := SI.out.2.drew
        have HBL := Lib.hid hbl
        have hS1 : Hid (∀ w1, Below w.heap.size w w1 → Src w1 w.heap.size A xs) := Lib.hid (fun w1 hb => HS.out.1.keep (r := w.heap.size) (fun k hk _ => hb.block k hk) hb.size (Nat.le_refl _))
        have KS : Hid (Cells wr.drew b2 o2 k kk s mm) := Lib.hid (hC0.below hbl hb2)
        have HC0 := Lib.hid hC0
        have hxs : Hid (w.heap.size ≤ x) := Lib.hid (by have := SI.out.1.rx; have := SI.out.1.Br; omega)
        clear hBD hbl hC0
        go_wp2_with fail
        refine wp_region_held_drew (S := fun W => Cells W b2 o2 k kk s mm) (by kernel_rfl) KS.out (fun hHeld => ?_)
        refine wpAnyH_take (i := 0) (oi := ⟨_, _, _, _, _, _⟩) (v := ?_) rfl (by kernel_rfl) (by kernel_rfl) (by kernel_rfl) (fun _ _ _ h => h) (Or.inl ⟨by rfl, ?_⟩) (by assumption) ?_
        rotate_left
        · intro W hSw
          obtain ⟨q0, q1, q2⟩ := hSw
          go_simp <;> with_reducible rfl
        try simp only [Act.put, List.setIfInBounds_toArray, List.set_cons_zero, List.set_cons_succ]
        refine wpAnyH_take (i := 1) (oi := ⟨_, _, _, _, _, _⟩) (v := ?_) rfl (by kernel_rfl) (by kernel_rfl) (by kernel_rfl) (fun _ _ _ h => h) (Or.inl ⟨by rfl, ?_⟩) (by assumption) ?_
        rotate_left
        · intro W hSw
          obtain ⟨q0, q1, q2⟩ := hSw
          go_simp <;> with_reducible rfl
        try simp only [Act.put, List.setIfInBounds_toArray, List.set_cons_zero, List.set_cons_succ]
        refine wpAnyH_take (i := 2) (oi := ⟨_, _, _, _, _, _⟩) (v := ?_) rfl (by kernel_rfl) (by kernel_rfl) (by kernel_rfl) (fun _ _ _ h => h) (Or.inl ⟨by rfl, ?_⟩) (by assumption) ?_
        rotate_left
        · intro W hSw
          obtain ⟨q0, q1, q2⟩ := hSw
          go_simp <;> with_reducible rfl
        try simp only [Act.put, List.setIfInBounds_toArray, List.set_cons_zero, List.set_cons_succ]
        refine wpAnyH_take (i := 3) (oi := ⟨_, _, _, _, _, _⟩) (v := ?_) rfl (by kernel_rfl) (by kernel_rfl) (by kernel_rfl) (fun _ _ _ h => h) (Or.inl ⟨by rfl, ?_⟩) (by assumption) ?_
        rotate_left
        · intro W hSw
          obtain ⟨q0, q1, q2⟩ := hSw
          go_simp <;> with_reducible rfl
        try simp only [Act.put, List.setIfInBounds_toArray, List.set_cons_zero, List.set_cons_succ]
        refine wpAnyH_take (i := 4) (oi := ⟨_, _, _, _, _, _⟩) (v := ?_) rfl (by kernel_rfl) (by kernel_rfl) (by kernel_rfl) (fun _ _ _ h => h) (Or.inl ⟨by rfl, ?_⟩) (by assumption) ?_
        rotate_left
        · intro W hSw
          obtain ⟨q0, q1, q2⟩ := hSw
          go_simp <;> with_reducible rfl
        try simp only [Act.put, List.setIfInBounds_toArray, List.set_cons_zero, List.set_cons_succ]
        refine wpAnyH_take (i := 5) (oi := ⟨_, _, _, _, _, _⟩) (v := ?_) rfl (by kernel_rfl) (by kernel_rfl) (by kernel_rfl) (fun _ _ _ h => h) (Or.inl ⟨by rfl, ?_⟩) (by assumption) ?_
        rotate_left
        · intro W hSw
          obtain ⟨q0, q1, q2⟩ := hSw
          go_simp <;> with_reducible rfl
        try simp only [Act.put, List.setIfInBounds_toArray, List.set_cons_zero, List.set_cons_succ]
        refine wpAnyH_ready (rs := [6]) (by kernel_rfl) (by simp) ?_
        refine AllReadyH.cons (o := ⟨_, _, _, _, _, _⟩) rfl (fun K hK => ?_) AllReadyH.nil
        have HK := Lib.hid hK
        clear hK hHeld
        go_simp
        refine (HACT.out).mono ?_
        rintro e w1 ⟨rfl, j2, hB2, hD2⟩
        have hb1 : Below w.heap.size w w1 := HBL.out.trans (hD2.below HBL.out.size hrw hxs.out)
        have K1 := Lib.hid (HC0.out.below hb1 hb2)
        obtain ⟨l, A3, T, hF⟩ := facts hB2 (hS1.out w1 hb1) HS.out.2
        have kT := hF.tl
        obtain ⟨hs1, hs2⟩ := hF.sum
        have hj20 : (0 : Int) ≤ (j2 : Int) := by omega
        have hwr : IntKind.i64.wrap ((xs.length : Int) - (j2 : Int)) = (l.length : Int) := by rw [IntKind.wrap_i64]; omega
        have hKn : Known w1 b2 o2 k kk s mm x A3 l (c - j2) j2 T := ⟨K1.out, hF.cell, hF.conv⟩
        have G1 := Lib.hid (And.intro hF hb1)
        clear hB2 hD2 hb1 hF
        refine HK.out.out _ _ K1.out (fun _ => wpAnyH_turn (S' := fun W => Known W b2 o2 k kk s mm x A3 l (c - j2) j2 T) (fun _ h => h.1) _ _ _ _ ?_)
        clear HK K
        refine wpAnyH_take (i := 7) (oi := ⟨_, _, _, _, _, _⟩) (v := ?_) rfl (by kernel_rfl) (by kernel_rfl) (by kernel_rfl) (fun _ _ _ h => h) (Or.inl ⟨by rfl, ?_⟩) (by assumption) ?_
        rotate_left
        · intro W hSw
          obtain ⟨q0, kI, kC⟩ := hSw
          go_simp <;> with_reducible rfl
        try simp only [Act.put, List.setIfInBounds_toArray, List.set_cons_zero, List.set_cons_succ]
        refine wpAnyH_take (i := 8) (oi := ⟨_, _, _, _, _, _⟩) (v := ?_) rfl (by kernel_rfl) (by kernel_rfl) (by kernel_rfl) (fun _ _ _ h => h) (Or.inl ⟨by rfl, ?_⟩) (by assumption) ?_
        rotate_left
        · intro W hSw
          obtain ⟨q0, kI, kC⟩ := hSw
          go_simp <;> with_reducible rfl
        try simp only [Act.put, List.setIfInBounds_toArray, List.set_cons_zero, List.set_cons_succ]
        refine wpAnyH_take (i := 9) (oi := ⟨_, _, _, _, _, _⟩) (v := ?_) rfl (by kernel_rfl) (by kernel_rfl) (by kernel_rfl) (fun _ _ _ h => h) (Or.inl ⟨by rfl, ?_⟩) (by assumption) ?_
        rotate_left
        · intro W hSw
          obtain ⟨q0, kI, kC⟩ := hSw
          go_simp <;> with_reducible rfl
        try simp only [Act.put, List.setIfInBounds_toArray, List.set_cons_zero, List.set_cons_succ]
        refine wpAnyH_take (i := 11) (oi := ⟨_, _, _, _, _, _⟩) (v := ?_) rfl (by kernel_rfl) (by kernel_rfl) (by kernel_rfl) (fun _ _ _ h => h) (Or.inl ⟨by rfl, ?_⟩) (by assumption) ?_
        rotate_left
        · intro W hSw
          obtain ⟨q0, kI, kC⟩ := hSw
          go_simp <;> with_reducible rfl
        try simp only [Act.put, List.setIfInBounds_toArray, List.set_cons_zero, List.set_cons_succ]
        refine wpAnyH_take (i := 12) (oi := ⟨_, _, _, _, _, _⟩) (v := ?_) rfl (by kernel_rfl) (by kernel_rfl) (by kernel_rfl) (fun _ _ _ h => h) (Or.inl ⟨by rfl, ?_⟩) (by assumption) ?_
        rotate_left
        · intro W hSw
          obtain ⟨q0, kI, kC⟩ := hSw
          go_simp <;> with_reducible rfl
        try simp only [Act.put, List.setIfInBounds_toArray, List.set_cons_zero, List.set_cons_succ]
        refine wpAnyH_take (i := 13) (oi := ⟨_, _, _, _, _, _⟩) (v := ?_) rfl (by kernel_rfl) (by kernel_rfl) (by kernel_rfl) (fun _ _ _ h => h) (Or.inl ⟨by rfl, ?_⟩) (by assumption) ?_
        rotate_left
        · intro W hSw
          obtain ⟨q0, kI, kC⟩ := hSw
          go_simp <;> with_reducible rfl
        try simp only [Act.put, List.setIfInBounds_toArray, List.set_cons_zero, List.set_cons_succ]
        refine wpAnyH_take (i := 14) (oi := ⟨_, _, _, _, _, _⟩) (v := ?_) rfl (by kernel_rfl) (by kernel_rfl) (by kernel_rfl) (fun _ _ _ h => h) (Or.inl ⟨by rfl, ?_⟩) (by assumption) ?_
        rotate_left
        · intro W hSw
          obtain ⟨q0, kI, kC⟩ := hSw
          go_simp <;> with_reducible rfl
        try simp only [Act.put, List.setIfInBounds_toArray, List.set_cons_zero, List.set_cons_succ]
        refine wpAnyH_ready (rs := [10]) (by kernel_rfl) (by simp) ?_
        refine AllReadyH.cons (o := ⟨_, _, _, _, _, _⟩) rfl (fun K hK => ?_) AllReadyH.nil
        have HK := Lib.hid hK
        clear hK
        go_simp
        refine (at_any r l j2 _ G1.out.1.rd).mono ?_
        rintro e w9 ⟨rfl, rfl⟩
        refine HK.out.out _ _ hKn (fun _ => ?_)
        clear HK K
        try simp only [Act.put, List.setIfInBounds_toArray, List.set_cons_zero, List.set_cons_succ]
        refine wpAnyH_take (i := 15) (oi := ⟨_, _, _, _, _, _⟩) (v := ?_) rfl (by kernel_rfl) (by kernel_rfl) (by kernel_rfl) (fun _ _ _ h => h) (Or.inl ⟨by rfl, ?_⟩) (by assumption) ?_
        rotate_left
        · intro W hSw
          obtain ⟨q0, kI, kC⟩ := hSw
          go_simp <;> with_reducible rfl
        try simp only [Act.put, List.setIfInBounds_toArray, List.set_cons_zero, List.set_cons_succ]
        refine wpAnyH_take (i := 16) (oi := ⟨_, _, _, _, _, _⟩) (v := ?_) rfl (by kernel_rfl) (by kernel_rfl) (by kernel_rfl) (fun _ _ _ h => h) (Or.inl ⟨by rfl, ?_⟩) (by assumption) ?_
        rotate_left
        · intro W hSw
          obtain ⟨q0, kI, kC⟩ := hSw
          go_simp <;> with_reducible rfl
        try simp only [Act.put, List.setIfInBounds_toArray, List.set_cons_zero, List.set_cons_succ]
        refine wpAnyH_take (i := 17) (oi := ⟨_, _, _, _, _, _⟩) (v := ?_) rfl (by kernel_rfl) (by kernel_rfl) (by kernel_rfl) (fun _ _ _ h => h) (Or.inl ⟨by rfl, ?_⟩) (by assumption) ?_
        rotate_left
        · intro W hSw
          obtain ⟨q0, kI, kC⟩ := hSw
          go_simp <;> with_reducible rfl
        try simp only [Act.put, List.setIfInBounds_toArray, List.set_cons_zero, List.set_cons_succ]
        refine wpAnyH_take (i := 18) (oi := ⟨_, _, _, _, _, _⟩) (v := ?_) rfl (by kernel_rfl) (by kernel_rfl) (by kernel_rfl) (fun _ _ _ h => h) (Or.inl ⟨by rfl, ?_⟩) (by assumption) ?_
        rotate_left
        · intro W hSw
          obtain ⟨q0, kI, kC⟩ := hSw
          go_simp <;> with_reducible rfl
        try simp only [Act.put, List.setIfInBounds_toArray, List.set_cons_zero, List.set_cons_succ]
        refine wpAnyH_take (i := 20) (oi := ⟨_, _, _, _, _, _⟩) (v := ?_) rfl (by kernel_rfl) (by kernel_rfl) (by kernel_rfl) (fun _ _ _ h => h) (Or.inl ⟨by rfl, ?_⟩) (by assumption) ?_
        rotate_left
        · intro W hSw
          obtain ⟨q0, kI, kC⟩ := hSw
          go_simp <;> with_reducible rfl
        try simp only [Act.put, List.setIfInBounds_toArray, List.set_cons_zero, List.set_cons_succ]
        refine wpAnyH_take (i := 21) (oi := ⟨_, _, _, _, _, _⟩) (v := ?_) rfl (by kernel_rfl) (by kernel_rfl) (by kernel_rfl) (fun _ _ _ h => h) (Or.inl ⟨by rfl, ?_⟩) (by assumption) ?_
        rotate_left
        · intro W hSw
          obtain ⟨q0, kI, kC⟩ := hSw
          go_simp <;> with_reducible rfl
        try simp only [Act.put, List.setIfInBounds_toArray, List.set_cons_zero, List.set_cons_succ]
        refine wpAnyH_take (i := 22) (oi := ⟨_, _, _, _, _, _⟩) (v := ?_) rfl (by kernel_rfl) (by kernel_rfl) (by kernel_rfl) (fun _ _ _ h => h) (Or.inl ⟨by rfl, ?_⟩) (by assumption) ?_
        rotate_left
        · intro W hSw
          obtain ⟨q0, kI, kC⟩ := hSw
          go_simp <;> with_reducible rfl
        try simp only [Act.put, List.setIfInBounds_toArray, List.set_cons_zero, List.set_cons_succ]
        refine wpAnyH_take (i := 23) (oi := ⟨_, _, _, _, _, _⟩) (v := ?_) rfl (by kernel_rfl) (by kernel_rfl) (by kernel_rfl) (fun _ _ _ h => h) (Or.inl ⟨by rfl, ?_⟩) (by assumption) ?_
        rotate_left
        · intro W hSw
          obtain ⟨q0, kI, kC⟩ := hSw
          go_simp <;> with_reducible rfl
        try simp only [Act.put, List.setIfInBounds_toArray, List.set_cons_zero, List.set_cons_succ]
        refine wpAnyH_take (i := 24) (oi := ⟨_, _, _, _, _, _⟩) (v := ?_) rfl (by kernel_rfl) (by kernel_rfl) (by kernel_rfl) (fun _ _ _ h => h) (Or.inl ⟨by rfl, ?_⟩) (by assumption) ?_
        rotate_left
        · intro W hSw
          obtain ⟨q0, kI, kC⟩ := hSw
          go_simp <;> with_reducible rfl
        try simp only [Act.put, List.setIfInBounds_toArray, List.set_cons_zero, List.set_cons_succ]
        refine wpAnyH_take (i := 25) (oi := ⟨_, _, _, _, _, _⟩) (v := ?_) rfl (by kernel_rfl) (by kernel_rfl) (by kernel_rfl) (fun _ _ _ h => h) (Or.inl ⟨by rfl, ?_⟩) (by assumption) ?_
        rotate_left
        · intro W hSw
          obtain ⟨q0, kI, kC⟩ := hSw
          go_simp <;> with_reducible rfl
        try simp only [Act.put, List.setIfInBounds_toArray, List.set_cons_zero, List.set_cons_succ]
        refine wpAnyH_take (i := 26) (oi := ⟨_, _, _, _, _, _⟩) (v := ?_) rfl (by kernel_rfl) (by kernel_rfl) (by kernel_rfl) (fun _ _ _ h => h) (Or.inl ⟨by rfl, ?_⟩) (by assumption) ?_
        rotate_left
        · intro W hSw
          obtain ⟨q0, kI, kC⟩ := hSw
          go_simp <;> with_reducible rfl
        try simp only [Act.put, List.setIfInBounds_toArray, List.set_cons_zero, List.set_cons_succ]
        refine wpAnyH_ready (rs := [19]) (by kernel_rfl) (by simp) ?_
        refine AllReadyH.cons (o := ⟨_, _, _, _, _, _⟩) rfl (fun K hK => ?_) AllReadyH.nil
        have HK := Lib.hid hK
        clear hK
        go_simp
        refine (left_any r l j2 _ G1.out.1.rd).mono ?_
        rintro e w9 ⟨rfl, rfl⟩
        refine HK.out.out _ _ hKn (fun _ => ?_)
        clear HK K
        try simp only [Act.put, List.setIfInBounds_toArray, List.set_cons_zero, List.set_cons_succ]
        refine wpAnyH_take (i := 27) (oi := ⟨_, _, _, _, _, _⟩) (v := ?_) rfl (by kernel_rfl) (by kernel_rfl) (by kernel_rfl) (fun _ _ _ h => h) (Or.inl ⟨by rfl, ?_⟩) (by assumption) ?_
        rotate_left
        · intro W hSw
          obtain ⟨q0, kI, kC⟩ := hSw
          go_simp <;> with_reducible rfl
        try simp only [Act.put, List.setIfInBounds_toArray, List.set_cons_zero, List.set_cons_succ]
        refine wpAnyH_take (i := 28) (oi := ⟨_, _, _, _, _, _⟩) (v := ?_) rfl (by kernel_rfl) (by kernel_rfl) (by kernel_rfl) (fun _ _ _ h => h) (Or.inl ⟨by rfl, ?_⟩) (by assumption) ?_
        rotate_left
        · intro W hSw
          obtain ⟨q0, kI, kC⟩ := hSw
          go_simp <;> with_reducible rfl
        try simp only [Act.put, List.setIfInBounds_toArray, List.set_cons_zero, List.set_cons_succ]
        refine wpAnyH_take (i := 29) (oi := ⟨_, _, _, _, _, _⟩) (v := ?_) rfl (by kernel_rfl) (by kernel_rfl) (by kernel_rfl) (fun _ _ _ h => h) (Or.inl ⟨by rfl, ?_⟩) (by assumption) ?_
        rotate_left
        · intro W hSw
          obtain ⟨q0, kI, kC⟩ := hSw
          go_simp <;> with_reducible rfl
        try simp only [Act.put, List.setIfInBounds_toArray, List.set_cons_zero, List.set_cons_succ]
        refine wpAnyH_take (i := 30) (oi := ⟨_, _, _, _, _, _⟩) (v := ?_) rfl (by kernel_rfl) (by kernel_rfl) (by kernel_rfl) (fun _ _ _ h => h) (Or.inl ⟨by rfl, ?_⟩) (by assumption) ?_
        rotate_left
        · intro W hSw
          obtain ⟨q0, kI, kC⟩ := hSw
          go_simp <;> with_reducible rfl
        try simp only [Act.put, List.setIfInBounds_toArray, List.set_cons_zero, List.set_cons_succ]
        refine wpAnyH_take (i := 33) (oi := ⟨_, _, _, _, _, _⟩) (v := ?_) rfl (by kernel_rfl) (by kernel_rfl) (by kernel_rfl) (fun _ _ _ h => h) (Or.inl ⟨by rfl, ?_⟩) (by assumption) ?_
        rotate_left
        · intro W hSw
          obtain ⟨q0, kI, kC⟩ := hSw
          go_simp <;> with_reducible rfl
        try simp only [Act.put, List.setIfInBounds_toArray, List.set_cons_zero, List.set_cons_succ]
        refine wpAnyH_take (i := 34) (oi := ⟨_, _, _, _, _, _⟩) (v := ?_) rfl (by kernel_rfl) (by kernel_rfl) (by kernel_rfl) (fun _ _ _ h => h) (Or.inl ⟨by rfl, ?_⟩) (by assumption) ?_
        rotate_left
        · intro W hSw
          obtain ⟨q0, kI, kC⟩ := hSw
          go_simp <;> with_reducible rfl
        try simp only [Act.put, List.setIfInBounds_toArray, List.set_cons_zero, List.set_cons_succ]
        refine wpAnyH_take (i := 35) (oi := ⟨_, _, _, _, _, _⟩) (v := ?_) rfl (by kernel_rfl) (by kernel_rfl) (by kernel_rfl) (fun _ _ _ h => h) (Or.inl ⟨by rfl, ?_⟩) (by assumption) ?_
        rotate_left
        · intro W hSw
          obtain ⟨q0, kI, kC⟩ := hSw
          go_simp <;> with_reducible rfl
        try simp only [Act.put, List.setIfInBounds_toArray, List.set_cons_zero, List.set_cons_succ]
        refine wpAnyH_take (i := 36) (oi := ⟨_, _, _, _, _, _⟩) (v := ?_) rfl (by kernel_rfl) (by kernel_rfl) (by kernel_rfl) (fun _ _ _ h => h) (Or.inl ⟨by rfl, ?_⟩) (by assumption) ?_
        rotate_left
        · intro W hSw
          obtain ⟨q0, kI, kC⟩ := hSw
          go_simp <;> with_reducible rfl
        try simp only [Act.put, List.setIfInBounds_toArray, List.set_cons_zero, List.set_cons_succ]
        refine wpAnyH_take (i := 37) (oi := ⟨_, _, _, _, _, _⟩) (v := ?_) rfl (by kernel_rfl) (by kernel_rfl) (by kernel_rfl) (fun _ _ _ h => h) (Or.inl ⟨by rfl, ?_⟩) (by assumption) ?_
        rotate_left
        · intro W hSw
          obtain ⟨q0, kI, kC⟩ := hSw
          go_simp <;> with_reducible rfl
        try simp only [Act.put, List.setIfInBounds_toArray, List.set_cons_zero, List.set_cons_succ]
        refine wpAnyH_take (i := 38) (oi := ⟨_, _, _, _, _, _⟩) (v := ?_) rfl (by kernel_rfl) (by kernel_rfl) (by kernel_rfl) (fun _ _ _ h => h) (Or.inl ⟨by rfl, ?_⟩) (by assumption) ?_
        rotate_left
        · intro W hSw
          obtain ⟨q0, kI, kC⟩ := hSw
          go_simp <;> with_reducible rfl
        try simp only [Act.put, List.setIfInBounds_toArray, List.set_cons_zero, List.set_cons_succ]
        refine wpAnyH_take (i := 39) (oi := ⟨_, _, _, _, _, _⟩) (v := ?_) rfl (by kernel_rfl) (by kernel_rfl) (by kernel_rfl) (fun _ _ _ h => h) (Or.inl ⟨by rfl, ?_⟩) (by assumption) ?_
        rotate_left
        · intro W hSw
          obtain ⟨q0, kI, kC⟩ := hSw
          go_simp <;> with_reducible rfl
        try simp only [Act.put, List.setIfInBounds_toArray, List.set_cons_zero, List.set_cons_succ]
        refine wpAnyH_ready (rs := [31]) (by kernel_rfl) (by simp) ?_
        refine AllReadyH.cons (o := ⟨_, _, _, _, _, _⟩) rfl (fun K hK => ?_) AllReadyH.nil
        have HK := Lib.hid hK
        clear hK
        go_simp
        refine (rest_any r j2 l _ G1.out.1.rd).mono ?_
        rintro e w2 ⟨a4, c4, rfl, hs4, hb4⟩
        have kV : (convert 22 9 (.slice a4 l.length c4)).run Try.prog w2 = .ok (.string T) w2 := by rw [conv_src hs4, G1.out.1.txt]
        have hF2 := G1.out.1.below hb4
        have hbz := G1.out.2.trans (hb4.mono G1.out.2.size)
        have hKn2 : Known w2 b2 o2 k kk s mm x A3 l (c - j2) j2 T := ⟨HC0.out.below hbz hb2, hF2.cell, hF2.conv⟩
        have G2 := Lib.hid (And.intro hF2 hbz)
        clear hs4 hb4 hF2 hbz
        refine HK.out.out _ _ hKn2 (fun _ => ?_)
        clear HK K
        try simp only [Act.put, List.setIfInBounds_toArray, List.set_cons_zero, List.set_cons_succ]
        refine wpAnyH_ready (rs := [32]) (by kernel_rfl) (by simp) ?_
        refine AllReadyH.cons (o := ⟨_, _, _, _, _, _⟩) rfl (fun K hK => ?_) AllReadyH.nil
        have HK := Lib.hid hK
        clear hK
        go_simp
        refine HK.out.out _ _ hKn2 (fun _ => ?_)
        clear HK K
        try simp only [Act.put, List.setIfInBounds_toArray, List.set_cons_zero, List.set_cons_succ]
        refine wpAnyH_take (i := 40) (oi := ⟨_, _, _, _, _, _⟩) (v := ?_) rfl (by kernel_rfl) (by kernel_rfl) (by kernel_rfl) (fun _ _ _ h => h) (Or.inl ⟨by rfl, ?_⟩) (by assumption) ?_
        rotate_left
        · intro W hSw
          obtain ⟨q0, kI, kC⟩ := hSw
          go_simp <;> with_reducible rfl
        try simp only [Act.put, List.setIfInBounds_toArray, List.set_cons_zero, List.set_cons_succ]
        refine wpAnyH_take (i := 41) (oi := ⟨_, _, _, _, _, _⟩) (v := ?_) rfl (by kernel_rfl) (by kernel_rfl) (by kernel_rfl) (fun _ _ _ h => h) (Or.inl ⟨by rfl, ?_⟩) (by assumption) ?_
        rotate_left
        · intro W hSw
          obtain ⟨q0, kI, kC⟩ := hSw
          go_simp <;> with_reducible rfl
        try simp only [Act.put, List.setIfInBounds_toArray, List.set_cons_zero, List.set_cons_succ]
        refine wpAnyH_done (by kernel_rfl) ?_ _
        go_wp2_with fail
        go_roundg (m - 1)
        case measure => omega
        case rel => exact ⟨k + 1, j2, by omega, by first | rfl | simp, G2.out.1.both, G2.out.2⟩
    · go_wp2_with fail
      refine (ha.out _).mono ?_
      rintro e wz ⟨rfl, hbz⟩
      have HZ := Lib.hid hbz
      clear hbz
      go_wp2_with fail
      go_ret
      exact ⟨rfl, SI.out.2.trans (HZ.out.mono SI.out.2.size)⟩

set_option maxRecDepth 100000 in
theorem lifted (os : Os) (started : os.Started) (H : Type) (enc : TypeId × Value → H) :
    ReturnsInHanded {} Try.checked os 3 .any (Rows.scanPlaysSpec.pre6 enc Try.prog Try.f3 Rows.scanPlaysRow.domain false) (Rows.scanPlaysSpec.post enc Try.prog Try.f3 false true false false) := by
  refine returnsInHanded_of_change (C := Try.checked) own started (by kernel_rfl) Try.func3
    (ChangeSpec.witness6 (enc := enc) (C := Try.checked) false ⟨#[], #[.slice none 0 0, .slice none 0 0], []⟩ 8 (by kernel_rfl) (by kernel_rfl) (by kernel_rfl) (by kernel_rfl)) ?_
  intro W base args ds gs before hval0 hW hcnd _
  have hval : ∀ (j : Nat) t v, Try.f3.params[j]? = some t → args[j]? = some v → Value.okWide Try.prog W .any base t v := hval0
  have hW' := hW
  obtain ⟨p, q, hA0, hV, rfl, hfz, hnd⟩ := hW
  have hA : DataW.TrodAll enc Try.prog W 0 (fun _ => true) true Try.f3.params.toList args.toList ds p := hA0
  rw [Try.params3] at hA hval
  have hAk := hA
  obtain ⟨v0, vs0, d0, ds0, p0, q0, hargs, rfl, rfl, h0, r0⟩ := trodAll_cons hA
  obtain ⟨v1, vs1, d1, ds1, p1, q1, rfl, rfl, rfl, h1, r1⟩ := trodAll_cons r0
  obtain ⟨rfl, rfl, rfl⟩ := trodAll_nil r1
  obtain rfl : args = #[v0, v1] := by cases args; simp_all
  obtain ⟨rfl, rfl⟩ := trodVars_none hV
  obtain ⟨a0, len, cap, rfl⟩ := okWide_slice Try.underlying22 (hval 0 22 v0 rfl rfl)
  obtain ⟨a2, n2, c2, rfl⟩ := okWide_slice Try.underlying23 (hval 1 23 v1 rfl rfl)
  clear hA0 hval0
  simp only [List.append_nil] at hW' hAk
  have go : ∀ e W', (e = Ending.returned (.bool true) ∧ Below W.heap.size W W') → ∃ v, e = Ending.returned v ∧ Rows.scanPlaysSpec.post enc Try.checked.prog Try.f3 false true false false W #[.slice a0 len cap, .slice a2 n2 c2] v W' :=
    fun e W' ⟨he, hb⟩ => ⟨_, he, _, _, _, [], _, [], hW', trodAll_cons_mk (shut_bool Try.underlying4 _) trodAll_mk0, all_stay Try.laidOut [22, 23] (by kernel_rfl) hb _ _ _ hAk (fun x hx => hW'.lt x hx), rfl, hb.frame _, fun h => by cases h⟩
  obtain ⟨fuel0, hf0⟩ := h0
  obtain ⟨fuel1, hf1⟩ := h1
  obtain ⟨xs, rfl, hBy, hbt⟩ := open_bytes (by simpa [Value.cells] using hf0)
  obtain ⟨hAc, hc1, hc2⟩ := open_acts (by simpa [Value.cells] using hf1)
  by_cases hlong : 200 < xs.length ∨ 60 < n2
  · refine (walk_long a0 cap xs.length a2 n2 c2 W ?_ (by omega) hlong).mono go
    rcases hBy with ⟨_, rfl, _⟩ | ⟨_, _, h1, h2, _⟩
    · simp
    · omega
  · exact (walk_full a0 cap xs a2 n2 c2 W (by omega) (by omega) hBy hbt hAc).mono go

theorem over : Rows.scanPlaysRow.holds Try.pinned (OpenSpec.ofChange Rows.scanPlaysSpec) :=
  OpenClaim.holds_of_wide 3 Try.f3 rfl rfl rfl rfl rfl rfl rfl ⟨rfl, rfl, rfl, rfl, rfl⟩ rfl rfl rfl rfl rfl (by kernel_rfl) Try.func3 (by kernel_rfl)
    (of_decide_eq_true (by kernel_rfl)) (by unfold Func.isWrapper; first | (rw [if_pos (by decide +kernel)]; kernel_rfl) | (rw [if_neg (by decide +kernel)]; exact ⟨rfl, rfl⟩))
    (fun os started H enc _ => lifted os started H enc)

theorem proved : Rows.ScanPlaysSaid :=
  over
#print axioms proved
end Go.Proofs.Ytffidpbhlfbmhaa.scanPlays
