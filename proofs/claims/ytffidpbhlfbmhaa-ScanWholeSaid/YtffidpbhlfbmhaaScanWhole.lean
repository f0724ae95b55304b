/- The statement ScanWholeSaid is proved: for all bytes and all acts the law ScanWhole returns true and leaves its arguments as they were. No condition. -/
import Derived.Test.YtffidpbhlfbmhaaActs
import Derived.ProofKit
import Derived.OpenShut
namespace Go.Proofs.Ytffidpbhlfbmhaa.scanWhole
open Go.ChangeShapes Go.WideShapes Go.RowKit
set_option linter.unusedVariables false

theorem own : ownKnob Try.prog.godebug = none := by kernel_rfl

theorem walk_long (A : Option Addr) (c n : Nat) (A2 : Option Addr) (n2 c2 : Nat) (w : World) (hn : n ≤ 9223372036854775807) (hn2 : n2 ≤ 9223372036854775807) (h : 200 < n ∨ 60 < n2) :
    Calls Try.prog 4 #[.slice A n c, .slice A2 n2 c2] w fun e w' => e = .returned (.bool true) ∧ Below w.heap.size w w' := by
  have ha := Lib.hid alive_any
  by_cases h1 : 200 < n
  · have hI : (200 : Int) < (n : Int) := by omega
    clear h
    go_enter Try.func4, Try.ntmps4
    go_wp2_with fail
    refine (ha.out _).mono ?_
    rintro e wz ⟨rfl, hbz⟩
    have HZ := Lib.hid hbz
    clear hbz
    go_wp2_with fail
    go_ret
    exact ⟨rfl, HZ.out⟩
  · have hI : (n : Int) ≤ 200 := by omega
    have hI2 : (60 : Int) < (n2 : Int) := by omega
    clear h
    go_enter Try.func4, Try.ntmps4
    go_wp2_with fail
    refine (ha.out _).mono ?_
    rintro e wz ⟨rfl, hbz⟩
    have HZ := Lib.hid hbz
    clear hbz
    go_wp2_with fail
    go_ret
    exact ⟨rfl, HZ.out⟩

set_option maxRecDepth 20000 in
set_option maxHeartbeats 4000000 in
theorem walk_full (A : Option Addr) (c : Nat) (xs : List Int) (A2 : Option Addr) (n2 c2 : Nat) (w : World) (hn : xs.length ≤ 200) (hn2 : n2 ≤ 60) (hB : Bytes w A c xs) (hbt : ∀ x ∈ xs, 0 ≤ x ∧ x < 256) (hA : Acts w A2 n2) :
    Calls Try.prog 4 #[.slice A xs.length c, .slice A2 n2 c2] w fun e w' => e = .returned (.bool true) ∧ Below w.heap.size w w' := by
  have ha := Lib.hid alive_any
  have hnew := Lib.hid (new_any A c xs w (by omega) hB)
  have HA := Lib.hid hA
  have HT := Lib.hid hbt
  have hI : (xs.length : Int) ≤ 200 := by omega
  have hI0 : (0 : Int) ≤ (xs.length : Int) := by omega
  have hI2 : (n2 : Int) ≤ 60 := by omega
  have hI3 : ¬ ((200 : Int) < (xs.length : Int)) := by omega
  clear hB hA hbt
  go_enter Try.func4, Try.ntmps4
  go_wp2_with fail
  refine hnew.out.mono ?_
  rintro e w1 ⟨r, rfl, hrw, hR, hb1⟩
  have SX := Lib.hid (And.intro (show St w1 r xs 0 xs from ⟨hR, by simp, by omega⟩) hb1)
  clear hR hb1
  go_wp2_with fail
  go_loopg [6] n2 (fun m s6 wx => ∃ (k j : Nat) (l : List Int), k + m = n2 ∧ s6 = .int .i64 k ∧ Aside (St wx r xs j l ∧ Below w.heap.size w wx))
  case atStart => exact ⟨0, 0, xs, by omega, rfl, SX.out⟩
  case round =>
    obtain ⟨k, j, l, hk, rfl, HI⟩ := hrel
    have SI : Hid (St wr r xs j l ∧ Below w.heap.size w wr) := Lib.hid HI
    clear HI
    generalize gk = m at *
    have hk0 : (0 : Int) ≤ (k : Int) := by omega
    by_cases hlt : k < n2
    · obtain ⟨b2, o2, rfl, hb2, hact⟩ := HA.out (by omega)
      obtain ⟨kk, s, mm, g0, g1, g2, gs, gm1, gm2⟩ := hact k hlt
      have c0 := (SI.out.2.cell (p := ⟨b2, o2 + k * 3, none⟩) hb2).trans g0
      have c1 := (SI.out.2.cell (p := ⟨b2, o2 + k * 3 + 1, none⟩) hb2).trans g1
      have c2 := (SI.out.2.cell (p := ⟨b2, o2 + k * 3 + 2, none⟩) hb2).trans g2
      have hkI : (k : Int) < (n2 : Int) := by omega
      clear g0 g1 g2 hact
      by_cases hs : 60 < s.size
      · have hsI : (60 : Int) < (s.size : Int) := by omega
        go_wp2_with fail
        refine (ha.out _).mono ?_
        rintro e wz ⟨rfl, hbz⟩
        have HZ := Lib.hid hbz
        clear hbz
        go_wp2_with fail
        go_ret
        exact ⟨rfl, SI.out.2.trans (HZ.out.mono SI.out.2.size)⟩
      · have hsI : (s.size : Int) ≤ 60 := by omega
        have hsI0 : (0 : Int) ≤ (s.size : Int) := by omega
        have hjn := SI.out.1.2.2
        have q0 := Lib.hid (at_any r l j wr SI.out.1.1)
        have hbtl : ∀ x ∈ l, 0 ≤ x ∧ x < 256 := by
          rw [SI.out.1.2.1]
          exact fun x hx => HT.out x (List.mem_of_mem_drop hx)
        have hll : j + l.length = xs.length := by
          have := SI.out.1.sum; omega
        have qb := Lib.hid (byte_any r j l wr SI.out.1.1 (by omega))
        have qw0 := want_any r j l s wr SI.out.1.1 (by omega) (by omega)
        have qn0 := num_any r j l mm wr SI.out.1.1 (by omega) gm1 gm2 hbtl
        unfold two at qw0 qn0
        have qw := Lib.hid qw0
        have qn := Lib.hid qn0
        have HL := Lib.hid (And.intro hjn hll)
        clear hbtl hll hjn qw0 qn0
        have hj0 : (0 : Int) ≤ (j : Int) := by omega
        by_cases hk0 : kk = 0
        · subst hk0
          go_wp2_with (first | (go_at_call 9; refine (q0.out).mono ?_; rintro e w' ⟨rfl, rfl⟩))
          refine qb.out.mono ?_
          rintro e w2 ⟨rfl, hR2, hO2⟩
          have hS2 := SI.out.1.go hR2 (byteN_le l)
          have O2 := Lib.hid (SI.out.2.trans (hO2.below (n := w.heap.size) SI.out.2.size hrw))
          clear hR2 hO2
          generalize byteV l = v
          cases hbb : byteB l with
          | false =>
            have hN := byteN_bad l hbb
            rw [hN] at hS2
            simp only [Nat.add_zero, List.drop_zero] at hS2
            have S2 := Lib.hid hS2
            clear hS2 hbb hN
            have HLL := Lib.hid HL.out.2
            have q1 := Lib.hid (at_any r l j w2 S2.out.1)
            have q2 := Lib.hid (left_any r l j w2 S2.out.1)
            have hsum := S2.out.sum
            have hj20 : (0 : Int) ≤ (j : Int) := by omega
            have hl20 : (0 : Int) ≤ (l.length : Int) := by omega
            have hj21 : (j : Int) ≤ 200 := by omega
            have hl21 : (l.length : Int) ≤ 200 := by omega
            go_wp2_with (first | (go_at_call 9; refine (q1.out).mono ?_; rintro e w' ⟨rfl, rfl⟩) | (go_at_call 10; refine (q2.out).mono ?_; rintro e w' ⟨rfl, rfl⟩))
            go_roundg (m - 1)
            case measure => omega
            case rel => exact ⟨k + 1, j, l, by omega, by first | rfl | simp, S2.out, O2.out⟩
          | true =>
            have hle : (j : Int) ≤ ((j + byteN l : Nat) : Int) := by omega
            generalize j + byteN l = j2 at hS2 hle
            generalize l.drop (byteN l) = l2 at hS2
            have S2 := Lib.hid hS2
            clear hS2 hbb
            have q1 := Lib.hid (at_any r l2 j2 w2 S2.out.1)
            have q2 := Lib.hid (left_any r l2 j2 w2 S2.out.1)
            have hsum := S2.out.sum
            have hj20 : (0 : Int) ≤ (j2 : Int) := by omega
            have hl20 : (0 : Int) ≤ (l2.length : Int) := by omega
            have hj21 : (j2 : Int) ≤ 200 := by omega
            have hl21 : (l2.length : Int) ≤ 200 := by omega
            go_wp2_with (first | (go_at_call 9; refine (q1.out).mono ?_; rintro e w' ⟨rfl, rfl⟩) | (go_at_call 10; refine (q2.out).mono ?_; rintro e w' ⟨rfl, rfl⟩))
            go_roundg (m - 1)
            case measure => omega
            case rel => exact ⟨k + 1, j2, l2, by omega, by first | rfl | simp, S2.out, O2.out⟩
        by_cases hk1 : kk = 1
        · subst hk1
          go_wp2_with (first | (go_at_call 9; refine (q0.out).mono ?_; rintro e w' ⟨rfl, rfl⟩))
          refine qw.out.mono ?_
          rintro e w2 ⟨rfl, hR2, hO2⟩
          have hS2 := SI.out.1.go hR2 (wantN_le l _)
          have O2 := Lib.hid (SI.out.2.trans (hO2.below (n := w.heap.size) SI.out.2.size hrw))
          have hbad := Lib.hid (wantN_bad l (sbytes s) j)
          clear hR2 hO2
          generalize wantA l (sbytes s) j = pf at hbad
          obtain ⟨pp, f⟩ := pf
          by_cases hf : f = 0
          · subst hf
            have hle : (j : Int) ≤ ((j + wantN l (sbytes s) : Nat) : Int) := by omega
            generalize j + wantN l (sbytes s) = j2 at hS2 hle
            generalize l.drop (wantN l (sbytes s)) = l2 at hS2
            have S2 := Lib.hid hS2
            clear hS2 hbad
            simp only
            have q1 := Lib.hid (at_any r l2 j2 w2 S2.out.1)
            have q2 := Lib.hid (left_any r l2 j2 w2 S2.out.1)
            have hsum := S2.out.sum
            have hj20 : (0 : Int) ≤ (j2 : Int) := by omega
            have hl20 : (0 : Int) ≤ (l2.length : Int) := by omega
            have hj21 : (j2 : Int) ≤ 200 := by omega
            have hl21 : (l2.length : Int) ≤ 200 := by omega
            go_wp2_with (first | (go_at_call 9; refine (q1.out).mono ?_; rintro e w' ⟨rfl, rfl⟩) | (go_at_call 10; refine (q2.out).mono ?_; rintro e w' ⟨rfl, rfl⟩))
            go_roundg (m - 1)
            case measure => omega
            case rel => exact ⟨k + 1, j2, l2, by omega, by first | rfl | simp, S2.out, O2.out⟩
          · have hN := hbad.out hf
            rw [hN] at hS2
            simp only [Nat.add_zero, List.drop_zero] at hS2
            have S2 := Lib.hid hS2
            clear hS2 hbad hN
            simp only
            have q1 := Lib.hid (at_any r l j w2 S2.out.1)
            have q2 := Lib.hid (left_any r l j w2 S2.out.1)
            have hsum := S2.out.sum
            have hj20 : (0 : Int) ≤ (j : Int) := by omega
            have hl20 : (0 : Int) ≤ (l.length : Int) := by omega
            have hj21 : (j : Int) ≤ 200 := by omega
            have hl21 : (l.length : Int) ≤ 200 := by omega
            go_wp2_with (first | (go_at_call 9; refine (q1.out).mono ?_; rintro e w' ⟨rfl, rfl⟩) | (go_at_call 10; refine (q2.out).mono ?_; rintro e w' ⟨rfl, rfl⟩))
            go_roundg (m - 1)
            case measure => omega
            case rel => exact ⟨k + 1, j, l, by omega, by first | rfl | simp, S2.out, O2.out⟩
        by_cases hk2 : kk = 2
        · subst hk2
          go_wp2_with (first | (go_at_call 9; refine (q0.out).mono ?_; rintro e w' ⟨rfl, rfl⟩))
          refine qn.out.mono ?_
          rintro e w2 ⟨rfl, hR2, hO2⟩
          have hS2 := SI.out.1.go hR2 (numN_le l _)
          have O2 := Lib.hid (SI.out.2.trans (hO2.below (n := w.heap.size) SI.out.2.size hrw))
          have hbad := Lib.hid (numN_bad l mm)
          clear hR2 hO2
          generalize numA l mm = pf at hbad
          obtain ⟨pp, f⟩ := pf
          by_cases hf : f = 0
          · subst hf
            have hle : (j : Int) ≤ ((j + numN l mm : Nat) : Int) := by omega
            generalize j + numN l mm = j2 at hS2 hle
            generalize l.drop (numN l mm) = l2 at hS2
            have S2 := Lib.hid hS2
            clear hS2 hbad
            simp only
            have q1 := Lib.hid (at_any r l2 j2 w2 S2.out.1)
            have q2 := Lib.hid (left_any r l2 j2 w2 S2.out.1)
            have hsum := S2.out.sum
            have hj20 : (0 : Int) ≤ (j2 : Int) := by omega
            have hl20 : (0 : Int) ≤ (l2.length : Int) := by omega
            have hj21 : (j2 : Int) ≤ 200 := by omega
            have hl21 : (l2.length : Int) ≤ 200 := by omega
            go_wp2_with (first | (go_at_call 9; refine (q1.out).mono ?_; rintro e w' ⟨rfl, rfl⟩) | (go_at_call 10; refine (q2.out).mono ?_; rintro e w' ⟨rfl, rfl⟩))
            go_roundg (m - 1)
            case measure => omega
            case rel => exact ⟨k + 1, j2, l2, by omega, by first | rfl | simp, S2.out, O2.out⟩
          · have hN := hbad.out hf
            rw [hN] at hS2
            simp only [Nat.add_zero, List.drop_zero] at hS2
            have S2 := Lib.hid hS2
            clear hS2 hbad hN
            simp only
            have q1 := Lib.hid (at_any r l j w2 S2.out.1)
            have q2 := Lib.hid (left_any r l j w2 S2.out.1)
            have hsum := S2.out.sum
            have hj20 : (0 : Int) ≤ (j : Int) := by omega
            have hl20 : (0 : Int) ≤ (l.length : Int) := by omega
            have hj21 : (j : Int) ≤ 200 := by omega
            have hl21 : (l.length : Int) ≤ 200 := by omega
            go_wp2_with (first | (go_at_call 9; refine (q1.out).mono ?_; rintro e w' ⟨rfl, rfl⟩) | (go_at_call 10; refine (q2.out).mono ?_; rintro e w' ⟨rfl, rfl⟩))
            go_roundg (m - 1)
            case measure => omega
            case rel => exact ⟨k + 1, j, l, by omega, by first | rfl | simp, S2.out, O2.out⟩
        obtain ⟨w2, hw2⟩ : ∃ w2, w2 = wr := ⟨_, rfl⟩
        have S2 : Hid (St wr r xs j l) := Lib.hid SI.out.1
        have O2 : Hid (Below w.heap.size w wr) := Lib.hid SI.out.2
        clear hw2
        have hle : (j : Int) ≤ (j : Int) := by omega
        have q1 := Lib.hid (at_any r l j wr S2.out.1)
        have q2 := Lib.hid (left_any r l j wr S2.out.1)
        have hsum := S2.out.sum
        have hj20 : (0 : Int) ≤ (j : Int) := by omega
        have hl20 : (0 : Int) ≤ (l.length : Int) := by omega
        have hj21 : (j : Int) ≤ 200 := by omega
        have hl21 : (l.length : Int) ≤ 200 := by omega
        go_wp2_with (first | (go_at_call 9; refine (q1.out).mono ?_; rintro e w' ⟨rfl, rfl⟩) | (go_at_call 10; refine (q2.out).mono ?_; rintro e w' ⟨rfl, rfl⟩))
        go_roundg (m - 1)
        case measure => omega
        case rel => exact ⟨k + 1, j, l, by omega, by first | rfl | simp, S2.out, O2.out⟩
    · go_wp2_with fail
      refine (ha.out _).mono ?_
      rintro e wz ⟨rfl, hbz⟩
      have HZ := Lib.hid hbz
      clear hbz
      go_wp2_with fail
      go_ret
      exact ⟨rfl, SI.out.2.trans (HZ.out.mono SI.out.2.size)⟩

set_option maxRecDepth 100000 in
theorem lifted (os : Os) (started : os.Started) (H : Type) (enc : TypeId × Value → H) :
    ReturnsInHanded {} Try.checked os 4 .any (Rows.scanWholeSpec.pre6 enc Try.prog Try.f4 Rows.scanWholeRow.domain false) (Rows.scanWholeSpec.post enc Try.prog Try.f4 false true false false) := by
  refine returnsInHanded_of_change (C := Try.checked) own started (by kernel_rfl) Try.func4
    (ChangeSpec.witness6 (enc := enc) (C := Try.checked) false ⟨#[], #[.slice none 0 0, .slice none 0 0], []⟩ 8 (by kernel_rfl) (by kernel_rfl) (by kernel_rfl) (by kernel_rfl)) ?_
  intro W base args ds gs before hval0 hW hcnd _
  have hval : ∀ (j : Nat) t v, Try.f4.params[j]? = some t → args[j]? = some v → Value.okWide Try.prog W .any base t v := hval0
  have hW' := hW
  obtain ⟨p, q, hA0, hV, rfl, hfz, hnd⟩ := hW
  have hA : DataW.TrodAll enc Try.prog W 0 (fun _ => true) true Try.f4.params.toList args.toList ds p := hA0
  rw [Try.params4] at hA hval
  have hAk := hA
  obtain ⟨v0, vs0, d0, ds0, p0, q0, hargs, rfl, rfl, h0, r0⟩ := trodAll_cons hA
  obtain ⟨v1, vs1, d1, ds1, p1, q1, rfl, rfl, rfl, h1, r1⟩ := trodAll_cons r0
  obtain ⟨rfl, rfl, rfl⟩ := trodAll_nil r1
  obtain rfl : args = #[v0, v1] := by cases args; simp_all
  obtain ⟨rfl, rfl⟩ := trodVars_none hV
  obtain ⟨a0, len, cap, rfl⟩ := okWide_slice Try.underlying22 (hval 0 22 v0 rfl rfl)
  obtain ⟨a2, n2, c2, rfl⟩ := okWide_slice Try.underlying23 (hval 1 23 v1 rfl rfl)
  clear hA0 hval0
  simp only [List.append_nil] at hW' hAk
  have go : ∀ e W', (e = Ending.returned (.bool true) ∧ Below W.heap.size W W') → ∃ v, e = Ending.returned v ∧ Rows.scanWholeSpec.post enc Try.checked.prog Try.f4 false true false false W #[.slice a0 len cap, .slice a2 n2 c2] v W' :=
    fun e W' ⟨he, hb⟩ => ⟨_, he, _, _, _, [], _, [], hW', trodAll_cons_mk (shut_bool Try.underlying4 _) trodAll_mk0, all_stay Try.laidOut [22, 23] (by kernel_rfl) hb _ _ _ hAk (fun x hx => hW'.lt x hx), rfl, hb.frame _, fun h => by cases h⟩
  obtain ⟨fuel0, hf0⟩ := h0
  obtain ⟨fuel1, hf1⟩ := h1
  obtain ⟨xs, rfl, hBy, hbt⟩ := open_bytes (by simpa [Value.cells] using hf0)
  obtain ⟨hAc, hc1, hc2⟩ := open_acts (by simpa [Value.cells] using hf1)
  by_cases hlong : 200 < xs.length ∨ 60 < n2
  · refine (walk_long a0 cap xs.length a2 n2 c2 W ?_ (by omega) hlong).mono go
    rcases hBy with ⟨_, rfl, _⟩ | ⟨_, _, h1, h2, _⟩
    · simp
    · omega
  · exact (walk_full a0 cap xs a2 n2 c2 W (by omega) (by omega) hBy hbt hAc).mono go

theorem over : Rows.scanWholeRow.holds Try.pinned (OpenSpec.ofChange Rows.scanWholeSpec) :=
  OpenClaim.holds_of_wide 4 Try.f4 rfl rfl rfl rfl rfl rfl rfl ⟨rfl, rfl, rfl, rfl, rfl⟩ rfl rfl rfl rfl rfl (by kernel_rfl) Try.func4 (by kernel_rfl)
    (of_decide_eq_true (by kernel_rfl)) (by unfold Func.isWrapper; first | (rw [if_pos (by decide +kernel)]; kernel_rfl) | (rw [if_neg (by decide +kernel)]; exact ⟨rfl, rfl⟩))
    (fun os started H enc _ => lifted os started H enc)

theorem proved : Rows.ScanWholeSaid :=
  over
#print axioms proved
end Go.Proofs.Ytffidpbhlfbmhaa.scanWhole
