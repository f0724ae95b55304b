/- The contract of the law's test whether a netlist is light (conditions: the netlist lies where its value says). -/
import Derived.Test.YtchnpooijaalnaaNetAt
import Derived.WalkKit
import Derived.WalkLawsBesides
import Derived.Lib.Hide
import Derived.Outline
import Derived.Deep.LoopGhost
namespace Go.Proofs.Ytchnpooijaalnaa
open Go.ChangeShapes Go.WideShapes Go.RowKit
set_option linter.unusedVariables false

theorem ret_bool {a b : Bool} (h : a = b) : Ending.returned (.bool a) = .returned (.bool b) := by rw [h]
theorem ret_int {k : IntKind} {a b : Int} (h : a = b) : Ending.returned (.int k a) = .returned (.int k b) := by rw [h]

def PRead.light (r : PRead) : Bool := decide (r.ra.length ≤ 100) && decide (-1099511627776 ≤ r.rv) && decide (r.rv ≤ 1099511627776)
def PWrite.light (x : PWrite) : Bool := decide (x.wa.length ≤ 100) && decide (x.wd.length ≤ 100)
def PMem.light (m : PMem) : Bool := decide (m.mr.length ≤ 6) && decide (m.mx.length ≤ 6) && decide (m.mw ≤ 100) && m.mr.all PRead.light && m.mx.all PWrite.light
def PNet.few (n : PNet) : Bool :=
  decide (n.inputs.length ≤ 2100) && decide (n.latches.length ≤ 2100) && decide (n.ands.length ≤ 2100) && decide (n.outs.length ≤ 1100) && decide (n.bads.length ≤ 1100) && decide (n.cons.length ≤ 1100) && decide (n.mems.length ≤ 6)
def PNet.light (n : PNet) : Bool := n.few && n.mems.all PMem.light

theorem all_no {α : Type} {xs : List α} {k : Nat} {x : α} {p : α → Bool} (h : xs[k]? = some x) (hp : p x = false) : xs.all p = false := by
  rw [List.all_eq_false]
  exact ⟨x, mem_of_some h, by simp [hp]⟩
theorem all_take {α : Type} {xs : List α} {k : Nat} {x : α} {p : α → Bool} (h : xs[k]? = some x) (ha : (xs.take k).all p = true) (hp : p x = true) : (xs.take (k + 1)).all p = true := by
  rw [take_some h, List.all_append, ha]; simp [hp]
theorem all_done {α : Type} {xs : List α} {k : Nat} {p : α → Bool} (hk : ¬ k < xs.length) (ha : (xs.take k).all p = true) : xs.all p = true := by
  rwa [List.take_of_length_le (by omega)] at ha
theorem light_no {n : PNet} {k : Nat} {m : PMem} (h : n.mems[k]? = some m) (hp : m.light = false) : n.light = false := by
  unfold PNet.light
  rw [all_no h hp, Bool.and_false]

theorem light_big (n : PNet) (S : NetS) (w : World) (h : n.few = false) :
    Calls Try.prog 21 #[netV n S] w fun e w' => e = .returned (.bool n.light) ∧ Below w.heap.size w w' := by
  unfold netV
  have hl : n.light = false := by unfold PNet.light; rw [h]; rfl
  rw [hl]
  have H := Lib.hid h
  clear h hl
  go_enter Try.func21, Try.ntmps21
  go_wp2
  rotate_left
  · have := H.out
    simp [PNet.few] at this
    omega
  all_goals
    go_ret
    exact ⟨rfl, (Below.refl _ _).alloc (Nat.le_refl _) _⟩

set_option maxRecDepth 100000 in
set_option maxHeartbeats 1000000 in
theorem light_small (n : PNet) (S : NetS) (w : World) (h : NetAt w w.heap.size S n) (hf : n.few = true) :
    Calls Try.prog 21 #[netV n S] w fun e w' => e = .returned (.bool n.light) ∧ Below w.heap.size w w' := by
  unfold netV
  have h1 : decide (2100 < (n.inputs.length : Int)) = false := by simp [PNet.few] at hf; simp; omega
  have h2 : decide (2100 < (n.latches.length : Int)) = false := by simp [PNet.few] at hf; simp; omega
  have h3 : decide (2100 < (n.ands.length : Int)) = false := by simp [PNet.few] at hf; simp; omega
  have h4 : decide (1100 < (n.outs.length : Int)) = false := by simp [PNet.few] at hf; simp; omega
  have h5 : decide (1100 < (n.bads.length : Int)) = false := by simp [PNet.few] at hf; simp; omega
  have h6 : decide (1100 < (n.cons.length : Int)) = false := by simp [PNet.few] at hf; simp; omega
  have h7 : decide (6 < (n.mems.length : Int)) = false := by simp [PNet.few] at hf; simp; omega
  have hm6 : n.mems.length ≤ 6 := by simp [PNet.few] at hf; omega
  have H := Lib.hid (And.intro h hf)
  clear h hf
  go_enter Try.func21, Try.ntmps21
  go_wp2
  clear h1 h2 h3 h4 h5 h6 h7
  have c6 := cell_box w #[.int .i64 n.vars, .slice S.i n.inputs.length S.ic, .slice S.l n.latches.length S.lc, .slice S.o n.outs.length S.oc, .slice S.b n.bads.length S.bc, .slice S.c n.cons.length S.cc, .slice S.m n.mems.length S.mc, .slice S.a n.ands.length S.ac] 27 6 _ rfl
  have hb0 : Below w.heap.size w (w.alloc (.cells #[.int .i64 n.vars, .slice S.i n.inputs.length S.ic, .slice S.l n.latches.length S.lc, .slice S.o n.outs.length S.oc, .slice S.b n.bads.length S.bc, .slice S.c n.cons.length S.cc, .slice S.m n.mems.length S.mc, .slice S.a n.ands.length S.ac] 27)) := (Below.refl _ _).alloc (Nat.le_refl _) _
  have hs0 : w.heap.size < (w.alloc (.cells #[.int .i64 n.vars, .slice S.i n.inputs.length S.ic, .slice S.l n.latches.length S.lc, .slice S.o n.outs.length S.oc, .slice S.b n.bads.length S.bc, .slice S.c n.cons.length S.cc, .slice S.m n.mems.length S.mc, .slice S.a n.ands.length S.ac] 27)).heap.size := by simp
  generalize hw2 : w.alloc (.cells #[.int .i64 n.vars, .slice S.i n.inputs.length S.ic, .slice S.l n.latches.length S.lc, .slice S.o n.outs.length S.oc, .slice S.b n.bads.length S.bc, .slice S.c n.cons.length S.cc, .slice S.m n.mems.length S.mc, .slice S.a n.ands.length S.ac] 27) = w2 at c6 hb0 hs0 ⊢
  clear hw2
  have C6 := Lib.hid (And.intro c6 hb0)
  clear c6 hb0
  generalize hg : w.heap.size = g at *
  go_loopg [3] n.mems.length (fun m s3 wx => ∃ k : Nat, k + m = n.mems.length ∧ s3 = .int .i64 k ∧ Aside ((n.mems.take k).all PMem.light = true ∧ Below w2.heap.size w2 wx))
  case atStart => exact ⟨0, by omega, rfl, by simp, Below.refl _ _⟩
  case round =>
    obtain ⟨k, hk, rfl, HI⟩ := hrel
    generalize gk = m at *
    have c6 := (HI.out.2.cell (p := ⟨g, 6, none⟩) hs0).trans C6.out.1
    by_cases hlt : k < n.mems.length
    · obtain ⟨x, hx⟩ := some_of_lt hlt
      have HX := Lib.hid hx
      clear hx
      have hltI : (k : Int) < (n.mems.length : Int) := by omega
      obtain ⟨b, o, hS, hbg, hcell⟩ := H.out.1.mems.at HX.out
      have HB : Below g w wr := C6.out.2.trans (HI.out.2.mono (by omega))
      obtain ⟨a1, c1, a2, c2, m0, m1, m2, m3, m4, hP⟩ := MemAt.below HB (Nat.le_refl _) hbg (hcell k x HX.out)
      have HP := Lib.hid (And.intro hP HB)
      clear hP HB hcell
      rw [hS] at c6
      clear hS
      have hgw : g < wr.heap.size := by have := HI.out.2.size; omega
      by_cases hq : x.mr.length ≤ 6 ∧ x.mx.length ≤ 6 ∧ x.mw ≤ 100
      · have q1 : decide (6 < (x.mr.length : Int)) = false := by simp; omega
        have q2 : decide (6 < (x.mx.length : Int)) = false := by simp; omega
        have q3 : decide (100 < x.mw) = false := by simp; omega
        have hr6 : x.mr.length ≤ 6 := hq.1
        have hw6 : x.mx.length ≤ 6 := hq.2.1
        have HQ := Lib.hid hq
        clear hq
        go_wp2
        clear q1 q2 q3
        have hbm : Below wr.heap.size wr (wr.alloc (.cells #[.int .i64 x.ma, .int .i64 x.mw, .bool x.mn, .slice a1 x.mr.length c1, .slice a2 x.mx.length c2] 56)) := (Below.refl _ _).alloc (Nat.le_refl _) _
        have d3 := cell_box wr #[.int .i64 x.ma, .int .i64 x.mw, .bool x.mn, .slice a1 x.mr.length c1, .slice a2 x.mx.length c2] 56 3 _ rfl
        have d4 := cell_box wr #[.int .i64 x.ma, .int .i64 x.mw, .bool x.mn, .slice a1 x.mr.length c1, .slice a2 x.mx.length c2] 56 4 _ rfl
        generalize wr.alloc (.cells #[.int .i64 x.ma, .int .i64 x.mw, .bool x.mn, .slice a1 x.mr.length c1, .slice a2 x.mx.length c2] 56) = w3 at hbm d3 d4 ⊢
        have HP3 := Lib.hid (Ports.below hbm (by omega) HP.out.1)
        have HB3 := Lib.hid (And.intro (HP.out.2.trans (hbm.mono (by omega))) hbm)
        clear hbm m0 m1 m2 m3 m4 c6
        generalize hgx : wr.heap.size = gx at *
        have HGX := Lib.hid hgx
        clear hgx
        go_loopg [5] x.mr.length (fun m5 s5 wx => ∃ j : Nat, j + m5 = x.mr.length ∧ s5 = .int .i64 j ∧ Aside ((x.mr.take j).all PRead.light = true) ∧ w3 = wx)
        case atStart => exact ⟨0, by omega, rfl, by simp [Aside], rfl⟩
        case round =>
          obtain ⟨j, hj, rfl, HR, rfl⟩ := hrel
          generalize gk = m5 at *
          by_cases hjl : j < x.mr.length
          · obtain ⟨r, hr⟩ := some_of_lt hjl
            have HRx := Lib.hid hr
            clear hr
            have hjI : (j : Int) < (x.mr.length : Int) := by omega
            obtain ⟨br, orr, hSr, hbr, hcr⟩ := HP3.out.1.at HRx.out
            obtain ⟨ar, cr, r0, r1, _⟩ := hcr j r HRx.out
            clear hcr
            rw [hSr] at d3
            by_cases hp : r.light = true
            · have p1 : decide (100 < (r.ra.length : Int)) = false := by simp [PRead.light] at hp; simp; omega
              have p2 : decide (1099511627776 < r.rv) = false := by simp [PRead.light] at hp; simp; omega
              have p3 : decide (r.rv < -1099511627776) = false := by simp [PRead.light] at hp; simp; omega
              have HPr := Lib.hid hp
              clear hp
              go_wp2
              go_roundg (m5 - 1)
              case measure => omega
              case rel => exact ⟨j + 1, by omega, by first | rfl | simp, all_take HRx.out HR.out HPr.out, rfl⟩
            · have hno : n.light = false := by
                refine light_no HX.out ?_
                unfold PMem.light
                rw [all_no HRx.out (by simpa using hp)]
                simp
              have HN := Lib.hid (And.intro hno hp)
              clear hno hp
              go_wp2
              rotate_left
              · have := HN.out.2
                simp [PRead.light] at this
                omega
              all_goals
                go_ret
                exact ⟨ret_bool HN.out.1.symm, by first | exact HB3.out.1 | (rw [hg]; exact HB3.out.1)⟩
          · have HR2 := Lib.hid (all_done hjl HR.out)
            have hjn : ¬ ((j : Int) < (x.mr.length : Int)) := by omega
            clear HR
            go_wp2
            go_loopg [6] x.mx.length (fun m6 s6 wx => ∃ j : Nat, j + m6 = x.mx.length ∧ s6 = .int .i64 j ∧ Aside ((x.mx.take j).all PWrite.light = true) ∧ w3 = wx)
            case atStart => exact ⟨0, by omega, rfl, by simp [Aside], rfl⟩
            case round =>
              obtain ⟨i, hi, rfl, HW, rfl⟩ := hrel
              generalize gk = m6 at *
              by_cases hil : i < x.mx.length
              · obtain ⟨z, hz⟩ := some_of_lt hil
                have HZ := Lib.hid hz
                clear hz
                have hiI : (i : Int) < (x.mx.length : Int) := by omega
                obtain ⟨bw, ow, hSw, hbw, hcw⟩ := HP3.out.2.1.at HZ.out
                obtain ⟨aw, cw, aw2, cw2, z0, z1, z2, _⟩ := hcw i z HZ.out
                clear hcw
                rw [hSw] at d4
                by_cases hp : z.light = true
                · have p1 : decide (100 < (z.wa.length : Int)) = false := by simp [PWrite.light] at hp; simp; omega
                  have p2 : decide (100 < (z.wd.length : Int)) = false := by simp [PWrite.light] at hp; simp; omega
                  have HPz := Lib.hid hp
                  clear hp
                  go_wp2
                  go_roundg (m6 - 1)
                  case measure => omega
                  case rel => exact ⟨i + 1, by omega, by first | rfl | simp, all_take HZ.out HW.out HPz.out, rfl⟩
                · have hno : n.light = false := by
                    refine light_no HX.out ?_
                    unfold PMem.light
                    rw [all_no HZ.out (by simpa using hp)]
                    simp
                  have HN := Lib.hid (And.intro hno hp)
                  clear hno hp
                  go_wp2
                  rotate_left
                  · have := HN.out.2
                    simp [PWrite.light] at this
                    omega
                  all_goals
                    go_ret
                    exact ⟨ret_bool HN.out.1.symm, by first | exact HB3.out.1 | (rw [hg]; exact HB3.out.1)⟩
              · have HW2 := Lib.hid (all_done hil HW.out)
                have hin : ¬ ((i : Int) < (x.mx.length : Int)) := by omega
                clear HW
                go_wp2
                go_roundg (m - 1)
                case measure => omega
                case rel =>
                  refine ⟨k + 1, by omega, by first | rfl | simp, all_take HX.out HI.out.1 ?_, HI.out.2.trans (HB3.out.2.mono ?_)⟩
                  · have := HQ.out
                    unfold PMem.light
                    rw [HR2.out, HW2.out]
                    simp; omega
                  · have := HI.out.2.size; have := HGX.out; omega
      · have hno : n.light = false := by
          refine light_no HX.out ?_
          unfold PMem.light
          simp
          omega
        have HN := Lib.hid (And.intro hno hq)
        clear hno hq
        go_wp2
        rotate_left
        · have := HN.out.2
          omega
        all_goals
          go_ret
          exact ⟨ret_bool HN.out.1.symm, by first | exact HP.out.2.trans (((Below.refl _ wr).alloc (Nat.le_refl _) _).mono (by omega)) | (rw [hg]; exact HP.out.2.trans (((Below.refl _ wr).alloc (Nat.le_refl _) _).mono (by omega)))⟩
    · have hno : n.light = true := by
        unfold PNet.light
        rw [H.out.2, all_done hlt HI.out.1]
        rfl
      have HN := Lib.hid (And.intro hno (C6.out.2.trans (HI.out.2.mono (show g ≤ w2.heap.size by omega))))
      have hltn : ¬ ((k : Int) < (n.mems.length : Int)) := by omega
      clear hno HI
      go_wp2
      go_ret
      exact ⟨ret_bool HN.out.1.symm, by first | exact HN.out.2 | (rw [hg]; exact HN.out.2)⟩
theorem light_any (n : PNet) (S : NetS) (w : World) (h : NetAt w w.heap.size S n) :
    Calls Try.prog 21 #[netV n S] w fun e w' => e = .returned (.bool n.light) ∧ Below w.heap.size w w' := by
  by_cases hf : n.few = true
  · exact light_small n S w h hf
  · exact light_big n S w (by simpa using hf)
end Go.Proofs.Ytchnpooijaalnaa
