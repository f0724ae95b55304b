/- Package fault's exported functions by contracts (conditions: the library's one variable is laid; chains of at most 1000 errors). -/
import Derived.Test.YtmoikkdaigepcaaDoorFault
import Derived.RowKit
namespace Go.Proofs.YtmoikkdaigepcaaDoor
open Go.RowKit Go.Extern.Stop Go.Stop Go.Extern
set_option linter.unusedVariables false

/-- What lies under all, as a value: nothing, or an api.Fault. -/
def under : Option Int → Value
  | none => .nilIface
  | some k => .iface 27 (.int .i64 k)
/-- What is told of it. -/
def base : Option Int → Int × Int
  | none => (0, -1)
  | some k => (k, -1)
/-- The innermost error's kind and place. -/
def inmost (d : Int × Int) : List (Nat × Int × Int) → Int × Int
  | [] => d
  | x :: L => inmost x.2 L

theorem under_bare (o : Option Int) : Bare (under o) := by
  cases o with
  | none => exact .inl rfl
  | some k => exact .inr ⟨k, rfl⟩

theorem inmost_row {w : World} {bot : Value} {L : List (Nat × Int × Int)} {e : Value} (h : Chain w bot L e) (p : Option Addr) (d : Int × Int) (hp : ∀ b, p = some b → ∃ B u, b = ⟨B, 0, none⟩ ∧ w.heap[B]? = some (.cells #[.int .i64 d.1, .int .i64 d.2, u] 37 (0, 0))) :
    (fin p L = p ∧ L = []) ∨ ∃ B u, fin p L = some ⟨B, 0, none⟩ ∧ w.heap[B]? = some (.cells #[.int .i64 (inmost d L).1, .int .i64 (inmost d L).2, u] 37 (0, 0)) := by
  induction L generalizing e p d with
  | nil => exact .inl ⟨rfl, rfl⟩
  | cons x L ih =>
    obtain ⟨_, _, u, hr, hc⟩ := h
    right
    rcases ih hc (some ⟨x.1, 0, none⟩) x.2 (fun b hb => ⟨x.1, u, (Option.some.inj hb).symm, hr⟩) with ⟨h1, rfl⟩ | h1
    · exact ⟨x.1, u, h1, hr⟩
    · exact h1

/-- What bottomOf's answer says of the chain. -/
theorem inmost_of {w : World} {bot : Value} {L : List (Nat × Int × Int)} {e : Value} (h : Chain w bot L e) (d : Int × Int) :
    (fin none L = none ∧ L = []) ∨ ∃ B u, fin none L = some ⟨B, 0, none⟩ ∧ w.heap[B]? = some (.cells #[.int .i64 (inmost d L).1, .int .i64 (inmost d L).2, u] 37 (0, 0)) :=
  inmost_row h none d (fun b hb => by cases hb)

theorem ofNil_any (p : Option Addr) (d : Int) (o : Option Int) (w : World) :
    Calls Tryd.prog 16 #[.agg #[.pointer p, .int .i64 d, under o]] w (Left w.heap.size w (.bool (p.isNone && o.isNone))) := by
  cases p <;> cases o
  all_goals
    unfold under
    go_enter Tryd.func16, Tryd.ntmps16
    go_wp2_with fail
    go_ret
    exact ⟨rfl, (Below.refl _ w).alloc (Nat.le_refl _) _⟩

def two (x : Int × Int) : Value := .tuple #[.int .i64 x.1, .int .i64 x.2]

theorem told_inner (b : Nat) (k a d : Int) (u v : Value) (w : World) (hr : w.heap[b]? = some (.cells #[.int .i64 k, .int .i64 a, u] 37 (0, 0))) (hv : Bare v) :
    Calls Tryd.prog 15 #[.agg #[.pointer (some ⟨b, 0, none⟩), .int .i64 d, v]] w (fun e w' => e = .returned (two (k, a)) ∧ Below w.heap.size w w') := by
  have hb := lt_of_row hr
  have k0 : w.cell? ⟨b, 0, none⟩ = some (.int .i64 k) := by rw [cell_of_row _ _ _ _ _ _ hr]; rfl
  have k1 : w.cell? ⟨b, 1, none⟩ = some (.int .i64 a) := by rw [cell_of_row _ _ _ _ _ _ hr]; rfl
  clear hr
  rcases hv with rfl | ⟨q, rfl⟩
  all_goals
    go_enter Tryd.func15, Tryd.ntmps15
    go_wp2_with fail
    go_region
    all_goals go_wp2_with fail
    all_goals go_ret2
    all_goals exact ⟨rfl, ((Below.refl _ w).alloc (Nat.le_refl _) _).drew⟩

theorem told_outer (o : Option Int) (d : Int) (w : World) (hL : Laid w) :
    Calls Tryd.prog 15 #[.agg #[.pointer none, .int .i64 d, under o]] w (fun e w' => e = .returned (two (base o)) ∧ Below w.heap.size w w') := by
  cases o with
  | none =>
    unfold under
    go_enter Tryd.func15, Tryd.ntmps15
    go_wp2_with fail
    refine (as_nil _ _).mono ?_
    rintro e wy ⟨rfl, rfl⟩
    go_wp2_with fail
    go_ret2
    exact ⟨rfl, ((Below.refl _ w).alloc (Nat.le_refl _) _).alloc (by simp) _⟩
  | some k =>
    unfold under
    have hb : Below w.heap.size w ((w.alloc (.cells #[.pointer none, .int .i64 d, .iface 27 (.int .i64 k)] 42)).alloc (.cells #[.int .i64 0] 27)) := ((Below.refl _ w).alloc (Nat.le_refl _) _).alloc (by simp) _
    have hr : ((w.alloc (.cells #[.pointer none, .int .i64 d, .iface 27 (.int .i64 k)] 42)).alloc (.cells #[.int .i64 0] 27)).heap[w.heap.size + 1]? = some (.cells #[.int .i64 0] 27 (0, 0)) := by
      rw [show w.heap.size + 1 = (w.alloc (.cells #[.pointer none, .int .i64 d, .iface 27 (.int .i64 k)] 42)).heap.size by simp, heap_alloc_new]
    have hm := Lib.hid (hitF k (w.heap.size + 1) (.int .i64 0) _ (hL.below hb hL.pos) hr)
    have HB := Lib.hid hb
    have HR := Lib.hid hr
    clear hb hr
    go_enter Tryd.func15, Tryd.ntmps15
    go_wp2_with fail
    refine hm.out.mono ?_
    rintro e wy ⟨rfl, hp⟩
    have hc : wy.cell? ⟨w.heap.size + 1, 0, none⟩ = some (.int .i64 k) := by rw [cell_of_row _ _ _ _ _ _ (hp.row _ _ HR.out)]; rfl
    have HP := Lib.hid hp
    clear hp
    go_wp2_with fail
    go_ret2
    refine ⟨rfl, HB.out.trans ⟨HP.out.os, HP.out.tape, HP.out.output, HP.out.size, fun k hk => HP.out.block k (by simp; omega) (by omega)⟩⟩

theorem told_any (L : List (Nat × Int × Int)) (o : Option Int) (e : Value) (d : Int) (w : World) (hL : Laid w) (hc : Chain w (under o) L e) :
    Calls Tryd.prog 15 #[.agg #[.pointer (fin none L), .int .i64 d, under o]] w (fun e w' => e = .returned (two (inmost (base o) L)) ∧ Below w.heap.size w w') := by
  rcases inmost_of hc (base o) with ⟨h1, rfl⟩ | ⟨B, u, h1, h2⟩
  · rw [h1]; exact told_outer o d w hL
  · rw [h1]; exact told_inner B _ _ d u _ w h2 (under_bare o)

theorem Told_any (L : List (Nat × Int × Int)) (o : Option Int) (e : Value) (w : World) (hl : L.length ≤ 1000) (hL : Laid w) (hc : Chain w (under o) L e) :
    Calls Tryd.prog 8 #[e] w (fun ev w' => ev = .returned (two (inmost (base o) L)) ∧ Below w.heap.size w w') := by
  have h1 := Lib.hid (bottomOf_any L (under o) e w hl hL hc (under_bare o))
  go_enter Tryd.func8, Tryd.ntmps8
  go_wp2_with fail
  refine h1.out.mono ?_
  rintro ev wy ⟨rfl, hb⟩
  have HB := Lib.hid hb
  have h2 := Lib.hid (told_any L o e L.length wy (hL.below hb hL.pos) (hc.below hb hc.lt))
  clear hb
  go_wp2_with fail
  refine h2.out.mono ?_
  rintro ev wz ⟨rfl, hb2⟩
  have HB2 := Lib.hid hb2
  clear hb2
  unfold two
  go_wp2_with fail
  go_ret2
  exact ⟨rfl, HB.out.trans (HB2.out.mono HB.out.size)⟩

theorem field_depth (p : Option Addr) (n : Int) (v : Value) (w : World) : (Instr.field 42 (.agg #[.pointer p, .int .i64 n, v]) 1).run Tryd.prog w = .ok (.int .i64 n) w := by kernel_rfl
theorem Depth_any (L : List (Nat × Int × Int)) (o : Option Int) (e : Value) (w : World) (hl : L.length ≤ 1000) (hL : Laid w) (hc : Chain w (under o) L e) :
    Calls Tryd.prog 9 #[e] w (fun ev w' => ev = .returned (.int .i64 L.length) ∧ Below w.heap.size w w') := by
  have h0 := bottomOf_any L (under o) e w hl hL hc (under_bare o)
  generalize fin none L = p at h0
  cases o
  all_goals
    unfold under at h0
    have h1 := Lib.hid h0
    have hd := field_depth
    clear h0
    go_enter Tryd.func9, Tryd.ntmps9
    go_wp2_with fail
    refine h1.out.mono ?_
    rintro ev wy ⟨rfl, hb⟩
    have HB := Lib.hid hb
    clear hb
    go_wp2_with fail
    go_ret
    exact ⟨rfl, HB.out⟩

/-- Is, of what has an api.Fault under all. -/
theorem Is_any (L : List (Nat × Int × Int)) (k q : Int) (e : Value) (w : World) (hl : L.length ≤ 1000) (hL : Laid w) (hc : Chain w (under (some k)) L e) :
    Calls Tryd.prog 10 #[e, .int .i64 q] w (fun ev w' => ev = .returned (.bool (k == q)) ∧ Below w.heap.size w w') := by
  have h0 := bottomOf_any L (under (some k)) e w hl hL hc (under_bare _)
  generalize fin none L = p at h0
  have h3 := ofNil_any p L.length (some k)
  unfold under at h0 h3
  have h1 := Lib.hid h0
  have h2 := Lib.hid h3
  clear h0 h3
  go_enter Tryd.func10, Tryd.ntmps10
  go_wp2_with fail
  refine h1.out.mono ?_
  rintro ev wy ⟨rfl, hb⟩
  have HB := Lib.hid hb
  clear hb
  go_wp2_with fail
  refine (h2.out _).mono ?_
  rintro ev wz ⟨rfl, hb2⟩
  have hc2 : wz.cell? ⟨wy.heap.size, 2, none⟩ = some (.iface 27 (.int .i64 k)) := (hb2.cell (by simp)).trans (by simp)
  have HB2 := Lib.hid hb2
  clear hb2
  have hf : (p.isNone && (some k).isNone) = false := by simp
  rw [hf]
  clear hf
  go_wp2_with fail
  refine (is_fault k q _).mono ?_
  rintro ev wu ⟨rfl, rfl⟩
  go_wp2_with fail
  go_ret
  exact ⟨rfl, (HB.out.alloc HB.out.size _).trans (HB2.out.mono (by have := HB.out.size; simp; omega))⟩
/-- Is, of nothing. -/
theorem Is_nil (q : Int) (w : World) (hL : Laid w) :
    Calls Tryd.prog 10 #[.nilIface, .int .i64 q] w (fun ev w' => ev = .returned (.bool (q == 0)) ∧ Below w.heap.size w w') := by
  have h0 := bottomOf_any [] .nilIface .nilIface w (by simp) hL rfl (.inl rfl)
  have h3 := ofNil_any none 0 none
  unfold under at h3
  have h1 := Lib.hid h0
  have h2 := Lib.hid h3
  clear h0 h3
  go_enter Tryd.func10, Tryd.ntmps10
  go_wp2_with fail
  refine h1.out.mono ?_
  rintro ev wy ⟨rfl, hb⟩
  have HB := Lib.hid hb
  clear hb
  have hf : fin none [] = none := rfl
  rw [hf]
  clear hf
  go_wp2_with fail
  refine (h2.out _).mono ?_
  rintro ev wz ⟨rfl, hb2⟩
  have HB2 := Lib.hid hb2
  clear hb2
  go_wp2_with fail
  go_ret
  exact ⟨rfl, (HB.out.alloc HB.out.size _).trans (HB2.out.mono (by have := HB.out.size; simp; omega))⟩

/-- Wrap, of something. -/
theorem Wrap_any (L : List (Nat × Int × Int)) (k a : Int) (e : Value) (w : World) (hl : L.length ≤ 1000) (hL : Laid w) (hc : Chain w (under (some k)) L e) :
    Calls Tryd.prog 11 #[e, .int .i64 a] w (fun ev w' => ∃ b, ev = .returned (.iface 35 (.pointer (some ⟨b, 0, none⟩))) ∧ Below w.heap.size w w' ∧
      Chain w' (under (some k)) ((b, (inmost (base (some k)) L).1, a) :: L) (.iface 35 (.pointer (some ⟨b, 0, none⟩)))) := by
  have h0 := bottomOf_any L (under (some k)) e w hl hL hc (under_bare _)
  have h3 := ofNil_any (fin none L) L.length (some k)
  have h4 := fun w hL hc => told_any L (some k) e L.length w hL hc
  have hfm := hc.form (under_bare _)
  generalize fin none L = p at h0 h3 h4
  unfold two at h4
  generalize hI : inmost (base (some k)) L = I at h4 ⊢
  obtain ⟨i1, i2⟩ := I
  have HHC := Lib.hid hc
  unfold under at h0 h3 h4
  have h1 := Lib.hid h0
  have h2 := Lib.hid h3
  have h5 := Lib.hid h4
  clear h0 h3 h4 hI hc
  rcases hfm with rfl | ⟨et, ev, rfl⟩
  all_goals
    go_enter Tryd.func11, Tryd.ntmps11
    go_wp2_with fail
    refine h1.out.mono ?_
    rintro ev wy ⟨rfl, hb⟩
    have HB := Lib.hid hb
    clear hb
    go_wp2_with fail
    refine (h2.out _).mono ?_
    rintro ev wz ⟨rfl, hb2⟩
    have hc0 : wz.cell? ⟨wy.heap.size, 0, none⟩ = some (.pointer p) := (hb2.cell (by simp)).trans (by simp)
    have hc1 : wz.cell? ⟨wy.heap.size, 1, none⟩ = some (.int .i64 L.length) := (hb2.cell (by simp)).trans (by simp)
    have hc2 : wz.cell? ⟨wy.heap.size, 2, none⟩ = some (.iface 27 (.int .i64 k)) := (hb2.cell (by simp)).trans (by simp)
    have HZ := Lib.hid ((HB.out.alloc HB.out.size _).trans (hb2.mono (by have := HB.out.size; simp; omega)))
    clear hb2
    have hf : (p.isNone && (some k).isNone) = false := by simp
    rw [hf]
    clear hf
    go_wp2_with fail
    refine (h5.out _ (hL.below HZ.out hL.pos) (HHC.out.below HZ.out HHC.out.lt)).mono ?_
    rintro ev wu ⟨rfl, hb3⟩
    have HU := Lib.hid (HZ.out.trans (hb3.mono HZ.out.size))
    clear hb3 hc0 hc1 hc2
    go_wp2_with fail
    go_ret
    refine ⟨wu.heap.size, rfl, HU.out.alloc HU.out.size _, rfl, fun y hy => ?_, _, by rw [heap_alloc_new], ?_⟩
    · have := HHC.out.lt y hy
      have := HU.out.size
      show y.1 < wu.heap.size
      omega
    · exact HHC.out.below (HU.out.alloc HU.out.size _) HHC.out.lt

theorem Wrap_nil (a : Int) (w : World) (hL : Laid w) :
    Calls Tryd.prog 11 #[.nilIface, .int .i64 a] w (fun ev w' => ev = .returned .nilIface ∧ Below w.heap.size w w') := by
  have h0 := bottomOf_any [] .nilIface .nilIface w (by simp) hL rfl (.inl rfl)
  have h3 := ofNil_any none 0 none
  unfold under at h3
  have h1 := Lib.hid h0
  have h2 := Lib.hid h3
  clear h0 h3
  go_enter Tryd.func11, Tryd.ntmps11
  go_wp2_with fail
  refine h1.out.mono ?_
  rintro ev wy ⟨rfl, hb⟩
  have HB := Lib.hid hb
  clear hb
  have hf : fin none [] = none := rfl
  rw [hf]
  clear hf
  go_wp2_with fail
  refine (h2.out _).mono ?_
  rintro ev wz ⟨rfl, hb2⟩
  have HB2 := Lib.hid hb2
  clear hb2
  go_wp2_with fail
  go_ret
  exact ⟨rfl, (HB.out.alloc HB.out.size _).trans (HB2.out.mono (by have := HB.out.size; simp; omega))⟩

theorem New_any (k a : Int) (h0 : k ≠ 0) (w : World) :
    Calls Tryd.prog 13 #[.int .i64 k, .int .i64 a] w (fun ev w' => ∃ b, ev = .returned (.iface 35 (.pointer (some ⟨b, 0, none⟩))) ∧ Below w.heap.size w w' ∧
      Chain w' (under (some k)) [(b, k, a)] (.iface 35 (.pointer (some ⟨b, 0, none⟩)))) := by
  go_enter Tryd.func13, Tryd.ntmps13
  go_wp2_with fail
  go_ret
  exact ⟨w.heap.size, rfl, (Below.refl _ w).alloc (Nat.le_refl _) _, rfl, fun y hy => by (cases hy), under (some k), heap_alloc_new _ _, rfl⟩
theorem New_ok (a : Int) (w : World) :
    Calls Tryd.prog 13 #[.int .i64 0, .int .i64 a] w (fun ev w' => ev = .returned .nilIface ∧ w' = w) := by
  go_enter Tryd.func13, Tryd.ntmps13
  go_wp2_with fail
  go_ret
  exact ⟨rfl, rfl⟩
theorem Unwrap_any (b : Nat) (k a q : Int) (w : World) (hr : w.heap[b]? = some (.cells #[.int .i64 k, .int .i64 a, .iface 27 (.int .i64 q)] 37 (0, 0))) :
    Calls Tryd.prog 12 #[.pointer (some ⟨b, 0, none⟩)] w (fun ev w' => ev = .returned (.iface 27 (.int .i64 q)) ∧ w' = w) := by
  have hc : w.cell? ⟨b, 2, none⟩ = some (.iface 27 (.int .i64 q)) := by rw [cell_of_row _ _ _ _ _ _ hr]; rfl
  clear hr
  go_enter Tryd.func12, Tryd.ntmps12
  go_wp2_with fail
  go_ret
  exact ⟨rfl, rfl⟩
end Go.Proofs.YtmoikkdaigepcaaDoor
