/- The contract of the graph's levels (conditions: the graph lies where its value says; the netlist is sound; at most 2000 variables). -/
import Derived.Test.YtchnpooijaalnaaTLeave
namespace Go.Proofs.Ytchnpooijaalnaa
open Go.ChangeShapes Go.WideShapes Go.RowKit
set_option linter.unusedVariables false

/-- What the walk leaves behind it, of the levels. -/
def LvI (B : Nat) (w0 : World) (bg xb lb V : Nat) (n : PNet) (S : NetS) (a d : Option Addr) (c cd : Nat) (L : List Int) (o : Nat → Prop) (F : List Nat) (W : World) : Prop :=
  o = (fun b => b = lb) ∧ ∃ M, LvB B w0 bg xb lb V n S a d c cd L M W ∧ LvInv n.nodes V F M
theorem levels_leaves {B lo bg xb lb V : Nat} {w0 : World} {n : PNet} {S : NetS} {a d : Option Addr} {c cd : Nat} {L : List Int} (hg : GraphAt w0 B S n a d L) (ht : Tells n.nodes V L) (hG : Good6 V n.nodes) (hV : V ≤ 2000) (hp : LvP B lo bg xb lb) :
    Leaves lo V (belowOf n.nodes) (.agg #[.int .i64 n.vars, .slice S.i n.inputs.length S.ic, .slice S.l n.latches.length S.lc, .slice S.o n.outs.length S.oc, .slice S.b n.bads.length S.bc, .slice S.c n.cons.length S.cc, .slice S.m n.mems.length S.mc, .slice S.a n.ands.length S.ac, .slice a n.nodes.length c, .slice d L.length cd]) 47 #[.pointer (some ⟨bg, 0, none⟩), .pointer (some ⟨xb, 0, none⟩)] (LvI B w0 bg xb lb V n S a d c cd L) where
  low := fun v _ x hx => (below_le hG v).1 x hx
  short := fun v _ => Nat.le_trans (below_le hG v).2 (by omega)
  still := fun o F w w' h hm => by
    obtain ⟨rfl, M, hB, hI⟩ := h
    exact ⟨rfl, M, hB.still hp hm, hI⟩
  own := fun o F w b h hb => by
    obtain ⟨rfl, M, hB, hI⟩ := h
    have e : b = lb := hb
    subst e
    exact ⟨hB.ints.lt, .inl hp.l1⟩
  enters := fun args w => enters_of Try.func47 (by kernel_rfl) rfl args w
  below := fun o F w v h hv => by
    obtain ⟨rfl, M, hB, hI⟩ := h
    exact below_any n S a d c cd L V w v (hg.later hB.below hB.size) ht hv (by omega) hG
  leave := fun o F w v h hv hF hb _ => by
    obtain ⟨rfl, M, hB, hI⟩ := h
    refine Calls.mono (leave_levels hg ht hG hV hp F v hB hI hv hF hb) ?_
    rintro e w' ⟨rfl, h1, h2⟩
    exact ⟨_, rfl, ⟨rfl, _, h1, hI.step hv hF hb⟩, h2⟩

theorem range_snoc (k : Nat) : nats (List.range (k + 1)) = nats (List.range k) ++ [(k : Int)] := by unfold nats; rw [List.range_succ, List.map_append]; rfl

set_option maxRecDepth 100000 in
set_option maxHeartbeats 8000000 in
theorem levels_graph (n : PNet) (S : NetS) (a d : Option Addr) (c cd : Nat) (L : List Int) (V : Nat) (w : World) (hg : GraphAt w w.heap.size S n a d L) (ht : Tells n.nodes V L) (hG : Good6 V n.nodes) (hV2 : (V : Int) = n.vars) (hV : V ≤ 2000) (hnf : ∀ x ∈ n.nodes, x.nf ≠ []) :
    Calls Try.prog 24 #[.agg #[.int .i64 n.vars, .slice S.i n.inputs.length S.ic, .slice S.l n.latches.length S.lc, .slice S.o n.outs.length S.oc, .slice S.b n.bads.length S.bc, .slice S.c n.cons.length S.cc, .slice S.m n.mems.length S.mc, .slice S.a n.ands.length S.ac, .slice a n.nodes.length c, .slice d L.length cd]] w (TLevels w (levelsOf V n.nodes)) := by
  have hVV : n.vars.toNat = V := by omega
  have hmk := run_ints n.vars (by omega) (by omega)
  rw [hVV] at hmk
  have hmx : max n.vars 0 = n.vars := by omega
  have hbx := below_box w #[.int .i64 n.vars, .slice S.i n.inputs.length S.ic, .slice S.l n.latches.length S.lc, .slice S.o n.outs.length S.oc, .slice S.b n.bads.length S.bc, .slice S.c n.cons.length S.cc, .slice S.m n.mems.length S.mc, .slice S.a n.ands.length S.ac, .slice a n.nodes.length c, .slice d L.length cd] 62
  have hM := gBox_new w n S (.slice a n.nodes.length c) (.slice d L.length cd) 62
  have hrow := heap_alloc_new w (.cells #[.int .i64 n.vars, .slice S.i n.inputs.length S.ic, .slice S.l n.latches.length S.lc, .slice S.o n.outs.length S.oc, .slice S.b n.bads.length S.bc, .slice S.c n.cons.length S.cc, .slice S.m n.mems.length S.mc, .slice S.a n.ands.length S.ac, .slice a n.nodes.length c, .slice d L.length cd] 62)
  have s1 : (w.alloc (.cells #[.int .i64 n.vars, .slice S.i n.inputs.length S.ic, .slice S.l n.latches.length S.lc, .slice S.o n.outs.length S.oc, .slice S.b n.bads.length S.bc, .slice S.c n.cons.length S.cc, .slice S.m n.mems.length S.mc, .slice S.a n.ands.length S.ac, .slice a n.nodes.length c, .slice d L.length cd] 62)).heap.size = w.heap.size + 1 := by simp
  generalize hw1 : w.alloc (.cells #[.int .i64 n.vars, .slice S.i n.inputs.length S.ic, .slice S.l n.latches.length S.lc, .slice S.o n.outs.length S.oc, .slice S.b n.bads.length S.bc, .slice S.c n.cons.length S.cc, .slice S.m n.mems.length S.mc, .slice S.a n.ands.length S.ac, .slice a n.nodes.length c, .slice d L.length cd] 62) = w1 at *
  have hI1 := Ints.new w1 (V + 1)
  have hb2 := below_on hbx (below_box w1 (madeCells #[.int .i64 0] (V + 1)) 3)
  have s2 : (w1.alloc (.cells (madeCells #[.int .i64 0] (V + 1)) 3)).heap.size = w.heap.size + 1 + 1 := by simp [s1]
  replace hrow := alloc_old (o := .cells (madeCells #[.int .i64 0] (V + 1)) 3) hrow
  rw [s1] at hI1
  generalize hw2 : w1.alloc (.cells (madeCells #[.int .i64 0] (V + 1)) 3) = w2 at *
  have hrow3 := heap_alloc_new w2 (.cells #[.slice (some ⟨w.heap.size + 1, 0, none⟩) (V + 1) (V + 1)] 22)
  have hb3 := below_on hb2 (below_box w2 #[.slice (some ⟨w.heap.size + 1, 0, none⟩) (V + 1) (V + 1)] 22)
  have s3 : (w2.alloc (.cells #[.slice (some ⟨w.heap.size + 1, 0, none⟩) (V + 1) (V + 1)] 22)).heap.size = w.heap.size + 1 + 1 + 1 := by simp [s2]
  replace hrow := alloc_old (o := .cells #[.slice (some ⟨w.heap.size + 1, 0, none⟩) (V + 1) (V + 1)] 22) hrow
  have hI3 : Ints (w2.alloc (.cells #[.slice (some ⟨w.heap.size + 1, 0, none⟩) (V + 1) (V + 1)] 22)) (w.heap.size + 1) (List.replicate (V + 1) 0) := alloc_old hI1
  rw [s2] at hrow3
  generalize hw3 : w2.alloc (.cells #[.slice (some ⟨w.heap.size + 1, 0, none⟩) (V + 1) (V + 1)] 22) = w3 at *
  have e0 := hM.net.n0
  have x3 : w3.cell? ⟨w.heap.size + 1 + 1, 0, none⟩ = some (.slice (some ⟨w.heap.size + 1, 0, none⟩) (V + 1) (V + 1)) := by rw [cell_of_row w3 _ 0 _ _ _ hrow3]; rfl
  have HB := Lib.hid (show LvB w.heap.size w w.heap.size (w.heap.size + 1 + 1) (w.heap.size + 1) V n S a d c cd L (List.replicate (V + 1) 0) w3 from ⟨hb3, hb3.size, hrow, hrow3, hI3⟩)
  have HG := Lib.hid (And.intro hg (And.intro ht (And.intro hG hnf)))
  clear hg ht hG hnf hbx hM hrow hI1 hb2 hrow3 hb3 hI3
  go_enter Try.func24, Try.ntmps24
  go_wp2_with fail
  clear hw1 hw2 hw3 hmk
  go_loopg [5, 15] (V + 1) (fun m s5 s15 wx => ∃ k : Nat, k + m = V + 1 ∧ s15 = .int .i64 k ∧ Own w3.heap.size w3 wx s5 (nats (List.range k)))
  case atStart => exact ⟨0, by omega, rfl, Own.nil _ _ (Nat.le_refl _)⟩
  case round =>
    obtain ⟨k, hk, rfl, hO⟩ := hrel
    generalize gk = m at *
    by_cases hlt : (k : Int) < n.vars + 1
    · have hkv : (k : Int) < (V : Int) + 1 := by omega
      have hk0 : (0 : Int) ≤ (k : Int) := by omega
      have hkb : (k : Int) ≤ 2000 := by omega
      have hlo : (nats (List.range k)).length ≤ 1000000 := by rw [nats_len, List.length_range]; omega
      have HX := Lib.hid (range_snoc k)
      go_wp2_with (at_builtin; refine wpl_one rfl _ _ rfl rfl hO rfl hlo ?_; intro v' w' hO2 hW)
      go_roundg (m - 1)
      case measure => omega
      case rel => exact ⟨k + 1, by omega, by first | rfl | simp, by rw [HX.out]; exact hO2⟩
    · have hkV : k = V + 1 := by omega
      subst hkV
      have hkn : ¬ (((V + 1 : Nat) : Int) < (V : Int) + 1) := by omega
      have HB2 := Lib.hid (HB.out.call hO.2.1)
      have g0 : wr.cell? ⟨w.heap.size, 0, none⟩ = some (.int .i64 n.vars) := HB2.out.cell (j := 0) rfl
      have g1 : wr.cell? ⟨w.heap.size, 1, none⟩ = some (.slice S.i n.inputs.length S.ic) := HB2.out.cell (j := 1) rfl
      have g2 : wr.cell? ⟨w.heap.size, 2, none⟩ = some (.slice S.l n.latches.length S.lc) := HB2.out.cell (j := 2) rfl
      have g3 : wr.cell? ⟨w.heap.size, 3, none⟩ = some (.slice S.o n.outs.length S.oc) := HB2.out.cell (j := 3) rfl
      have g4 : wr.cell? ⟨w.heap.size, 4, none⟩ = some (.slice S.b n.bads.length S.bc) := HB2.out.cell (j := 4) rfl
      have g5 : wr.cell? ⟨w.heap.size, 5, none⟩ = some (.slice S.c n.cons.length S.cc) := HB2.out.cell (j := 5) rfl
      have g6 : wr.cell? ⟨w.heap.size, 6, none⟩ = some (.slice S.m n.mems.length S.mc) := HB2.out.cell (j := 6) rfl
      have g7 : wr.cell? ⟨w.heap.size, 7, none⟩ = some (.slice S.a n.ands.length S.ac) := HB2.out.cell (j := 7) rfl
      have g8 : wr.cell? ⟨w.heap.size, 8, none⟩ = some (.slice a n.nodes.length c) := HB2.out.cell (j := 8) rfl
      have g9 : wr.cell? ⟨w.heap.size, 9, none⟩ = some (.slice d L.length cd) := HB2.out.cell (j := 9) rfl
      obtain ⟨A, cA, rfl, hsA, _⟩ := hO.form
      rw [nats_len, List.length_range]
      have hfar : Far wr.heap.size (fun b => b = w.heap.size + 1) wr A (nats (List.range (V + 1))) := fun hn => by
        obtain ⟨b, s, e, hlt2, hc⟩ := hsA hn
        subst e
        have := (hO.lt (g := b) rfl).1
        exact ⟨b, s, rfl, .inl hlt2, hlt2, by omega, hc⟩
      have hp : LvP w.heap.size wr.heap.size w.heap.size (w.heap.size + 1 + 1) (w.heap.size + 1) := by
        have := hO.2.1.size
        exact ⟨by omega, by omega, by omega, by omega, by omega, by omega, by omega, by omega⟩
      have HW := walk_any (fun b => b = w.heap.size + 1) (List.range (V + 1)) A cA wr (levels_leaves HG.out.1 HG.out.2.1 HG.out.2.2.1 hV hp) (by omega) ⟨rfl, _, HB2.out, LvInv.start n.nodes V⟩ (fun x hx => by have := List.mem_range.1 hx; omega) (by rw [List.length_range]; omega) hfar
      rw [hV2, List.length_range] at HW
      have HX := Lib.hid HW
      have hbl := hO.2.1.size
      have hxr := HB2.out.ptr
      clear HW hfar hp hsA
      go_wp2_with (go_at_call 33; refine HX.out.mono ?_; rintro e w4 ⟨bb, o4, rfl, hMv, hD⟩; have x4 : w4.cell? ⟨w.heap.size + 1 + 1, 0, none⟩ = some (.slice (some ⟨w.heap.size + 1, 0, none⟩) (V + 1) (V + 1)) := (by rw [cell_of_row w4 _ 0 _ _ _ ((hMv.block (w.heap.size + 1 + 1) (lt_of_row hxr) (.inl (lt_of_row hxr)) (show ¬ (w.heap.size + 1 + 1 = w.heap.size + 1) by omega)).1.trans hxr)]; rfl))
      · rename_i hbb
        have hb0 : bb = false := by cases bb <;> simp at hbb ⊢
        have hno := levelsOf_none HG.out.2.2.1 (none_of_loops HG.out.2.2.1 (hD.out.2 hb0))
        have hBw := HB2.out.below.trans (hMv.below (B := w.heap.size) HB2.out.size HB2.out.size (fun b hb => by have e : b = w.heap.size + 1 := hb; omega))
        go_ret2
        rw [hno]
        exact ⟨none, 0, rfl, Src.nil, hBw⟩
      · rename_i hbb
        have hb0 : bb = true := by cases bb <;> simp at hbb ⊢
        obtain ⟨F, hF, ho, M, hB4, hI4⟩ := hD.out.1 hb0
        have hlv := hI4.whole HG.out.2.2.1 HG.out.2.2.2 (fun u hu => hF.all u (List.mem_range.2 (by omega)))
        have hso := (levelsOf_iff HG.out.2.2.1).2 hlv
        go_ret2
        rw [hso]
        refine ⟨some ⟨w.heap.size + 1, 0, none⟩, V + 1, ?_, hB4.ints.src, hB4.below⟩
        show _ = Ending.returned (.tuple #[.slice _ M.length _, .bool true])
        rw [hlv.len]
        rfl
end Go.Proofs.Ytchnpooijaalnaa
