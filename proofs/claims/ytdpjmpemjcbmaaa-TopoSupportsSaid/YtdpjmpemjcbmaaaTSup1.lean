/- What is done behind each variable, for the support: the variable is put behind a list that lies in blocks of its own (conditions: those blocks are nobody else's). -/
import Derived.Test.YtdpjmpemjcbmaaaTSup0
import Derived.Test.YtdpjmpemjcbmaaaTAlive
import Derived.Test.YtdpjmpemjcbmaaaPutC
namespace Go.Proofs.Ytdpjmpemjcbmaaa
open Go.ChangeShapes Go.WideShapes Go.RowKit
set_option linter.unusedVariables false

theorem row_same {w w' : World} {base e size n : Nat} {v : Value} {xs : List Value} (h : w.ownsRow base e size v n xs) (hb : ∀ g, v.ownBlock = some g → w'.heap[g]? = w.heap[g]?) : w'.ownsRow base e size v n xs := by
  refine ⟨h.1, ?_⟩
  rcases h.2 with h2 | ⟨g, cap, cur, h1, h2, h3, h4⟩
  · exact .inl h2
  · exact .inr ⟨g, cap, cur, h1, h2, (hb g (by rw [h1]; rfl)).trans h3, h4⟩

/-- The variable in block p holds a list in a block behind the walk's; below the walk's all else is as it was in w3. -/
structure SpB (lo p : Nat) (w3 : World) (v : Value) (xs : List Int) (W : World) : Prop where
  os : W.os = w3.os
  tape : W.tape = w3.tape
  output : W.output = w3.output
  near : ∀ b, b < lo → b ≠ p → W.heap[b]? = w3.heap[b]?
  size : lo ≤ W.heap.size
  ptr : W.heap[p]? = some (.cells #[v] 22 (0, 0))
  row : W.ownsRow (lo + 5) 3 1 v xs.length (xs.map (Value.int .i64))
variable {lo p : Nat} {w3 W W' : World} {vs : Value} {xs : List Int}
theorem SpB.still (h : SpB lo p w3 vs xs W) (hp : p < lo) (hm : Moves lo (lo + 5) noB W noB W') : SpB lo p w3 vs xs W' := by
  have hk : ∀ b, b < W.heap.size → (b < lo ∨ lo + 5 ≤ b) → W'.heap[b]? = W.heap[b]? := fun b h1 h2 => (hm.block b h1 h2 (fun k => k)).1
  refine ⟨hm.os.trans h.os, hm.tape.trans h.tape, hm.output.trans h.output, fun b h1 h2 => (hk b (Nat.lt_of_lt_of_le h1 h.size) (.inl h1)).trans (h.near b h1 h2), Nat.le_trans h.size hm.size, (hk p (lt_of_row h.ptr) (.inl hp)).trans h.ptr, row_same h.row fun g hg => ?_⟩
  have := h.row.lt g hg
  exact hk g this.2 (.inr this.1)

set_option maxHeartbeats 1000000 in
theorem leave_support (h : SpB lo p w3 vs xs W) (hlo : lo + 5 ≤ W.heap.size) (hp : p < lo) (v : Nat) (hx : xs.length ≤ 1000000) :
    Calls Try.prog 35 #[.int .i64 (v : Nat), .pointer (some ⟨p, 0, none⟩)] W fun e w' => ∃ vs', e = .returned (.tuple #[]) ∧ SpB lo p w3 vs' (xs ++ if 0 < v then [(v : Int)] else []) w' ∧ Moves lo lo (fun b => b = p ∨ vs.ownBlock = some b) W (fun b => b = p ∨ vs'.ownBlock = some b) w' := by
  by_cases hv : 0 < v
  · rw [if_pos hv]
    have hvI : (0 : Int) < (v : Int) := by omega
    have c0 : W.cell? ⟨p, 0, none⟩ = some vs := by rw [cell_of_row W p 0 _ _ _ h.ptr]; rfl
    have hO : Own (lo + 5) W W vs xs := ⟨h.row, Below.refl _ _, hlo⟩
    have hne : vs.ownBlock ≠ some p := fun e => by have := (h.row.lt p e).1; omega
    have H := Lib.hid (And.intro h hne)
    clear h hne
    go_enter Try.func35, Try.ntmps35
    go_wp2_with (at_builtin; refine wpl_one rfl _ _ rfl rfl hO rfl hx ?_; intro v' w' hO2 hW; have g1 := (hW.other (Nat.lt_of_lt_of_le (lt_of_row H.out.1.ptr) (by simp)) H.out.2).1.trans (alloc_old H.out.1.ptr); have c1 : w'.cell? ⟨p, 0, none⟩ = some vs := (by rw [cell_of_row w' p 0 _ _ _ g1]; rfl); have f1 : w'.frozen? ⟨p, 0, none⟩ = false := frozen_of_row w' p 0 _ _ g1; obtain ⟨A2, c2, rfl, hs2, hc2, hd2⟩ := hO2.form)
    go_end0
    rw [show xs.length + 1 = (xs ++ [(v : Int)]).length by simp]
    have hne2 : (Value.slice A2 (xs ++ [(v : Int)]).length c2).ownBlock ≠ some p := fun e => by have := (hO2.1.lt p e).1; omega
    have hs := H.out.1
    have hb := hO2.2.1
    refine ⟨_, rfl, ⟨hb.os.trans hs.os, hb.tape.trans hs.tape, hb.output.trans hs.output, fun b h1 h2 => (heap_setCell_other _ _ _ _ (by simpa using h2)).trans ((hb.block b (by omega)).trans (hs.near b h1 h2)), ?_, heap_setCell_same w' p 0 _ _ _ g1, row_same hO2.1 fun g hg => heap_setCell_other _ _ _ _ (fun e => hne2 (by rw [show g = p from e] at hg; exact hg))⟩, ⟨hb.os, hb.tape, hb.output, ?_, fun b h1 h2 h3 => ?_⟩⟩
    · have := hb.size; have := hs.size; simp [World.setCell]; omega
    · have := hb.size; simp [World.setCell]; omega
    · have hbp : b ≠ p := fun e => h3 (.inl e)
      obtain ⟨q1, q2, _⟩ := hW.other (k := b) (by simp; omega) (fun e => h3 (.inr e))
      refine ⟨(heap_setCell_other _ _ _ _ (by simpa using hbp)).trans (q1.trans (Below.heap_alloc W _ b h1)), fun e => ?_⟩
      rcases e with e | e
      · exact hbp e
      · exact q2 e
  · have hvI : ¬ ((0 : Int) < (v : Int)) := by omega
    rw [if_neg hv, List.append_nil]
    have H := Lib.hid h
    clear h
    go_enter Try.func35, Try.ntmps35
    go_wp2_with fail
    go_end0
    exact ⟨rfl, vs, H.out, Moves.refl _ _ _ _⟩

/-- The graph, in blocks below the walk's that are not p. -/
structure GraphBy (w3 : World) (p lo B : Nat) (S : NetS) (n : PNet) (a d : Option Addr) (L : List Int) : Prop where
  net : NetAt w3 B S n
  hB : B ≤ p
  hp : p < lo
  nodes : n.nodes ≠ [] → ∃ b o, a = some ⟨b, o, none⟩ ∧ b ≠ p ∧ b < lo ∧ ∀ j x, n.nodes[j]? = some x → TNodeAt w3 b (o + j * 3) x
  defs : L ≠ [] → ∃ b o, d = some ⟨b, o, none⟩ ∧ b ≠ p ∧ b < lo ∧ ∀ j x, L[j]? = some x → w3.cell? ⟨b, o + j, none⟩ = some (.int .i64 x)
theorem GraphBy.graph {B : Nat} {S : NetS} {n : PNet} {a d : Option Addr} {L : List Int} (h : GraphBy w3 p lo B S n a d L) (hs : SpB lo p w3 vs xs W) : GraphAt W W.heap.size S n a d L := by
  have hp := h.hp
  have hB := h.hB
  have hsz := hs.size
  have hk : ∀ b, b < lo → b ≠ p → ∀ i, W.cell? ⟨b, i, none⟩ = w3.cell? ⟨b, i, none⟩ := fun b h1 h2 i => World.cell?_of_block (a := ⟨b, i, none⟩) (hs.near b h1 h2)
  refine ⟨NetAt.wider (by omega) (NetAt.kept (fun b o v hb hv => (hk b (by omega) (by omega) o).trans hv) h.net), fun hn => ?_, fun hn => ?_⟩
  · obtain ⟨b, o, e, h1, h2, h3⟩ := h.nodes hn
    refine ⟨b, o, e, by omega, fun j x hj => ?_⟩
    obtain ⟨q0, q1, q2⟩ := h3 j x hj
    exact ⟨(hk b h2 h1 _).trans q0, (hk b h2 h1 _).trans q1, (hk b h2 h1 _).trans q2⟩
  · obtain ⟨b, o, e, h1, h2, h3⟩ := h.defs hn
    exact ⟨b, o, e, by omega, fun j x hj => (hk b h2 h1 _).trans (h3 j x hj)⟩

def posOf (F : List Nat) : List Int := nats (F.filter fun u => decide (0 < u))
theorem posOf_snoc (F : List Nat) (v : Nat) : posOf (F ++ [v]) = posOf F ++ if 0 < v then [(v : Int)] else [] := by
  unfold posOf nats
  rw [List.filter_append, List.map_append]
  congr 1
  by_cases h : 0 < v
  · simp [h]
  · simp [h]
theorem posOf_len (F : List Nat) : (posOf F).length ≤ F.length := by
  unfold posOf nats
  rw [List.length_map]
  exact List.length_filter_le _ _
/-- What the walk leaves behind it, of the support. -/
def SpI (lo p V : Nat) (w3 : World) (o : Nat → Prop) (F : List Nat) (W : World) : Prop :=
  F.Nodup ∧ (∀ u ∈ F, u ≤ V) ∧ ∃ vs, o = (fun b => b = p ∨ vs.ownBlock = some b) ∧ SpB lo p w3 vs (posOf F) W
theorem support_leaves {B V : Nat} {n : PNet} {S : NetS} {a d : Option Addr} {c cd : Nat} {L : List Int} (hb : GraphBy w3 p lo B S n a d L) (ht : Tells n.nodes V L) (hG : Good6 V n.nodes) (hV : V ≤ 2000) :
    Leaves lo V (belowOf n.nodes) (.agg #[.int .i64 n.vars, .slice S.i n.inputs.length S.ic, .slice S.l n.latches.length S.lc, .slice S.o n.outs.length S.oc, .slice S.b n.bads.length S.bc, .slice S.c n.cons.length S.cc, .slice S.m n.mems.length S.mc, .slice S.a n.ands.length S.ac, .slice a n.nodes.length c, .slice d L.length cd]) 35 #[.pointer (some ⟨p, 0, none⟩)] (SpI lo p V w3) where
  low := fun v _ x hx => (below_le hG v).1 x hx
  short := fun v _ => Nat.le_trans (below_le hG v).2 (by omega)
  still := fun o F w w' h hm => by
    obtain ⟨h1, h2, vs, rfl, h3⟩ := h
    exact ⟨h1, h2, vs, rfl, h3.still hb.hp hm⟩
  own := fun o F w b h ho => by
    obtain ⟨h1, h2, vs, rfl, h3⟩ := h
    rcases ho with e | e
    · subst e
      exact ⟨lt_of_row h3.ptr, .inl hb.hp⟩
    · have := h3.row.lt b e
      exact ⟨this.2, .inr this.1⟩
  enters := fun args w => enters_of Try.func35 (by kernel_rfl) rfl args w
  below := fun o F w v h hv => by
    obtain ⟨h1, h2, vs, rfl, h3⟩ := h
    exact below_any n S a d c cd L V w v (hb.graph h3) ht hv (by omega) hG
  leave := fun o F w v h hv hF hbl hlo => by
    obtain ⟨h1, h2, vs, rfl, h3⟩ := h
    have hle : (posOf F).length ≤ 1000000 := by
      have := posOf_len F
      have := nodup_le h1 h2
      omega
    refine Calls.mono (leave_support h3 hlo hb.hp v hle) ?_
    rintro e w' ⟨vs', rfl, h4, h5⟩
    refine ⟨_, rfl, ⟨?_, fun u hu => ?_, vs', rfl, ?_⟩, h5⟩
    · rw [List.nodup_append]
      exact ⟨h1, by simp, fun a ha b hb e => by simp at hb; subst hb; subst e; exact hF ha⟩
    · rcases List.mem_append.1 hu with hu | hu
      · exact h2 u hu
      · simp at hu; omega
    · rw [posOf_snoc]
      exact h4
end Go.Proofs.Ytdpjmpemjcbmaaa
