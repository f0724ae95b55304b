/- The contract of the nodes by definition (conditions: the netlist lies where its value says; at most 1000000 nodes; words of 0 to 64 bits, ports' first variables no more than 2^61 from 0). -/
import Derived.Test.YtchnpooijaalnaaNodes
namespace Go.Proofs.Ytchnpooijaalnaa
open Go.ChangeShapes Go.WideShapes Go.RowKit
set_option linter.unusedVariables false

def NodeAt (w : World) (P : Nat → Prop) (b o : Nat) (x : PNode) : Prop :=
  ∃ a c a2 c2, w.cell? ⟨b, o, none⟩ = some (.bool x.nr) ∧ w.cell? ⟨b, o + 1, none⟩ = some (.int .i64 x.nm) ∧ w.cell? ⟨b, o + 2, none⟩ = some (.int .i64 x.na) ∧ w.cell? ⟨b, o + 3, none⟩ = some (.slice a x.nf.length c) ∧ w.cell? ⟨b, o + 4, none⟩ = some (.slice a2 x.nv.length c2) ∧
    SrcP w P a x.nf ∧ SrcP w P a2 x.nv
/-- A list of nodes, in blocks of which P holds. -/
def NodesAt (w : World) (P : Nat → Prop) (A : Option Addr) (D : List PNode) : Prop :=
  D ≠ [] → ∃ b o, A = some ⟨b, o, none⟩ ∧ P b ∧ ∀ j x, D[j]? = some x → NodeAt w P b (o + j * 5) x
theorem NodeAt.keep {w w' : World} {P : Nat → Prop} {b o : Nat} {x : PNode} (h : NodeAt w P b o x) (hb : P b) (hk : ∀ b, P b → w'.heap[b]? = w.heap[b]?) : NodeAt w' P b o x := by
  obtain ⟨a, c, a2, c2, h0, h1, h2, h3, h4, h5, h6⟩ := h
  have hc : ∀ i, w'.cell? ⟨b, i, none⟩ = w.cell? ⟨b, i, none⟩ := fun i => World.cell?_of_block (a := ⟨b, i, none⟩) (hk b hb)
  exact ⟨a, c, a2, c2, (hc _).trans h0, (hc _).trans h1, (hc _).trans h2, (hc _).trans h3, (hc _).trans h4, h5.keep hk, h6.keep hk⟩
theorem NodesAt.keep {w w' : World} {P : Nat → Prop} {A : Option Addr} {D : List PNode} (h : NodesAt w P A D) (hk : ∀ b, P b → w'.heap[b]? = w.heap[b]?) : NodesAt w' P A D := fun hn => by
  obtain ⟨b, o, e, hb, h1⟩ := h hn
  exact ⟨b, o, e, hb, fun j x hj => (h1 j x hj).keep hb hk⟩
theorem NodesAt.at {w : World} {P : Nat → Prop} {A : Option Addr} {D : List PNode} (h : NodesAt w P A D) {j : Nat} {x : PNode} (hj : D[j]? = some x) : ∃ b o, A = some ⟨b, o, none⟩ ∧ P b ∧ NodeAt w P b (o + j * 5) x := by
  have hn : D ≠ [] := by rintro rfl; simp at hj
  obtain ⟨b, o, e, hb, h1⟩ := h hn
  exact ⟨b, o, e, hb, h1 j x hj⟩
/-- The blocks below B, and those laid from the block n on. -/
def Sided (B n : Nat) (w : World) (b : Nat) : Prop := (b < B ∨ n ≤ b) ∧ b < w.heap.size
/-- What a call leaves that answers nodes. -/
def NodesLeft (B : Nat) (w : World) (l : List PNode) (e : Ending) (w' : World) : Prop := ∃ A c, e = .returned (.slice A l.length c) ∧ NodesAt w' (Sided B w.heap.size w') A l ∧ Below w.heap.size w w'

theorem cell_of_own {w : World} {base e : Nat} {g n cap : Nat} {xs : List Value} (h : w.ownsRow base e 5 (.slice (some ⟨g, 0, none⟩) n cap) n xs) (j : Nat) (hj : j < n * 5) : w.cell? ⟨g, j, none⟩ = xs[j]? := h.cellAt j hj
theorem OwnN.form {P : Nat → Prop} {B : Nat} {w0 w : World} {v : Value} {ps : List (PNode × NodeS)} (h : OwnN P B w0 w v ps) (hP : ∀ b, B ≤ b → P b) : ∃ A c, v = .slice A ps.length c ∧ NodesAt w (fun b => P b ∧ b < w.heap.size) A (ps.map Prod.fst) := by
  rcases h.row.2 with ⟨h1, h0⟩ | ⟨g, cap, cur, hv, hb, hg, hnc, hcm, hs, ht⟩
  · have : ps = [] := List.eq_nil_of_length_eq_zero h0
    subst this
    exact ⟨none, 0, h1, fun hn => absurd rfl hn⟩
  · refine ⟨_, cap, hv, fun _ => ⟨g, 0, rfl, ⟨hP g hb, lt_of_row hg⟩, fun j x hj => ?_⟩⟩
    have hrow := h.row
    rw [hv] at hrow
    rw [List.getElem?_map] at hj
    obtain ⟨p, hp, rfl⟩ := Option.map_eq_some_iff.1 hj
    have hjl := lt_of_some hp
    have hc : ∀ i u, i < 5 → (nodeCells p)[i]? = some u → w.cell? ⟨g, j * 5 + i, none⟩ = some u := fun i u hi hu => by
      rw [cell_of_own hrow (j * 5 + i) (by omega), flat_get nodeCells 5 (fun _ => rfl) ps j i p hp hi, hu]
    obtain ⟨q1, q2⟩ := h.elems p (mem_of_some hp)
    rw [Nat.zero_add]
    exact ⟨p.2.a, p.2.c, p.2.a2, p.2.c2, hc 0 _ (by omega) rfl, hc 1 _ (by omega) rfl, hc 2 _ (by omega) rfl, hc 3 _ (by omega) rfl, hc 4 _ (by omega) rfl, q1.srcP, q2.srcP⟩

theorem nlen_of {ps : List (PNode × NodeS)} {T D : List PNode} (h : ps.map Prod.fst ++ T = D) : ps.length ≤ D.length := by
  have := congrArg List.length h
  simp at this
  omega

set_option maxRecDepth 100000 in
set_option maxHeartbeats 4000000 in
theorem rnodes_any (n : PNet) (S : NetS) (B : Nat) (w : World) (h : NetAt w B S n) (hBw : B ≤ w.heap.size) (hm : n.modest) (ht : ∀ m ∈ n.mems, m.told) (hd : n.nodes.length ≤ 1000000) :
    Calls Try.prog 18 #[.agg #[.int .i64 n.vars, .slice S.i n.inputs.length S.ic, .slice S.l n.latches.length S.lc, .slice S.o n.outs.length S.oc, .slice S.b n.bads.length S.bc, .slice S.c n.cons.length S.cc, .slice S.m n.mems.length S.mc, .slice S.a n.ands.length S.ac]] w (NodesLeft B w n.nodes) := by
  have hbx := below_box w #[.int .i64 n.vars, .slice S.i n.inputs.length S.ic, .slice S.l n.latches.length S.lc, .slice S.o n.outs.length S.oc, .slice S.b n.bads.length S.bc, .slice S.c n.cons.length S.cc, .slice S.m n.mems.length S.mc, .slice S.a n.ands.length S.ac] 27
  have hM := netBox_new w n S 27
  have hN := NetAt.below hbx hBw h
  have hB2 : w.heap.size ≤ (w.alloc (.cells #[.int .i64 n.vars, .slice S.i n.inputs.length S.ic, .slice S.l n.latches.length S.lc, .slice S.o n.outs.length S.oc, .slice S.b n.bads.length S.bc, .slice S.c n.cons.length S.cc, .slice S.m n.mems.length S.mc, .slice S.a n.ands.length S.ac] 27)).heap.size := by simp
  generalize hPe : (fun b => b < B ∨ w.heap.size ≤ b) = P
  have hPl : ∀ b, b < B → P b := fun b hb => by rw [← hPe]; exact .inl hb
  have hPh : ∀ b, w.heap.size ≤ b → P b := fun b hb => by rw [← hPe]; exact .inr hb
  have HPE := Lib.hid hPe
  have HPL := Lib.hid hPl
  have HPH := Lib.hid hPh
  clear hPe hPl hPh
  have hm1 := hm.mems
  have ha1 := hm.ands
  have hp1 := Lib.hid hm.ports
  have HT := Lib.hid ht
  clear h hm ht
  go_enter Try.func18, Try.ntmps18
  go_wp2_with fail
  generalize w.alloc (.cells #[.int .i64 n.vars, .slice S.i n.inputs.length S.ic, .slice S.l n.latches.length S.lc, .slice S.o n.outs.length S.oc, .slice S.b n.bads.length S.bc, .slice S.c n.cons.length S.cc, .slice S.m n.mems.length S.mc, .slice S.a n.ands.length S.ac] 27) = w2 at hN hM hbx hB2 ⊢
  have HN := Lib.hid (And.intro hN (And.intro hM hbx))
  clear hbx hM hN
  have HB := Lib.hid HN.out.2.2
  have HB2 := Lib.hid hB2
  have HBW := Lib.hid (Nat.le_trans hBw hB2)
  clear hB2
  go_loopg [3, 4] n.ands.length (fun m s3 s4 wx => ∃ (k : Nat) (ps : List (PNode × NodeS)), k + m = n.ands.length ∧ s4 = .int .i64 k ∧ OwnN P w2.heap.size w2 wx s3 ps ∧ Aside (ps.map Prod.fst ++ (andNodes k (n.ands.drop k) ++ memNodes 0 n.mems) = n.nodes))
  case atStart => exact ⟨0, [], by omega, rfl, OwnN.nil _, by simp [Aside, PNet.nodes]⟩
  case round =>
    obtain ⟨k, ps, hk, rfl, hO, HL⟩ := hrel
    generalize gk = m at *
    have hL : ps.length ≤ 1000000 := Nat.le_trans (nlen_of HL.out) hd
    obtain ⟨e0, e1, e2, e3, e4, e5, e6, e7, e8⟩ := HN.out.2.1.below hO.below HN.out.2.1.lt
    have hNw := NetAt.below hO.below HBW.out HN.out.1
    by_cases hlt : k < n.ands.length
    · obtain ⟨x, hx⟩ := some_of_lt hlt
      have hltI : (k : Int) < (n.ands.length : Int) := by omega
      obtain ⟨b, o, hS, hbg, hcell⟩ := hNw.ands.at hx
      obtain ⟨m0, m1, m2⟩ := hcell k x hx
      rw [hS] at e7
      have HX := Lib.hid (show ps.map Prod.fst ++ ⟨false, 0, (k : Int), [x.aa, x.ab], [x.av]⟩ :: (andNodes (k + 1) (n.ands.drop (k + 1)) ++ memNodes 0 n.mems) = n.nodes by
        rw [← HL.out, drop_some hx]; simp [andNodes])
      have hO1 := hO.alloc (.cells #[.int .i64 x.av, .int .i64 x.aa, .int .i64 x.ab] 59)
      have hE1 := Elem.two (wr.alloc (.cells #[.int .i64 x.av, .int .i64 x.aa, .int .i64 x.ab] 59)) u3 x.aa x.ab (wr.heap.size + 1) (by simp) hO1.lt (HPH.out _ (by have := hO.size; have := HB2.out; omega))
      have hO2 := hO1.alloc (.cells #[.int .i64 x.aa, .int .i64 x.ab] 3)
      have hE2 := Elem.one ((wr.alloc (.cells #[.int .i64 x.av, .int .i64 x.aa, .int .i64 x.ab] 59)).alloc (.cells #[.int .i64 x.aa, .int .i64 x.ab] 3)) u3 x.av (wr.heap.size + 1 + 1) (by simp) hO2.lt (HPH.out _ (by have := hO.size; have := HB2.out; omega))
      have hO3 := hO2.alloc (.cells #[.int .i64 x.av] 3)
      have HE := Lib.hid (And.intro (hE1.alloc (.cells #[.int .i64 x.av] 3)) (And.intro hE2 hO3))
      clear hS hcell hNw hx HL hO1 hE1 hO2 hE2 hO3
      go_wp2_with (at_builtin; refine wpl_node (P := P) (v := u3) rfl _ _ rfl rfl HE.out.2.2 (⟨false, 0, (k : Int), [x.aa, x.ab], [x.av]⟩, ⟨some ⟨wr.heap.size + 1, 0, none⟩, 2, some ⟨wr.heap.size + 1 + 1, 0, none⟩, 1⟩) HE.out.1 HE.out.2.1 rfl (by simp) hL ?_; intro v5 w5 hO5)
      go_roundg (m - 1)
      case measure => omega
      case rel => exact ⟨k + 1, _, by omega, by first | rfl | simp, hO5, by show _ = _; rw [← HX.out]; simp⟩
    · have hltn : ¬ ((k : Int) < (n.ands.length : Int)) := by omega
      have HL2 := Lib.hid (show ps.map Prod.fst ++ memNodes 0 (n.mems.drop 0) = n.nodes by
        rw [← HL.out, List.drop_eq_nil_of_le (show n.ands.length ≤ k by omega)]; simp [andNodes])
      clear HL hNw
      go_wp2_with fail
      go_loopg [3, 6] n.mems.length (fun m s3 s6 wx => ∃ (i : Nat) (ps : List (PNode × NodeS)), i + m = n.mems.length ∧ s6 = .int .i64 i ∧ OwnN P w2.heap.size w2 wx s3 ps ∧ Aside (ps.map Prod.fst ++ memNodes i (n.mems.drop i) = n.nodes))
      case atStart => exact ⟨0, ps, by omega, rfl, hO, HL2.out⟩
      case round =>
        clear hO HL2 hL e0 e1 e2 e3 e4 e5 e6 e7 e8 hltn hk hlt
        obtain ⟨i, ps, hi, rfl, hO, HL⟩ := hrel
        generalize gk = m2 at *
        have hL : ps.length ≤ 1000000 := Nat.le_trans (nlen_of HL.out) hd
        obtain ⟨e0, e1, e2, e3, e4, e5, e6, e7, e8⟩ := HN.out.2.1.below hO.below HN.out.2.1.lt
        by_cases hlt : i < n.mems.length
        · obtain ⟨x, hx⟩ := some_of_lt hlt
          have hltI : (i : Int) < (n.mems.length : Int) := by omega
          have HX := Lib.hid hx
          have HL2 := Lib.hid (show ps.map Prod.fst ++ (portNodes x.mw i 0 (x.mr.drop 0) ++ memNodes (i + 1) (n.mems.drop (i + 1))) = n.nodes by
            rw [← HL.out, drop_some hx]; simp [memNodes])
          have hxt := HT.out x (mem_of_some hx)
          have hxl := (hp1.out x (mem_of_some hx)).1
          obtain ⟨b, o, hS, hbB, hcell⟩ := HN.out.1.mems.at hx
          have hbg := Nat.lt_of_lt_of_le hbB HBW.out
          obtain ⟨a, c, a2, c2, m0', m1', m2', m3', m4', hPo⟩ := hcell i x hx
          have HC := Lib.hid (And.intro hbg (And.intro m0' (And.intro m1' (And.intro m2' (And.intro m3' (And.intro m4' (And.intro hPo hS)))))))
          clear hbB hcell hx HL hPo m0' m1' m2' m3' m4' hS
          go_wp2_with fail
          go_loopg [3, 7] x.mr.length (fun m s3 s7 wx => ∃ (j : Nat) (ps : List (PNode × NodeS)), j + m = x.mr.length ∧ s7 = .int .i64 j ∧ OwnN P w2.heap.size w2 wx s3 ps ∧ Aside (ps.map Prod.fst ++ (portNodes x.mw i j (x.mr.drop j) ++ memNodes (i + 1) (n.mems.drop (i + 1))) = n.nodes))
          case atStart => exact ⟨0, ps, by omega, rfl, hO, HL2.out⟩
          case round =>
            clear hO HL2 hL e0 e1 e2 e3 e4 e5 e6 e7 e8
            obtain ⟨j, ps, hj, rfl, hO, HL⟩ := hrel
            generalize gk = m3 at *
            have hL : ps.length ≤ 1000000 := Nat.le_trans (nlen_of HL.out) hd
            obtain ⟨e0, e1, e2, e3, e4, e5, e6, e7, e8⟩ := HN.out.2.1.below hO.below HN.out.2.1.lt
            have q0 := (hO.below.cell (p := ⟨b, o + i * 5, none⟩) HC.out.1).trans HC.out.2.1
            have q1 := (hO.below.cell (p := ⟨b, o + i * 5 + 1, none⟩) HC.out.1).trans HC.out.2.2.1
            have q2 := (hO.below.cell (p := ⟨b, o + i * 5 + 2, none⟩) HC.out.1).trans HC.out.2.2.2.1
            have q3 := (hO.below.cell (p := ⟨b, o + i * 5 + 3, none⟩) HC.out.1).trans HC.out.2.2.2.2.1
            have q4 := (hO.below.cell (p := ⟨b, o + i * 5 + 4, none⟩) HC.out.1).trans HC.out.2.2.2.2.2.1
            rw [HC.out.2.2.2.2.2.2.2] at e6
            by_cases hjl : j < x.mr.length
            · obtain ⟨r, hr⟩ := some_of_lt hjl
              have hjlI : (j : Int) < (x.mr.length : Int) := by omega
              have hj0 : (0 : Int) ≤ (j : Int) := by omega
              have hi0 : (0 : Int) ≤ (i : Int) := by omega
              obtain ⟨br, orr, hSr, hbB, hcr⟩ := HC.out.2.2.2.2.2.2.1.1.at hr
              have hbr := Nat.lt_of_lt_of_le hbB HBW.out
              subst hSr
              obtain ⟨ar, cr, r0', r1', hsr, _⟩ := hcr j r hr
              have HSR := Lib.hid hsr
              have HO := Lib.hid hO
              have HX2 := Lib.hid (show ps.map Prod.fst ++ ⟨true, (i : Int), (j : Int), r.ra, dataL r.rv x.mw⟩ :: (portNodes x.mw i (j + 1) (x.mr.drop (j + 1)) ++ memNodes (i + 1) (n.mems.drop (i + 1))) = n.nodes by
                rw [← HL.out, drop_some hr]; simp [portNodes])
              have HK := Lib.hid fun (W : World) (hW : Below w2.heap.size w2 W) => show (W.cell? ⟨w.heap.size, 6, none⟩ = some (.slice (some ⟨b, o, none⟩) n.mems.length S.mc) ∧ W.cell? ⟨b, o + i * 5, none⟩ = some (.int .i64 x.ma) ∧ W.cell? ⟨b, o + i * 5 + 1, none⟩ = some (.int .i64 x.mw) ∧ W.cell? ⟨b, o + i * 5 + 2, none⟩ = some (.bool x.mn) ∧ W.cell? ⟨b, o + i * 5 + 3, none⟩ = some (.slice (some ⟨br, orr, none⟩) x.mr.length c) ∧ W.cell? ⟨b, o + i * 5 + 4, none⟩ = some (.slice a2 x.mx.length c2) ∧ W.cell? ⟨br, orr + j * 2 + 1, none⟩ = some (.slice ar r.ra.length cr)) ∧ Hid (Below w2.heap.size w2 W) from
                ⟨⟨(HN.out.2.1.below hW HN.out.2.1.lt).n6.trans (by rw [HC.out.2.2.2.2.2.2.2]), (hW.cell (p := ⟨b, o + i * 5, none⟩) HC.out.1).trans HC.out.2.1, (hW.cell (p := ⟨b, o + i * 5 + 1, none⟩) HC.out.1).trans HC.out.2.2.1, (hW.cell (p := ⟨b, o + i * 5 + 2, none⟩) HC.out.1).trans HC.out.2.2.2.1,
                  (hW.cell (p := ⟨b, o + i * 5 + 3, none⟩) HC.out.1).trans HC.out.2.2.2.2.1, (hW.cell (p := ⟨b, o + i * 5 + 4, none⟩) HC.out.1).trans HC.out.2.2.2.2.2.1, (hW.cell (p := ⟨br, orr + j * 2 + 1, none⟩) hbr).trans r1'⟩, Lib.hid hW⟩
              have HQ := Lib.hid fun (W : World) (hW : (W.cell? ⟨w.heap.size, 6, none⟩ = some (.slice (some ⟨b, o, none⟩) n.mems.length S.mc) ∧ W.cell? ⟨b, o + i * 5, none⟩ = some (.int .i64 x.ma) ∧ W.cell? ⟨b, o + i * 5 + 1, none⟩ = some (.int .i64 x.mw) ∧ W.cell? ⟨b, o + i * 5 + 2, none⟩ = some (.bool x.mn) ∧ W.cell? ⟨b, o + i * 5 + 3, none⟩ = some (.slice (some ⟨br, orr, none⟩) x.mr.length c) ∧ W.cell? ⟨b, o + i * 5 + 4, none⟩ = some (.slice a2 x.mx.length c2) ∧ W.cell? ⟨br, orr + j * 2 + 1, none⟩ = some (.slice ar r.ra.length cr)) ∧ Hid (Below w2.heap.size w2 W)) => rdata_any x (some ⟨br, orr, none⟩) c a2 c2 j r W (Ports.wider (Nat.le_trans HBW.out hW.2.out.size) (Ports.below hW.2.out HBW.out HC.out.2.2.2.2.2.2.1)) hr hxl (by have := hxt.1; have := hxt.2.1; omega) (hxt.2.2 r (mem_of_some hr))
              have HT2 := Lib.hid fun (W V : World) (hW : (W.cell? ⟨w.heap.size, 6, none⟩ = some (.slice (some ⟨b, o, none⟩) n.mems.length S.mc) ∧ W.cell? ⟨b, o + i * 5, none⟩ = some (.int .i64 x.ma) ∧ W.cell? ⟨b, o + i * 5 + 1, none⟩ = some (.int .i64 x.mw) ∧ W.cell? ⟨b, o + i * 5 + 2, none⟩ = some (.bool x.mn) ∧ W.cell? ⟨b, o + i * 5 + 3, none⟩ = some (.slice (some ⟨br, orr, none⟩) x.mr.length c) ∧ W.cell? ⟨b, o + i * 5 + 4, none⟩ = some (.slice a2 x.mx.length c2) ∧ W.cell? ⟨br, orr + j * 2 + 1, none⟩ = some (.slice ar r.ra.length cr)) ∧ Hid (Below w2.heap.size w2 W)) (hV : Below W.heap.size W V) => HK.out V (below_on hW.2.out hV)
              have HX3 := Lib.hid hxt
              clear hbB hr hcr r0' r1' hsr HL hO hxt
              go_wp2_with fail
              go_region_held3 (fun W => (W.cell? ⟨w.heap.size, 6, none⟩ = some (.slice (some ⟨b, o, none⟩) n.mems.length S.mc) ∧ W.cell? ⟨b, o + i * 5, none⟩ = some (.int .i64 x.ma) ∧ W.cell? ⟨b, o + i * 5 + 1, none⟩ = some (.int .i64 x.mw) ∧ W.cell? ⟨b, o + i * 5 + 2, none⟩ = some (.bool x.mn) ∧ W.cell? ⟨b, o + i * 5 + 3, none⟩ = some (.slice (some ⟨br, orr, none⟩) x.mr.length c) ∧ W.cell? ⟨b, o + i * 5 + 4, none⟩ = some (.slice a2 x.mx.length c2) ∧ W.cell? ⟨br, orr + j * 2 + 1, none⟩ = some (.slice ar r.ra.length cr)) ∧ Hid (Below w2.heap.size w2 W)) (first | exact HK.out _ HO.out.below.drew | exact HT2.out _ _ (by assumption) (by assumption) | exact HT2.out _ _ (by assumption) ((Below.refl _ _).alloc (Nat.le_refl _) _) | exact HK.out _ (OwnN.below (by assumption)))
                (first
                  | (go_at_call 19; refine (HQ.out _ (by assumption)).mono ?_; rintro e w5 ⟨v5, rfl, hO5⟩; obtain ⟨A5, c5, rfl, hH5⟩ := hO5.high (Nat.le_refl _); have hb5 : Below wr.drew.heap.size wr.drew w5 := hO5.2.1)
                  | (refine step_node (P := P) (w0 := w2) (B := w2.heap.size) (v := u3) (ps := ps) (g := w5.heap.size) ?_ (.tmp 51) (.tmp 72) ?_ ?_ ?_ (⟨true, (i : Int), (j : Int), r.ra, dataL r.rv x.mw⟩, ⟨ar, cr, A5, c5⟩) ?_ ?_ ?_ ?_ ?_ ?_
                     · rfl
                     · rfl
                     · rfl
                     · exact HO.out.call ((Below.refl _ wr).drew.trans hb5)
                     · exact Elem.old (HSR.out.below ((HO.out.below.drew).trans (hb5.mono (show w2.heap.size ≤ wr.heap.size from HO.out.size))) HBW.out) (by have := HBW.out; have := HO.out.size; have := hb5.size; simp at this; omega) (fun k hk => Nat.le_trans HBW.out (HO.out.ge k hk)) HPL.out
                     · exact Elem.new (w1 := wr) hH5 (Src.of_own hO5.1) HO.out.lt (fun b hb => HPH.out b (Nat.le_trans HB2.out (Nat.le_trans HO.out.size hb)))
                     · rfl
                     · rfl
                     · exact hL
                     intro v6 w6 hO6)
                  | fail)
              all_goals
                go_wp2_with fail
                go_roundg (m3 - 1)
                case measure => omega
                case rel => exact ⟨j + 1, _, by omega, by first | rfl | simp, hO6, by show _ = _; rw [← HX2.out]; simp⟩
            · have hjn : ¬ ((j : Int) < (x.mr.length : Int)) := by omega
              have HX2 := Lib.hid (show ps.map Prod.fst ++ memNodes (i + 1) (n.mems.drop (i + 1)) = n.nodes by
                rw [← HL.out, List.drop_eq_nil_of_le (show x.mr.length ≤ j by omega)]; simp [portNodes])
              clear HL
              go_wp2_with fail
              go_roundg (m2 - 1)
              case measure => omega
              case rel => exact ⟨i + 1, _, by omega, by first | rfl | simp, hO, HX2.out⟩
        · have hltn : ¬ ((i : Int) < (n.mems.length : Int)) := by omega
          have HL2 := Lib.hid (show ps.map Prod.fst = n.nodes by
            rw [← HL.out, List.drop_eq_nil_of_le (show n.mems.length ≤ i by omega)]; simp [memNodes])
          obtain ⟨A, c, rfl, hR⟩ := hO.form (fun b hb => HPH.out b (Nat.le_trans HB2.out hb))
          rw [← HPE.out] at hR
          have HO := Lib.hid (And.intro hO hR)
          clear HL hO hR
          go_wp2_with fail
          go_ret
          refine ⟨A, c, by rw [← HL2.out]; simp, by rw [← HL2.out]; exact HO.out.2, HB.out.trans (HO.out.1.below.mono HB.out.size)⟩
end Go.Proofs.Ytchnpooijaalnaa
