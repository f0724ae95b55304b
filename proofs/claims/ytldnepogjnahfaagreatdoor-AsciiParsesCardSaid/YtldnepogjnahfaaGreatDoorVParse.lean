/- Parse by contract (conditions: the bytes can be read; at most 400000 of them; the netlist is such that topo.Check's contract speaks of it). -/
import Derived.Test.YtldnepogjnahfaaGreatDoorVTx
import Derived.Test.YtldnepogjnahfaaGreatDoorVText
set_option linter.unusedVariables false
namespace Go.Proofs.YtldnepogjnahfaaGreatDoor
open Go.ChangeShapes Go.WideShapes Go.RowKit
set_option linter.unusedSimpArgs false
def parseP (xs:List Int):PNet × Int × Int :=
  match ((Ps.begun xs).line1 aagB aagmB).2.2.e with
  | some y=>(n0 0,y.2,y.1)
  | none=>match ((Ps.net1 ((Ps.begun xs).line1 aagB aagmB)).2.finish (Ps.net1 ((Ps.begun xs).line1 aagB aagmB)).1.check).e with
    | some y=>(n0 0,y.2,y.1)
    | none=>((Ps.net1 ((Ps.begun xs).line1 aagB aagmB)).1,0,0)
def ParseLeft (w:World) (y:PNet × Int × Int) (e:Ending) (w':World):Prop :=
  ∃ (n:PNet) (S:NetS),n=y.1∧e=.returned (.tuple #[.agg #[.int .i64 n.vars,.slice S.i n.inputs.length S.ic,.slice S.l n.latches.length S.lc,.slice S.o n.outs.length S.oc,.slice S.b n.bads.length S.bc,.slice S.c n.cons.length S.cc,.slice S.m n.mems.length S.mc,.slice S.a n.ands.length S.ac],.int .i64 y.2.1,.int .i64 y.2.2])∧NetAt w' w'.heap.size S n∧Below w.heap.size w w'
theorem text_two {p r q:Nat} {w w':World} {xs:List Int} {e:Ending} (h:TextLeft p r q w ((Ps.begun xs).line1 aagB aagmB) e w'):e=.returned (.tuple #[])∧Kept3 p r q w w'∧∃ g m S n s',NAt p r g w' S n∧PAt 2 p r g m n.vars (NCof S n) w' s'∧told n s'=parseP xs∧w'.cell? ⟨q,0,none⟩=some (.pointer (some ⟨p,0,none⟩)):=by
  obtain ⟨h1,h2,h3⟩:=h
  refine ⟨h1,h2,?_⟩
  unfold parseP told
  rcases h3 with ⟨h4,h5⟩ | ⟨h4,g,S,h5,h6⟩
  · refine ⟨_,_,S0,n0 ((Ps.begun xs).line1 aagB aagmB).1,_,nat_empty _ _ _ _ _,h5,?_,?_⟩
    · cases he:((Ps.begun xs).line1 aagB aagmB).2.2.e with
      | none=>exact absurd he h4
      | some y=>rfl
    · have h7:w'.heap[q]?=_:=h5.ext.1
      rw [cell_of_row _ _ _ _ _ _ h7];rfl
  · exact ⟨g,_,S,_,_,h5,h6,by rw [h4];rfl,h6.asc.1⟩
set_option maxRecDepth 100000 in
set_option maxHeartbeats 4000000 in
theorem Parse_any (a:Option Addr) (c:Nat) (xs:List Int) (w:World) (hL:Fa.Laid w) (hb:∀ x∈xs,0≤x∧x<256) (hn:xs.length≤400000) (h0:a=none→xs=[]) (hc:∀ q,a=some q→∀ i,i<xs.length→w.cell? (q.add i)=some (.int .u8 (xs.getD i 0)))
    (hG:((Ps.begun xs).line1 aagB aagmB).2.2.e=none→(Ps.net1 ((Ps.begun xs).line1 aagB aagmB)).2.e=none→(Ps.net1 ((Ps.begun xs).line1 aagB aagmB)).1.checks) :
    Calls Tryz.prog 13 #[.slice a xs.length c] w (ParseLeft w (parseP xs)):=by
  obtain ⟨W0,hW0⟩:∃ W0,W0=w.alloc (.cells #[.int .i64 0,.slice none 0 0,.slice none 0 0,.slice none 0 0,.slice none 0 0,.slice none 0 0,.slice none 0 0,.slice none 0 0] 27):=⟨_,rfl⟩
  have hb0:Below w.heap.size w W0:=by rw [hW0];exact (Below.refl _ w).alloc (Nat.le_refl _) _
  have hrow:W0.heap[w.heap.size]?=some (.cells #[.int .i64 0,.slice none 0 0,.slice none 0 0,.slice none 0 0,.slice none 0 0,.slice none 0 0,.slice none 0 0,.slice none 0 0] 27 (0,0)):=by rw [hW0];exact heap_alloc_new w _
  have H0:=Lib.hid (And.intro hb0 (And.intro hrow (hL.below hb0 hL.pos)))
  have h1:=Lib.hid (newParser_any a c xs W0 hn h0 (fun q hq i hi=>(World.cell?_of_block (a:=q.add i) (by rw [add_block];exact hb0.block q.block (by have hlt:=World.block_lt_of_cell? w _ (hc q hq i hi);rwa [add_block] at hlt))).trans (hc q hq i hi)))
  have HG:=Lib.hid hG
  clear hc hL h0 hb0 hrow hG
  subst hW0
  go_enter Tryz.func13,Tryz.ntmps13
  go_wp2_with fail
  refine h1.out.mono ?_
  rintro e w1 ⟨p,r,rfl,hr,hp,hR,hbl⟩
  have hP:=begun_text H0.out.2.2 hb hn hr hp hR hbl
  have hb2:Below w1.heap.size w1 (w1.alloc (.cells #[.pointer (some ⟨p,0,none⟩),.slice none 0 0] 66)):=(Below.refl _ w1).alloc (Nat.le_refl _) _
  have HB:=Lib.hid (And.intro ((H0.out.1.trans (hbl.mono H0.out.1.size)).alloc (by have h1:=hbl.size;have h2:=H0.out.1.size;omega) (.cells #[.pointer (some ⟨p,0,none⟩),.slice none 0 0] 66)) (And.intro ((hb2.block _ (by have h1:=lt_of_row H0.out.2.1;have h2:=hbl.size;omega)).trans ((hbl.block _ (lt_of_row H0.out.2.1)).trans H0.out.2.1)) (show w.heap.size<r∧r<p∧p<w1.heap.size from ⟨by have:=lt_of_row H0.out.2.1;omega,hr.2,lt_of_row hp⟩)))
  have HT:=Lib.hid (text_any rfl HG.out ⟨hr.2,lt_of_row hp⟩ hP)
  clear hr hP hbl hp hR hb2 H0 h1 HG
  go_wp2_with fail
  refine HT.out.mono ?_
  intro e w2 ht
  obtain ⟨rfl,hK,g,m,S,n,s',hN,hP,hy,hq0⟩:=text_two ht
  obtain ⟨hBb,hrow0,ho1,ho2,ho3⟩:=HB.out
  have hB2:Below w.heap.size w w2:=hBb.trans (hK.below hBb.size (by omega) (by omega) (by have:=hBb.size;simp at this;omega))
  have hrow:=(hK.block _ (lt_of_row hrow0) (by omega) (by omega) (by omega)).trans hrow0
  have HX:=Lib.hid (told_any hP hN)
  have H2:=Lib.hid (And.intro hB2 hrow)
  rw [hy] at HX
  clear ht hK HT HB hBb hrow0 hB2 hrow hP hN hy
  go_wp2_with fail
  refine HX.out.mono ?_
  generalize hZ:parseP xs=Z
  rintro e w3 ⟨n',S',rfl,rfl,hN3,hb3⟩
  obtain ⟨n,za,zk⟩:=Z
  have HZ:=Lib.hid hZ
  clear hZ
  have hrow3:=(hb3.block _ (lt_of_row H2.out.2)).trans H2.out.2
  obtain ⟨⟨c0,c1,c2,c3,c4,c5,c6,c7⟩,hf⟩:=eight_cells hrow3
  have f0:=hf 0
  have f1:=hf 1
  have f2:=hf 2
  have f3:=hf 3
  have f4:=hf 4
  have f5:=hf 5
  have f6:=hf 6
  have f7:=hf 7
  have H3:=Lib.hid (And.intro (eight_put hrow3 (.int .i64 n.vars) (.slice S'.i n.inputs.length S'.ic) (.slice S'.l n.latches.length S'.lc) (.slice S'.o n.outs.length S'.oc) (.slice S'.b n.bads.length S'.bc) (.slice S'.c n.cons.length S'.cc) (.slice S'.m n.mems.length S'.mc) (.slice S'.a n.ands.length S'.ac)) (eight_below (H2.out.1.trans (hb3.mono H2.out.1.size)) (Nat.le_refl _) (.int .i64 n.vars) (.slice S'.i n.inputs.length S'.ic) (.slice S'.l n.latches.length S'.lc) (.slice S'.o n.outs.length S'.oc) (.slice S'.b n.bads.length S'.bc) (.slice S'.c n.cons.length S'.cc) (.slice S'.m n.mems.length S'.mc) (.slice S'.a n.ands.length S'.ac)))
  have HD:=Lib.hid (And.intro hN3 (eight_data hrow3 (.int .i64 n.vars) (.slice S'.i n.inputs.length S'.ic) (.slice S'.l n.latches.length S'.lc) (.slice S'.o n.outs.length S'.oc) (.slice S'.b n.bads.length S'.bc) (.slice S'.c n.cons.length S'.cc) (.slice S'.m n.mems.length S'.mc) (.slice S'.a n.ands.length S'.ac)))
  clear hf hb3 hrow3 hN3 hq0
  dsimp only at *
  go_wp2_with fail
  refine bodyPost_ret (results_net rfl _ _ w.heap.size 27 _ (0,0) _ rfl H3.out.1 Tryz.underlying27 rfl (by kernel_rfl) (.int .i64 za) (.int .i64 zk) rfl rfl) rfl ?_
  rw [HZ.out]
  exact ⟨n,S',rfl,rfl,(HD.out.1.dataN HD.out.2).net,H3.out.2⟩
end Go.Proofs.YtldnepogjnahfaaGreatDoor
