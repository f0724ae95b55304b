/- What lines were collected into: rows that lie apart from the parser; what a turn of blocks that are no cells leaves (no condition but those that each theorem names); Lines that are collected: the contract of slices.Collect at numbers, over whatever range keeps to its contract (conditions: the parser lies in memory; at most 1000000 lines); Lines that are collected: the contract of slices.Collect at latches, over whatever range keeps to its contract (conditions: the parser lies in memory; at most 1000000 lines); Lines that are collected: the contract of slices.Collect at ands, over whatever range keeps to its contract (conditions: the parser lies in memory; at most 1000000 lines); Lines that are collected: the contract of slices.Collect at ports that read, over whatever range keeps to its contract (conditions: the parser lies in memory; at most 1000000 lines); Lines that are collected: the contract of slices.Collect at ports that write, over whatever range keeps to its contract (conditions: the parser lies in memory; at most 1000000 lines); Lines of each kind, made and collected, by contracts (conditions: the parser lies in memory; at most 400000 bytes; at most 1000000 parts; the function that reads a part keeps to its contract). -/
import Derived.RangeFuncNested
import Derived.RangeFuncBound
import Derived.RangeFuncCalls
import Derived.Test.YtldnepogjnahfaaGreatDoorVPPorts
import Derived.Test.YtldnepogjnahfaaGreatDoorVPx
import Derived.RangeFuncLeaves
import Derived.Shelf.Abstract
import Derived.Shelf.RegionOpen
import Derived.WalkKit
import Derived.OwnWalkIn
import Derived.TacticsInMore
import Derived.LoopNIn
import Derived.LoopIn
import Derived.Maps.AppendAt
import Derived.Test.YtldnepogjnahfaaGreatDoorVE1x
import Derived.Test.YtldnepogjnahfaaGreatDoorVE2x
set_option linter.unusedVariables false
namespace Go.Proofs.YtldnepogjnahfaaGreatDoor
open Go.ChangeShapes Go.WideShapes Go.RowKit
structure Turn (W W':World):Prop where
  size:W.heap.size≤W'.heap.size
  same:∀ (k:Nat) (cs:Array Value) (t:TypeId) (fz:Nat × Nat),W.heap[k]?=some (.cells cs t fz)→W'.heap[k]?=some (.cells cs t fz)
theorem Turn.of_grown {W W':World} {row:Option Nat} (hg:W.grownBy W' row) (hr:∀ r,row=some r→∃ o:Obj,W.heap[r]?=some o∧o.isCells=false):Turn W W' :=
  ⟨hg.size,fun k cs t fz hk=>(hg.block k (lt_of_row hk) fun e=>by
    obtain ⟨o,ho,hc⟩:=hr k e.symm
    rw [hk] at ho
    injection ho with ho
    subst ho
    exact absurd hc (by simp [Obj.isCells])).trans hk⟩
theorem Turn.put {W:World} {l:Nat} {o o':Obj} (h:W.heap[l]?=some o) (hc:o.isCells=false):Turn W (W.putObj l o') :=
  Turn.of_grown (grownBy_putObj' W l o') (fun r e=>by cases e;exact ⟨o,h,hc⟩)
theorem Turn.cell {W W':World} {b o:Nat} {v:Value} (h:Turn W W') (hc:W.cell? ⟨b,o,none⟩=some v):W'.cell? ⟨b,o,none⟩=some v:=by
  cases ho:W.heap[b]? with
  | none=>simp [World.cell?,ho] at hc
  | some x =>
    cases x with
    | cells cs t fz=>rw [World.cell?_of_block (a:=⟨b,o,none⟩) ((h.same b cs t fz ho).trans ho.symm)];exact hc
    | _=>simp [World.cell?,ho] at hc
theorem Turn.owns {W W':World} {base e size n:Nat} {v:Value} {xs:List Value} (h:Turn W W') (ho:W.ownsRow base e size v n xs):W'.ownsRow base e size v n xs:=by
  refine ⟨ho.1,?_⟩
  rcases ho.2 with h1 | ⟨q,cap,cur,hv,hq0,hq,h2⟩
  · exact .inl h1
  · exact .inr ⟨q,cap,cur,hv,hq0,h.same _ _ _ _ hq,h2⟩
theorem Turn.reader {W W':World} {r:Nat} {l:List Int} {i:Nat} (h:Turn W W') (hr:Sc.Rd W r l i):Sc.Rd W' r l i:=by
  obtain ⟨a,c,h1,h2,h3,h4,h5,h6⟩:=hr
  refine ⟨a,c,h.same _ _ _ _ h1,h2,h3,h4,h5,fun hl=>?_⟩
  obtain ⟨b,o,e1,e2,e3,e4⟩:=h6 hl
  exact ⟨b,o,e1,e2,Nat.lt_of_lt_of_le e3 h.size,fun j hj=>h.cell (e4 j hj)⟩
section
variable {dep p r g:Nat} {m:Ext} {V:Int} {N:NC} {s:Ps}
theorem Turn.pat {W W':World} (h:Turn W W') (hP:PAt dep p r g m V N W s):PAt dep p r g m V N W' s:=by
  obtain ⟨⟨ev,h1,h2⟩,h3,h4,h5,h6,h7,h8,h9,h10⟩:=hP
  exact ⟨⟨ev,h.same _ _ _ _ h1,h2.keep fun k cs hk=>(h.same _ _ _ _ hk).trans hk.symm⟩,h.reader h3,h8.keep W W' s.seen h4 (fun k cs t fz _ _ _ hk=>h.same _ _ _ _ hk),h.cell h5,h6,h7,h8,Nat.le_trans h9 h.size,h10⟩
theorem Turn.caught {cb pb wb cnt:Nat} {tf:TypeId} {fv:Value} {W W':World} (h:Turn W W') (hC:Caught cb pb wb p cnt tf fv W):Caught cb pb wb p cnt tf fv W':=⟨h.same _ _ _ _ hC.c,h.same _ _ _ _ hC.p,h.same _ _ _ _ hC.w⟩
theorem Turn.caughtL {lb qb:Nat} {tf:TypeId} {fv:Value} {W W':World} (h:Turn W W') (hC:CaughtL lb qb p tf fv W):CaughtL lb qb p tf fv W':=⟨h.same _ _ _ _ hC.w,h.same _ _ _ _ hC.p⟩
theorem Turn.lp {a:Option Addr} {c:Nat} {l:List Int} {W W':World} (h:Turn W W') (hL:LP p r g W a c l):LP p r g W' a c l:=by
  refine ⟨fun hn=>?_,hL.2⟩
  obtain ⟨b,o,e,⟨⟨cs,h0⟩,h1⟩,hc⟩:=hL.1 hn
  exact ⟨b,o,e,⟨⟨cs,h.same _ _ _ _ h0⟩,h1⟩,fun j x hj=>h.cell (hc j x hj)⟩
theorem Kept3.turned {w0 W W':World} {row:Option Nat} (h:Kept3 p r g w0 W) (hg:W.grownBy W' row) (hr:∀ r,row=some r→w0.heap.size≤r):Kept3 p r g w0 W' :=
  ⟨hg.os.trans h.os,hg.tape.trans h.tape,hg.output.trans h.output,Nat.le_trans h.size hg.size,fun k hk h1 h2 h3=>(hg.block k (by have:=h.size;omega) (fun e=>by have:=hr k e.symm;omega)).trans (h.block k hk h1 h2 h3)⟩
end
def RP {α:Type} (T:TypeId) (p r g k:Nat) (At:World→Nat→Nat→α→Prop) (W:World) (A:Option Addr) (c:Nat) (xs:List α):Prop :=
  (xs≠[]→∃ b o,A=some ⟨b,o,none⟩∧((∃ cs,W.heap[b]?=some (.cells cs T (0,0)))∧b≠p∧b≠r∧b≠g)∧∀ j x,xs[j]?=some x→At W b (o+j*k) x)∧xs.length≤c∧c≤9223372036854775807
def StaysAt {α:Type} (p r g:Nat) (At:World→Nat→Nat→α→Prop):Prop :=
  ∀ (A B:World) (b o:Nat) (x:α),Kept3 p r g A B→b<A.heap.size∧b≠p∧b≠r∧b≠g→At A b o x→At B b o x
theorem RP.kept {α:Type} {T:TypeId} {p r g k c:Nat} {At:World→Nat→Nat→α→Prop} {A B:World} {a:Option Addr} {xs:List α} (hAt:StaysAt p r g At) (h:RP T p r g k At A a c xs) (hk:Kept3 p r g A B):RP T p r g k At B a c xs:=by
  refine ⟨fun hn=>?_,h.2⟩
  obtain ⟨b,o,e,⟨⟨cs,h0⟩,hb⟩,hc⟩:=h.1 hn
  exact ⟨b,o,e,⟨⟨cs,(hk.block b (lt_of_row h0) hb.1 hb.2.1 hb.2.2).trans h0⟩,hb⟩,fun j x hj=>hAt A B b _ x hk ⟨lt_of_row h0,hb⟩ (hc j x hj)⟩
def Data (D:TypeId→Prop) (A B:World):Prop:=∀ (k:Nat) (cs:Array Value) (t:TypeId),D t→A.heap[k]?=some (.cells cs t (0,0))→B.heap[k]?=A.heap[k]?
theorem Data.setBox {D:TypeId→Prop} {A:World} {q j:Nat} {t:TypeId} {cs:Array Value} {v:Value} (hq:A.heap[q]?=some (.cells cs t (0,0))) (ht:¬ D t):Data D A (A.setCell ⟨q,j,none⟩ v):=fun k cs' t' hd hk=>by
  refine heap_setCell_other _ _ _ _ ?_
  show k≠q
  rintro rfl
  rw [hq] at hk
  injection hk with hk
  injection hk with _ e _
  rw [e] at ht
  exact ht hd
theorem Data.grown {D:TypeId→Prop} {A B:World} {base size n:Nat} {e:TypeId} {v:Value} {xs:List Value} (ho:A.ownsRow base e size v n xs) (he:¬ D e) (hg:A.grownBy B v.ownBlock):Data D A B:=fun k cs t hd hk=>hg.block k (lt_of_row hk) fun e2=>by
  rcases ho.2 with ⟨rfl,_⟩ | ⟨q,cap,cur,rfl,_,hq,_⟩
  · cases e2
  · injection e2 with e2
    subst e2
    rw [hq] at hk
    injection hk with hk
    injection hk with _ e3 _
    rw [e3] at he
    exact he hd
theorem Data.below {D:TypeId→Prop} {A B:World} (h:Below A.heap.size A B):Data D A B:=fun k cs t _ hk=>h.block k (lt_of_row hk)
theorem Data.trans {D:TypeId→Prop} {A B C:World} (h:Data D A B) (h':Data D B C):Data D A C:=fun k cs t hd hk=>(h' k cs t hd ((h k cs t hd hk).trans hk)).trans (h k cs t hd hk)
theorem Data.cell {D:TypeId→Prop} {A B:World} {b o:Nat} {t:TypeId} (h:Data D A B) (hd:D t) (hb:∃ cs,A.heap[b]?=some (.cells cs t (0,0))):B.cell? ⟨b,o,none⟩=A.cell? ⟨b,o,none⟩:=by
  obtain ⟨cs,hb⟩:=hb
  exact World.cell?_of_block (a:=⟨b,o,none⟩) (h b cs t hd hb)
theorem Data.lp {D:TypeId→Prop} {A B:World} {p r g c:Nat} {a:Option Addr} {l:List Int} (h:Data D A B) (hd:D 3) (hL:LP p r g A a c l):LP p r g B a c l:=by
  refine ⟨fun hn=>?_,hL.2⟩
  obtain ⟨b,o,e,⟨⟨cs,h0⟩,h1⟩,hc⟩:=hL.1 hn
  exact ⟨b,o,e,⟨⟨cs,(h b cs _ hd h0).trans h0⟩,h1⟩,fun j x hj=>(h.cell hd ⟨cs,h0⟩).trans (hc j x hj)⟩
theorem Data.rp {α:Type} {T:TypeId} {D:TypeId→Prop} {p r g k c:Nat} {At:World→Nat→Nat→α→Prop} {A B:World} {a:Option Addr} {xs:List α} (h:Data D A B) (hd:D T) (hAt:∀ b o x,(∃ cs,A.heap[b]?=some (.cells cs T (0,0)))→At A b o x→At B b o x) (hR:RP T p r g k At A a c xs):RP T p r g k At B a c xs:=by
  refine ⟨fun hn=>?_,hR.2⟩
  obtain ⟨b,o,e,⟨⟨cs,h0⟩,hb⟩,hc⟩:=hR.1 hn
  exact ⟨b,o,e,⟨⟨cs,(h b cs T hd h0).trans h0⟩,hb⟩,fun j x hj=>hAt b _ x ⟨cs,h0⟩ (hc j x hj)⟩
theorem Turn.rp {α:Type} {T:TypeId} {p r g k c:Nat} {At:World→Nat→Nat→α→Prop} {A B:World} {a:Option Addr} {xs:List α} (ht:Turn A B) (h:RP T p r g k At A a c xs) (hAt:∀ b o x,At A b o x→At B b o x):RP T p r g k At B a c xs:=by
  refine ⟨fun hn=>?_,h.2⟩
  obtain ⟨b,o,e,⟨⟨cs,h0⟩,hb⟩,hc⟩:=h.1 hn
  exact ⟨b,o,e,⟨⟨cs,ht.same _ _ _ _ h0⟩,hb⟩,fun j x hj=>hAt b _ x (hc j x hj)⟩
theorem Kept3.cell {p r g b o:Nat} {A B:World} (hk:Kept3 p r g A B) (hb:b<A.heap.size∧b≠p∧b≠r∧b≠g):B.cell? ⟨b,o,none⟩=A.cell? ⟨b,o,none⟩ :=
  World.cell?_of_block (a:=⟨b,o,none⟩) (hk.block b hb.1 hb.2.1 hb.2.2.1 hb.2.2.2)
theorem latch_stays (p r g:Nat):StaysAt p r g LatchAt:=fun A B b o x hk hb h=>⟨(hk.cell hb).trans h.1,(hk.cell hb).trans h.2.1,(hk.cell hb).trans h.2.2⟩
theorem and_stays (p r g:Nat):StaysAt p r g AndAt:=fun A B b o x hk hb h=>⟨(hk.cell hb).trans h.1,(hk.cell hb).trans h.2.1,(hk.cell hb).trans h.2.2⟩
def IntAt (W:World) (b o:Nat) (x:Int):Prop:=W.cell? ⟨b,o,none⟩=some (.int .i64 x)
theorem int_stays (p r g:Nat):StaysAt p r g IntAt:=fun A B b o x hk hb h=>(hk.cell hb).trans h
def PReadAt (p r g:Nat) (W:World) (b o:Nat) (x:PRead):Prop :=
  ∃ a c,W.cell? ⟨b,o,none⟩=some (.int .i64 x.rv)∧W.cell? ⟨b,o+1,none⟩=some (.slice a x.ra.length c)∧LP p r g W a c x.ra
theorem read_stays (p r g:Nat):StaysAt p r g (PReadAt p r g):=fun A B b o x hk hb h=>by
  obtain ⟨a,c,h1,h2,h3⟩:=h
  exact ⟨a,c,(hk.cell hb).trans h1,(hk.cell hb).trans h2,h3.kept hk⟩
def PWriteAt (p r g:Nat) (W:World) (b o:Nat) (x:PWrite):Prop :=
  ∃ a c a2 c2,W.cell? ⟨b,o,none⟩=some (.int .i64 x.wo)∧W.cell? ⟨b,o+1,none⟩=some (.slice a x.wa.length c)∧W.cell? ⟨b,o+2,none⟩=some (.slice a2 x.wd.length c2)∧LP p r g W a c x.wa∧LP p r g W a2 c2 x.wd
theorem write_stays (p r g:Nat):StaysAt p r g (PWriteAt p r g):=fun A B b o x hk hb h=>by
  obtain ⟨a,c,a2,c2,h1,h2,h3,h4,h5⟩:=h
  exact ⟨a,c,a2,c2,(hk.cell hb).trans h1,(hk.cell hb).trans h2,(hk.cell hb).trans h3,h4.kept hk,h5.kept hk⟩
theorem RP.of_own {α:Type} {p r g k base:Nat} {e:TypeId} {At:World→Nat→Nat→α→Prop} {W:World} {v:Value} {xs:List α} {cells:α→List Value} (hk:∀ x,(cells x).length=k)
    (hAt:∀ b o x,(∀ i u,(cells x)[i]?=some u→W.cell? ⟨b,o+i,none⟩=some u)→At W b o x)
    (h:W.ownsRow base e k v xs.length (xs.flatMap cells)) (hb:p<base∧r<base∧g<base):∃ a c,v=.slice a xs.length c∧RP e p r g k At W a c xs:=by
  rcases h.2 with ⟨h1,h0⟩ | ⟨q,cap,cur,hv,hq,hg,hnc,hcm,hs,ht⟩
  · have hx:xs=[]:=List.eq_nil_of_length_eq_zero h0
    subst hx
    exact ⟨none,0,h1,fun hn=>absurd rfl hn,Nat.le_refl _,by omega⟩
  · refine ⟨_,cap,hv,fun hn=>⟨q,0,rfl,⟨⟨_,hg⟩,by omega,by omega,by omega⟩,fun j x hj=>hAt q _ x fun i u hi=>?_⟩,hnc,by unfold maxLen at hcm;omega⟩
    have hik:i<k:=by rw [← hk x];exact (List.getElem?_eq_some_iff.1 hi).1
    have hjl:=lt_of_some hj
    have h2:=flat_get cells k hk xs j i x hj hik
    rw [Nat.zero_add,cell_of_row W q _ cur e (0,0) hg,← hi,← h2,← ht]
    rw [List.getElem?_take,if_pos (by
      calc j*k+i<j*k+k:=by omega
        _=(j+1)*k:=by rw [Nat.succ_mul]
        _≤xs.length*k:=Nat.mul_le_mul_right _ hjl)]
    simp
theorem keeps_own {W W':World} {base e size n:Nat} {v:Value} {xs:List Value} (ho:W.ownsRow base e size v n xs) (hg:W.grownBy W' v.ownBlock):KeepsOthers W W' :=
  ⟨hg.size,fun k o hk hc=>by
    refine (hg.block k (Array.getElem?_eq_some_iff.1 hk).1 fun e'=>?_).trans hk
    rcases ho.2 with ⟨rfl,_⟩ | ⟨q,cap,cur,rfl,_,hq,_⟩
    · cases e'
    · injection e' with e'
      subst e'
      rw [hq] at hk
      injection hk with hk
      subst hk
      simp [Obj.isCells] at hc⟩
theorem keeps_step {dep p r g:Nat} {m:Ext} {V:Int} {N:NC} {s:Ps} {W W':World} (hP:PAt dep p r g m V N W s) (hK:Kept3 p r g W W'):KeepsOthers W W' :=
  ⟨hK.size,fun k o hko hc=>by
    refine (hK.block k (Array.getElem?_eq_some_iff.1 hko).1 ?_ ?_ ?_).trans hko
    · rintro rfl
      obtain ⟨ev,h1,_⟩:=hP.row
      rw [hko] at h1;injection h1 with h1;subst h1;simp [Obj.isCells] at hc
    · rintro rfl
      obtain ⟨cs,h1⟩:=rd_row hP.rd
      rw [hko] at h1;injection h1 with h1;subst h1;simp [Obj.isCells] at hc
    · rintro rfl
      obtain ⟨cs,t,_,h1⟩:=hP.ok.row _ _ hP.ext
      rw [hko] at h1;injection h1 with h1;subst h1;simp [Obj.isCells] at hc⟩
def Old (p r g:Nat) (X:World→Prop) (w:World):Prop:=∀ A B:World,X A→(∀ k,k<w.heap.size→k≠p→k≠r→k≠g→B.heap[k]?=A.heap[k]?)→X B
theorem cells_new (W:World) (cs:List Value) (t:TypeId):∀ (j:Nat) (u:Value),cs[j]?=some u→(W.alloc (.cells cs.toArray t)).cell? ((⟨W.heap.size,0,none⟩:Addr).add j)=some u:=fun j u h=>by
  rw [Addr.add_lit,cell_of_row _ _ _ _ _ _ (heap_alloc_new W _),Nat.zero_add]
  simpa using h
theorem readAt_turn {p r g:Nat} {W W':World} {b o:Nat} {x:PRead} (ht:Turn W W') (h:PReadAt p r g W b o x):PReadAt p r g W' b o x:=by
  obtain ⟨a,c,h1,h2,h3⟩:=h
  exact ⟨a,c,ht.cell h1,ht.cell h2,ht.lp h3⟩
theorem writeAt_turn {p r g:Nat} {W W':World} {b o:Nat} {x:PWrite} (ht:Turn W W') (h:PWriteAt p r g W b o x):PWriteAt p r g W' b o x:=by
  obtain ⟨a,c,a2,c2,h1,h2,h3,h4,h5⟩:=h
  exact ⟨a,c,a2,c2,ht.cell h1,ht.cell h2,ht.cell h3,ht.lp h4,ht.lp h5⟩
open Go.ChangeShapes Go.WideShapes Go.RowKit Go.Shelf
attribute [local go_sem] Oper.semAt_some
def CollI (p r g:Nat) (m:Ext) (V:Int) (N:NC) (X:World→Prop) (w:World) (b:Nat) (s:Ps × List Int) (W:World):Prop :=
  PAt 2 p r g m V N W s.1∧X W∧Kept3 p r g w W∧∃ v,W.heap[b]?=some (.cells #[v] 22 (0,0))∧W.ownsRow (b+1) 3 1 v s.2.length (s.2.flatMap fun x=>[Value.int .i64 x])
section
variable {p r g:Nat} {m:Ext} {V:Int} {N:NC} {X:World→Prop} {w:World}
theorem collI_own (b:Nat) (hX:Old p r g X w) (hb:w.heap.size≤b) (B:Nat) (hB:w.heap.size≤B):OwnFrom B (CollI p r g m V N X w b):=fun s A W row hs hg hr=>by
  obtain ⟨h1,h2,h3,v,h4,h5⟩:=hs
  have ht:=Turn.of_grown hg fun r e=>(hr r e).2
  exact ⟨ht.pat h1,hX A W h2 fun k hk _ _ _=>hg.block k (by have:=h3.size;omega) (fun e=>by have:=(hr k e.symm).1;omega),h3.turned hg fun r e=>by have:=(hr r e).1;omega,v,ht.same _ _ _ _ h4,ht.owns h5⟩
theorem collI_step {b:Nat} (hX:Old p r g X w) (hb:p<b∧r<b∧g<b) (hw:w.heap.size≤b) {s s':Ps × List Int} {A B:World} (h:CollI p r g m V N X w b s A) (hs:LSt p r g m V s s' A B):CollI p r g m V N X w b s' B:=by
  obtain ⟨h1,h2,h3,v,h4,h5⟩:=h
  obtain ⟨e1,hP,hK⟩:=hs
  refine ⟨hP N h1,hX A B h2 fun k hk a1 a2 a3=>hK.block k (by have:=h3.size;omega) a1 a2 a3,h3.trans hK,v,(hK.block b (lt_of_row h4) (by omega) (by omega) (by omega)).trans h4,?_⟩
  rw [e1]
  exact own_step h5 hK (by omega)
set_option maxRecDepth 100000 in
set_option maxHeartbeats 8000000 in
theorem appendSeq_int {gf:Nat} {lb:Array Value} (eg:∀ args w,(callFunc gf args).run Tryz.prog w=.ok (.enter gf args) w) (s0:Ps) (hX:Old p r g X w) (hX0:X w) (hP:PAt 2 p r g m V N w s0) (cnt:Nat) (hcnt:cnt≤1000000) (Fi:Ps × List Int→Prop)
    (hseq:∀ w',Below w.heap.size w w'→SeqW (α:=Int) Fence.wide 4 Tryz.prog gf lb (fun s A=>(∃ N,PAt 2 p r g m V N A s.1)∧X A) (LSt p r g m V) (fun s x v A=>(s.1.e=none∧s.2.length<cnt)∧v=.int .i64 x) (fun s x=>(s.1,s.2++[x])) Fi (s0,[]) w') :
    Calls Tryz.prog 143 #[.slice none 0 0,.func (.func gf) #[] lb] w fun e w'=>∃ s l A c,Fi (s,l)∧e=.returned (.slice A l.length c)∧RP 3 p r g 1 IntAt w' A c l∧PAt 2 p r g m V N w' s∧Kept3 p r g w w':=by
  have hpl:=hP.lt
  have hgl:=hP.glt
  have hpt:=hP.top
  obtain ⟨i0,hi,hz0,hz1,hz2⟩:=info_parts int_info
  have HP:=Lib.hid hP
  have HX:=Lib.hid (And.intro hX hX0)
  have HSEQ:=Lib.hid hseq
  clear hP hX hX0 hseq
  refine (callsIn_wide (n:=5)).1 ?_
  refine callsIn_of_wp_marks Tryz.func143 rfl trivial ?_ rfl
  simp only [Tryz.ntmps143,List.size_toArray,List.length_cons,List.length_nil,Nat.reduceAdd,Nat.reduceSub,Array.replicate_succ,Array.replicate_zero,List.push_toArray,List.append_toArray,List.nil_append,List.cons_append]
  gi_wp2
  have hb1:Below w.heap.size w (w.alloc (.cells #[.slice none 0 0] 22)):=(Below.refl _ w).alloc (Nat.le_refl _) _
  have hrow:=heap_alloc_new w (.cells #[.slice none 0 0] 22)
  have hsz:(w.alloc (.cells #[.slice none 0 0] 22)).heap.size=w.heap.size+1:=by simp
  generalize w.alloc (.cells #[.slice none 0 0] 22)=w1 at *
  have hI0:CollI p r g m V N X w w.heap.size (s0,[]) w1:=⟨HP.out.below hb1,HX.out.1 w w1 HX.out.2 fun k hk _ _ _=>hb1.block k hk,Kept3.of_below hb1,_,hrow,World.ownsRow_nil _ _ _ _⟩
  refine wp_range (p0:=7) rfl (by omega) (gf:=gf) (lb:=lb) rfl trivial eg (HSEQ.out w1 hb1) (Below.refl _ _) (CollI p r g m V N X w w.heap.size) (collI_own _ HX.out.1 (Nat.le_refl _) _ (by omega))
    (fun s W h=>⟨⟨N,h.1⟩,h.2.1⟩) (fun s s' A B hA h hs=>collI_step HX.out.1 ⟨hpl.1,hpl.2,hgl⟩ (Nat.le_refl _) h hs)
    (fun s s' A B hk hs=>by obtain ⟨⟨N1,h1⟩,_⟩:=hk;exact keeps_step h1 hs.2.2)
    hI0 (fun y W=>CollI p r g m V N X w w.heap.size y.1 W∧y.1.2.length<cnt∧y.2.2={ tmps:=#[.slice none 0 0,.func (.func gf) #[] lb,.pointer (some ⟨w.heap.size,0,none⟩),undef,.slice none 0 0,.int .i64 y.2.1,.func (.func gf) #[] lb,.int .i64 y.2.1,undef,undef,undef,undef,undef],defers:=[] })
    (fun y A W row hs hg hr=>⟨collI_own _ HX.out.1 (Nat.le_refl _) _ (by omega) y.1 A W row hs.1 hg hr,hs.2⟩) ?assign ?body ?done
  case assign =>
    rintro l s x v W hW hI ⟨⟨he,hlt⟩,rfl⟩
    gi_wp2
    exact ⟨KeepsOthers.refl _,hI,hlt,trivial⟩
  case body =>
    rintro l ⟨s,xs⟩ x a' W hW ⟨⟨h1,h2,h3,v,h4,h5⟩,hlt,ha⟩
    dsimp only at ha hlt h1 h5
    subst ha
    have hwW:=lt_of_row h4
    have cb:W.cell? ⟨w.heap.size,0,none⟩=some v:=by rw [cell_of_row _ _ _ _ _ _ h4];rfl
    have HH:=Lib.hid (And.intro h1 (And.intro h2 (And.intro h3 h4)))
    clear h1 h2 h3 h4
    gi_wp2_with (gi_at_builtin;refine wpListIn_append_own _ rfl _ _ 22 rfl (w.heap.size+1) 3 i0 (.int .i64 0) 1 8 Tryz.underlying22 hi hz0 hz1 hz2 rfl (by decide) _ _ _ rfl (h5.alloc _) ⟨W.heap.size,0,none⟩ 1 1 [Value.int .i64 x] rfl rfl (cell_one_new _ _ _) (by simp [Value.oneCell']) (by unfold maxLen;omega) (by omega) (by simp;omega) ?_;intro v' w2 hO2 hgrow _;obtain ⟨g',cap',rfl⟩:=ownsRow_succ hO2;have h4':w2.heap[w.heap.size]?=some (.cells #[v] 22 (0,0)):=(hgrow.block _ (by simp;omega) (fun e=>by have:=((h5.alloc (.cells #[.int .i64 x] 3)).lt _ e.symm).1;omega)).trans ((Below.heap_alloc _ _ _ (by omega)).trans HH.out.2.2.2);have cb2:w2.cell? ⟨w.heap.size,0,none⟩=some v:=(by rw [cell_of_row _ _ _ _ _ _ h4'];rfl);have cf2:w2.frozen? ⟨w.heap.size,0,none⟩=false:=frozen_of_row _ _ _ _ _ h4';have H2:=Lib.hid (And.intro hO2 (And.intro hgrow h4'));clear hO2 hgrow h4')
    obtain ⟨hO2,hgrow,h4'⟩:=H2.out
    obtain ⟨h1,h2,h3,h4⟩:=HH.out
    have hoa:=h5.alloc (.cells #[.int .i64 x] 3)
    refine ⟨((KeepsOthers.alloc _ _).trans (keeps_own hoa hgrow)).trans (KeepsOthers.setCell _ _ _),⟨?_,?_,?_,_,heap_setCell_same _ _ 0 _ _ _ h4',?_⟩⟩
    · exact ((h1.below ((Below.refl _ W).alloc (Nat.le_refl _) _)).grown hoa (by decide) (by omega) hgrow).setBox h4' (by decide) (by omega)
    · refine HX.out.1 W _ h2 fun k hk _ _ _=>?_
      refine (heap_setCell_other _ _ _ _ (by show k≠w.heap.size;omega)).trans ((hgrow.block k (by simp;omega) (fun e=>by have:=(hoa.lt _ e.symm).1;omega)).trans (Below.heap_alloc _ _ _ (by omega)))
    · exact ((h3.alloc _).grown hoa (by omega) hgrow).setBox (Nat.le_refl _)
    · rw [List.flatMap_append,List.length_append]
      exact own_set hO2 (by omega)
  case done =>
    rintro D ⟨s,xs⟩ W hD hF ⟨h1,h2,h3,v,h4,h5⟩ hK
    dsimp only at h1 h5
    obtain ⟨A,c,rfl,hR⟩:=RP.of_own (p:=p) (r:=r) (g:=g) (k:=1) (base:=w.heap.size+1) (cells:=fun x:Int=>[Value.int .i64 x]) (At:=IntAt) (fun _=>rfl) (fun b o x h=>h 0 _ rfl) h5 (by omega)
    have cb:W.cell? ⟨w.heap.size,0,none⟩=some (.slice A xs.length c):=by rw [cell_of_row _ _ _ _ _ _ h4];rfl
    have HH:=Lib.hid (And.intro h1 (And.intro h3 (And.intro hR hF)))
    have HK:=Lib.hid hK
    clear h1 h2 h3 h4 h5 hR hF hK
    gi_wp2
    refine ⟨by simp,.inl ⟨_,_,rfl,run_takeDeferred HK.out,?_⟩⟩
    obtain ⟨h1,h3,hR,hF⟩:=HH.out
    have ht:Turn W (W.putObj D (.deferred none)):=Turn.put HK.out rfl
    refine ⟨_,by simp [results,Tryz.f143,go_sem],s,xs,A,c,hF,rfl,?_,ht.pat h1,h3.turned (grownBy_putObj' W D _) (fun r e=>by cases e;omega)⟩
    exact ht.rp hR (fun b o x h=>ht.cell h)
set_option maxRecDepth 100000 in
theorem collect_int {gf:Nat} {lb:Array Value} {R:Ending→World→Prop} (h:Calls Tryz.prog 143 #[.slice none 0 0,.func (.func gf) #[] lb] w R) (hR:∀ e w',R e w'→∃ v,e=.returned v) :
    Calls Tryz.prog 97 #[.func (.func gf) #[] lb] w R:=by
  have H:=Lib.hid (h.mono (R':=fun e w'=>∃ v,e=.returned v∧R (.returned v) w') fun e w' hr=>by
    obtain ⟨v,rfl⟩:=hR e w' hr
    exact ⟨v,rfl,hr⟩)
  clear h hR
  go_enter Tryz.func97,Tryz.ntmps97
  go_wp2_with (go_at_call 143;refine H.out.mono ?_;rintro e w1 ⟨v,rfl,hr⟩)
  exact hr
end
open Go.ChangeShapes Go.WideShapes Go.RowKit Go.Shelf
attribute [local go_sem] Oper.semAt_some
def latchCells (x:PLatch):List Value:=[.int .i64 x.lv,.int .i64 x.ln,.int .i64 x.li]
theorem latch_info:(Tryz.prog.info? 48).map (fun i=>(i.zero,i.size,i.bytes))=some (some (.agg #[.int .i64 0,.int .i64 0,.int .i64 0]),3,24):=by kernel_rfl
def CollPLatch (p r g:Nat) (m:Ext) (V:Int) (N:NC) (X:World→Prop) (w:World) (b:Nat) (s:Ps × List PLatch) (W:World):Prop :=
  PAt 2 p r g m V N W s.1∧X W∧Kept3 p r g w W∧∃ v,W.heap[b]?=some (.cells #[v] 23 (0,0))∧W.ownsRow (b+1) 48 3 v s.2.length (s.2.flatMap fun x=>latchCells x)
section
variable {p r g:Nat} {m:Ext} {V:Int} {N:NC} {X:World→Prop} {w:World}
theorem collPLatch_own (b:Nat) (hX:Old p r g X w) (hb:w.heap.size≤b) (B:Nat) (hB:w.heap.size≤B):OwnFrom B (CollPLatch p r g m V N X w b):=fun s A W row hs hg hr=>by
  obtain ⟨h1,h2,h3,v,h4,h5⟩:=hs
  have ht:=Turn.of_grown hg fun r e=>(hr r e).2
  exact ⟨ht.pat h1,hX A W h2 fun k hk _ _ _=>hg.block k (by have:=h3.size;omega) (fun e=>by have:=(hr k e.symm).1;omega),h3.turned hg fun r e=>by have:=(hr r e).1;omega,v,ht.same _ _ _ _ h4,ht.owns h5⟩
theorem collPLatch_new {b:Nat} {s:Ps × List PLatch} {A:World} (hX:Old p r g X w) (h:CollPLatch p r g m V N X w b s A) (o:Obj):CollPLatch p r g m V N X w b s (A.alloc o):=by
  obtain ⟨h1,h2,h3,v,h4,h5⟩:=h
  exact ⟨h1.below ((Below.refl _ A).alloc (Nat.le_refl _) o),hX A _ h2 fun k hk _ _ _=>Below.heap_alloc _ _ _ (by have:=h3.size;omega),h3.alloc o,v,(Below.heap_alloc _ _ _ (lt_of_row h4)).trans h4,h5.alloc o⟩
theorem collPLatch_step {b:Nat} (hX:Old p r g X w) (hb:p<b∧r<b∧g<b) (hw:w.heap.size≤b) {s s':Ps × List PLatch} {A B:World} (h:CollPLatch p r g m V N X w b s A) (hs:LSt p r g m V s s' A B):CollPLatch p r g m V N X w b s' B:=by
  obtain ⟨h1,h2,h3,v,h4,h5⟩:=h
  obtain ⟨e1,hP,hK⟩:=hs
  refine ⟨hP N h1,hX A B h2 fun k hk a1 a2 a3=>hK.block k (by have:=h3.size;omega) a1 a2 a3,h3.trans hK,v,(hK.block b (lt_of_row h4) (by omega) (by omega) (by omega)).trans h4,?_⟩
  rw [e1]
  exact own_step h5 hK (by omega)
set_option maxRecDepth 100000 in
set_option maxHeartbeats 8000000 in
theorem appendSeq_latch {gf:Nat} {lb:Array Value} (eg:∀ args w,(callFunc gf args).run Tryz.prog w=.ok (.enter gf args) w) (s0:Ps) (hX:Old p r g X w) (hX0:X w) (hP:PAt 2 p r g m V N w s0) (cnt:Nat) (hcnt:cnt≤1000000) (Fi:Ps × List PLatch→Prop)
    (hseq:∀ w',Below w.heap.size w w'→SeqW (α:=PLatch) Fence.wide 4 Tryz.prog gf lb (fun s A=>(∃ N,PAt 2 p r g m V N A s.1)∧X A) (LSt p r g m V) (fun s x v A=>(s.1.e=none∧s.2.length<cnt)∧v=.agg (latchCells x).toArray) (fun s x=>(s.1,s.2++[x])) Fi (s0,[]) w') :
    Calls Tryz.prog 178 #[.slice none 0 0,.func (.func gf) #[] lb] w fun e w'=>∃ s l A c,Fi (s,l)∧e=.returned (.slice A l.length c)∧RP 48 p r g 3 LatchAt w' A c l∧PAt 2 p r g m V N w' s∧Kept3 p r g w w':=by
  have hpl:=hP.lt
  have hgl:=hP.glt
  have hpt:=hP.top
  obtain ⟨i0,hi,hz0,hz1,hz2⟩:=info_parts latch_info
  have HP:=Lib.hid hP
  have HX:=Lib.hid (And.intro hX hX0)
  have HSEQ:=Lib.hid hseq
  clear hP hX hX0 hseq
  refine (callsIn_wide (n:=5)).1 ?_
  refine callsIn_of_wp_marks Tryz.func178 rfl trivial ?_ rfl
  simp only [Tryz.ntmps178,List.size_toArray,List.length_cons,List.length_nil,Nat.reduceAdd,Nat.reduceSub,Array.replicate_succ,Array.replicate_zero,List.push_toArray,List.append_toArray,List.nil_append,List.cons_append]
  gi_wp2
  have hb1:Below w.heap.size w (w.alloc (.cells #[.slice none 0 0] 23)):=(Below.refl _ w).alloc (Nat.le_refl _) _
  have hrow:=heap_alloc_new w (.cells #[.slice none 0 0] 23)
  have hsz:(w.alloc (.cells #[.slice none 0 0] 23)).heap.size=w.heap.size+1:=by simp
  generalize w.alloc (.cells #[.slice none 0 0] 23)=w1 at *
  have hI0:CollPLatch p r g m V N X w w.heap.size (s0,[]) w1:=⟨HP.out.below hb1,HX.out.1 w w1 HX.out.2 fun k hk _ _ _=>hb1.block k hk,Kept3.of_below hb1,_,hrow,World.ownsRow_nil _ _ _ _⟩
  refine wp_range (p0:=7) rfl (by omega) (gf:=gf) (lb:=lb) rfl trivial eg (HSEQ.out w1 hb1) (Below.refl _ _) (CollPLatch p r g m V N X w w.heap.size) (collPLatch_own _ HX.out.1 (Nat.le_refl _) _ (by omega))
    (fun s W h=>⟨⟨N,h.1⟩,h.2.1⟩) (fun s s' A B hA h hs=>collPLatch_step HX.out.1 ⟨hpl.1,hpl.2,hgl⟩ (Nat.le_refl _) h hs)
    (fun s s' A B hk hs=>by obtain ⟨⟨N1,h1⟩,_⟩:=hk;exact keeps_step h1 hs.2.2)
    hI0 (fun y W=>(∃ vb,W.heap[vb]?=some (.cells (latchCells y.2.1).toArray 48 (0,0))∧w.heap.size<vb∧y.2.2={ tmps:=#[.slice none 0 0,.func (.func gf) #[] lb,.pointer (some ⟨w.heap.size,0,none⟩),undef,.slice none 0 0,.pointer (some ⟨vb,0,none⟩),.func (.func gf) #[] lb,.agg (latchCells y.2.1).toArray,undef,undef,undef,undef,undef],defers:=[] })∧CollPLatch p r g m V N X w w.heap.size y.1 W∧y.1.2.length<cnt)
    (fun y A W row hs hg hr=>by
      obtain ⟨⟨vb,q1,q2,q3⟩,q4,q5⟩:=hs
      exact ⟨⟨vb,(Turn.of_grown hg fun r e=>(hr r e).2).same _ _ _ _ q1,q2,q3⟩,collPLatch_own _ HX.out.1 (Nat.le_refl _) _ (by omega) y.1 A W row q4 hg hr,q5⟩) ?assign ?body ?done
  case assign =>
    rintro l s x v W hW hI ⟨⟨he,hlt⟩,rfl⟩
    have HI:=Lib.hid hI
    have hwW:=lt_of_row hI.2.2.2.choose_spec.1
    clear hI
    unfold latchCells
    gi_wp2
    refine ⟨KeepsOthers.alloc _ _,⟨W.heap.size,heap_alloc_new W _,hwW,rfl⟩,?_,hlt⟩
    exact collPLatch_new HX.out.1 HI.out _
  case body =>
    rintro l ⟨s,xs⟩ x a' W hW ⟨⟨vb,hvb,hvl,ha⟩,⟨h1,h2,h3,v,h4,h5⟩,hlt⟩
    dsimp only at ha hlt h1 h5
    subst ha
    have hwW:=lt_of_row h4
    have t0:W.cell? ⟨vb,0,none⟩=some (.int .i64 x.lv):=by rw [cell_of_row _ _ _ _ _ _ hvb];rfl
    have t1:W.cell? ⟨vb,1,none⟩=some (.int .i64 x.ln):=by rw [cell_of_row _ _ _ _ _ _ hvb];rfl
    have t2:W.cell? ⟨vb,2,none⟩=some (.int .i64 x.li):=by rw [cell_of_row _ _ _ _ _ _ hvb];rfl
    have hcn:=cells_new W (latchCells x) 48
    unfold latchCells at hcn
    clear hvb
    unfold latchCells
    have cb:W.cell? ⟨w.heap.size,0,none⟩=some v:=by rw [cell_of_row _ _ _ _ _ _ h4];rfl
    have HH:=Lib.hid (And.intro h1 (And.intro h2 (And.intro h3 h4)))
    clear h1 h2 h3 h4
    gi_wp2_with (gi_at_builtin;refine wpListIn_append_own _ rfl _ _ 23 rfl (w.heap.size+1) 48 i0 (.agg #[.int .i64 0,.int .i64 0,.int .i64 0]) 3 24 Tryz.underlying23 hi hz0 hz1 hz2 rfl (by decide) _ _ _ rfl (h5.alloc _) ⟨W.heap.size,0,none⟩ 1 1 [Value.int .i64 x.lv,Value.int .i64 x.ln,Value.int .i64 x.li] rfl rfl hcn (by simp [Value.oneCell']) (by unfold maxLen;omega) (by omega) (by simp;omega) ?_;intro v' w2 hO2 hgrow _;obtain ⟨g',cap',rfl⟩:=ownsRow_succ hO2;have h4':w2.heap[w.heap.size]?=some (.cells #[v] 23 (0,0)):=(hgrow.block _ (by simp;omega) (fun e=>by have:=((h5.alloc (.cells #[.int .i64 x.lv,.int .i64 x.ln,.int .i64 x.li] 48)).lt _ e.symm).1;omega)).trans ((Below.heap_alloc _ _ _ (by omega)).trans HH.out.2.2.2);have cb2:w2.cell? ⟨w.heap.size,0,none⟩=some v:=(by rw [cell_of_row _ _ _ _ _ _ h4'];rfl);have cf2:w2.frozen? ⟨w.heap.size,0,none⟩=false:=frozen_of_row _ _ _ _ _ h4';have H2:=Lib.hid (And.intro hO2 (And.intro hgrow h4'));clear hO2 hgrow h4')
    obtain ⟨hO2,hgrow,h4'⟩:=H2.out
    obtain ⟨h1,h2,h3,h4⟩:=HH.out
    have hoa:=h5.alloc (.cells #[.int .i64 x.lv,.int .i64 x.ln,.int .i64 x.li] 48)
    refine ⟨((KeepsOthers.alloc _ _).trans (keeps_own hoa hgrow)).trans (KeepsOthers.setCell _ _ _),⟨?_,?_,?_,_,heap_setCell_same _ _ 0 _ _ _ h4',?_⟩⟩
    · exact ((h1.below ((Below.refl _ W).alloc (Nat.le_refl _) _)).grown hoa (by decide) (by omega) hgrow).setBox h4' (by decide) (by omega)
    · refine HX.out.1 W _ h2 fun k hk _ _ _=>?_
      refine (heap_setCell_other _ _ _ _ (by show k≠w.heap.size;omega)).trans ((hgrow.block k (by simp;omega) (fun e=>by have:=(hoa.lt _ e.symm).1;omega)).trans (Below.heap_alloc _ _ _ (by omega)))
    · exact ((h3.alloc _).grown hoa (by omega) hgrow).setBox (Nat.le_refl _)
    · rw [List.flatMap_append,List.length_append]
      exact own_set hO2 (by omega)
  case done =>
    rintro D ⟨s,xs⟩ W hD hF ⟨h1,h2,h3,v,h4,h5⟩ hK
    dsimp only at h1 h5
    obtain ⟨A,c,rfl,hR⟩:=RP.of_own (p:=p) (r:=r) (g:=g) (k:=3) (base:=w.heap.size+1) (cells:=fun x:PLatch=>latchCells x) (At:=LatchAt) (fun _=>rfl) (fun b o x h=>⟨h 0 _ rfl,h 1 _ rfl,h 2 _ rfl⟩) h5 (by omega)
    have cb:W.cell? ⟨w.heap.size,0,none⟩=some (.slice A xs.length c):=by rw [cell_of_row _ _ _ _ _ _ h4];rfl
    have HH:=Lib.hid (And.intro h1 (And.intro h3 (And.intro hR hF)))
    have HK:=Lib.hid hK
    clear h1 h2 h3 h4 h5 hR hF hK
    gi_wp2
    refine ⟨by simp,.inl ⟨_,_,rfl,run_takeDeferred HK.out,?_⟩⟩
    obtain ⟨h1,h3,hR,hF⟩:=HH.out
    have ht:Turn W (W.putObj D (.deferred none)):=Turn.put HK.out rfl
    refine ⟨_,by simp [results,Tryz.f178,go_sem],s,xs,A,c,hF,rfl,?_,ht.pat h1,h3.turned (grownBy_putObj' W D _) (fun r e=>by cases e;omega)⟩
    exact ht.rp hR (fun b o x h=>⟨ht.cell h.1,ht.cell h.2.1,ht.cell h.2.2⟩)
set_option maxRecDepth 100000 in
theorem collect_latch {gf:Nat} {lb:Array Value} {R:Ending→World→Prop} (h:Calls Tryz.prog 178 #[.slice none 0 0,.func (.func gf) #[] lb] w R) (hR:∀ e w',R e w'→∃ v,e=.returned v) :
    Calls Tryz.prog 124 #[.func (.func gf) #[] lb] w R:=by
  have H:=Lib.hid (h.mono (R':=fun e w'=>∃ v,e=.returned v∧R (.returned v) w') fun e w' hr=>by
    obtain ⟨v,rfl⟩:=hR e w' hr
    exact ⟨v,rfl,hr⟩)
  clear h hR
  go_enter Tryz.func124,Tryz.ntmps124
  go_wp2_with (go_at_call 178;refine H.out.mono ?_;rintro e w1 ⟨v,rfl,hr⟩)
  exact hr
end
open Go.ChangeShapes Go.WideShapes Go.RowKit Go.Shelf
attribute [local go_sem] Oper.semAt_some
def andCells (x:PAnd):List Value:=[.int .i64 x.av,.int .i64 x.aa,.int .i64 x.ab]
theorem and_info:(Tryz.prog.info? 57).map (fun i=>(i.zero,i.size,i.bytes))=some (some (.agg #[.int .i64 0,.int .i64 0,.int .i64 0]),3,24):=by kernel_rfl
def CollPAnd (p r g:Nat) (m:Ext) (V:Int) (N:NC) (X:World→Prop) (w:World) (b:Nat) (s:Ps × List PAnd) (W:World):Prop :=
  PAt 2 p r g m V N W s.1∧X W∧Kept3 p r g w W∧∃ v,W.heap[b]?=some (.cells #[v] 25 (0,0))∧W.ownsRow (b+1) 57 3 v s.2.length (s.2.flatMap fun x=>andCells x)
section
variable {p r g:Nat} {m:Ext} {V:Int} {N:NC} {X:World→Prop} {w:World}
theorem collPAnd_own (b:Nat) (hX:Old p r g X w) (hb:w.heap.size≤b) (B:Nat) (hB:w.heap.size≤B):OwnFrom B (CollPAnd p r g m V N X w b):=fun s A W row hs hg hr=>by
  obtain ⟨h1,h2,h3,v,h4,h5⟩:=hs
  have ht:=Turn.of_grown hg fun r e=>(hr r e).2
  exact ⟨ht.pat h1,hX A W h2 fun k hk _ _ _=>hg.block k (by have:=h3.size;omega) (fun e=>by have:=(hr k e.symm).1;omega),h3.turned hg fun r e=>by have:=(hr r e).1;omega,v,ht.same _ _ _ _ h4,ht.owns h5⟩
theorem collPAnd_new {b:Nat} {s:Ps × List PAnd} {A:World} (hX:Old p r g X w) (h:CollPAnd p r g m V N X w b s A) (o:Obj):CollPAnd p r g m V N X w b s (A.alloc o):=by
  obtain ⟨h1,h2,h3,v,h4,h5⟩:=h
  exact ⟨h1.below ((Below.refl _ A).alloc (Nat.le_refl _) o),hX A _ h2 fun k hk _ _ _=>Below.heap_alloc _ _ _ (by have:=h3.size;omega),h3.alloc o,v,(Below.heap_alloc _ _ _ (lt_of_row h4)).trans h4,h5.alloc o⟩
theorem collPAnd_step {b:Nat} (hX:Old p r g X w) (hb:p<b∧r<b∧g<b) (hw:w.heap.size≤b) {s s':Ps × List PAnd} {A B:World} (h:CollPAnd p r g m V N X w b s A) (hs:LSt p r g m V s s' A B):CollPAnd p r g m V N X w b s' B:=by
  obtain ⟨h1,h2,h3,v,h4,h5⟩:=h
  obtain ⟨e1,hP,hK⟩:=hs
  refine ⟨hP N h1,hX A B h2 fun k hk a1 a2 a3=>hK.block k (by have:=h3.size;omega) a1 a2 a3,h3.trans hK,v,(hK.block b (lt_of_row h4) (by omega) (by omega) (by omega)).trans h4,?_⟩
  rw [e1]
  exact own_step h5 hK (by omega)
set_option maxRecDepth 100000 in
set_option maxHeartbeats 8000000 in
theorem appendSeq_and {gf:Nat} {lb:Array Value} (eg:∀ args w,(callFunc gf args).run Tryz.prog w=.ok (.enter gf args) w) (s0:Ps) (hX:Old p r g X w) (hX0:X w) (hP:PAt 2 p r g m V N w s0) (cnt:Nat) (hcnt:cnt≤1000000) (Fi:Ps × List PAnd→Prop)
    (hseq:∀ w',Below w.heap.size w w'→SeqW (α:=PAnd) Fence.wide 4 Tryz.prog gf lb (fun s A=>(∃ N,PAt 2 p r g m V N A s.1)∧X A) (LSt p r g m V) (fun s x v A=>(s.1.e=none∧s.2.length<cnt)∧v=.agg (andCells x).toArray) (fun s x=>(s.1,s.2++[x])) Fi (s0,[]) w') :
    Calls Tryz.prog 193 #[.slice none 0 0,.func (.func gf) #[] lb] w fun e w'=>∃ s l A c,Fi (s,l)∧e=.returned (.slice A l.length c)∧RP 57 p r g 3 AndAt w' A c l∧PAt 2 p r g m V N w' s∧Kept3 p r g w w':=by
  have hpl:=hP.lt
  have hgl:=hP.glt
  have hpt:=hP.top
  obtain ⟨i0,hi,hz0,hz1,hz2⟩:=info_parts and_info
  have HP:=Lib.hid hP
  have HX:=Lib.hid (And.intro hX hX0)
  have HSEQ:=Lib.hid hseq
  clear hP hX hX0 hseq
  refine (callsIn_wide (n:=5)).1 ?_
  refine callsIn_of_wp_marks Tryz.func193 rfl trivial ?_ rfl
  simp only [Tryz.ntmps193,List.size_toArray,List.length_cons,List.length_nil,Nat.reduceAdd,Nat.reduceSub,Array.replicate_succ,Array.replicate_zero,List.push_toArray,List.append_toArray,List.nil_append,List.cons_append]
  gi_wp2
  have hb1:Below w.heap.size w (w.alloc (.cells #[.slice none 0 0] 25)):=(Below.refl _ w).alloc (Nat.le_refl _) _
  have hrow:=heap_alloc_new w (.cells #[.slice none 0 0] 25)
  have hsz:(w.alloc (.cells #[.slice none 0 0] 25)).heap.size=w.heap.size+1:=by simp
  generalize w.alloc (.cells #[.slice none 0 0] 25)=w1 at *
  have hI0:CollPAnd p r g m V N X w w.heap.size (s0,[]) w1:=⟨HP.out.below hb1,HX.out.1 w w1 HX.out.2 fun k hk _ _ _=>hb1.block k hk,Kept3.of_below hb1,_,hrow,World.ownsRow_nil _ _ _ _⟩
  refine wp_range (p0:=7) rfl (by omega) (gf:=gf) (lb:=lb) rfl trivial eg (HSEQ.out w1 hb1) (Below.refl _ _) (CollPAnd p r g m V N X w w.heap.size) (collPAnd_own _ HX.out.1 (Nat.le_refl _) _ (by omega))
    (fun s W h=>⟨⟨N,h.1⟩,h.2.1⟩) (fun s s' A B hA h hs=>collPAnd_step HX.out.1 ⟨hpl.1,hpl.2,hgl⟩ (Nat.le_refl _) h hs)
    (fun s s' A B hk hs=>by obtain ⟨⟨N1,h1⟩,_⟩:=hk;exact keeps_step h1 hs.2.2)
    hI0 (fun y W=>(∃ vb,W.heap[vb]?=some (.cells (andCells y.2.1).toArray 57 (0,0))∧w.heap.size<vb∧y.2.2={ tmps:=#[.slice none 0 0,.func (.func gf) #[] lb,.pointer (some ⟨w.heap.size,0,none⟩),undef,.slice none 0 0,.pointer (some ⟨vb,0,none⟩),.func (.func gf) #[] lb,.agg (andCells y.2.1).toArray,undef,undef,undef,undef,undef],defers:=[] })∧CollPAnd p r g m V N X w w.heap.size y.1 W∧y.1.2.length<cnt)
    (fun y A W row hs hg hr=>by
      obtain ⟨⟨vb,q1,q2,q3⟩,q4,q5⟩:=hs
      exact ⟨⟨vb,(Turn.of_grown hg fun r e=>(hr r e).2).same _ _ _ _ q1,q2,q3⟩,collPAnd_own _ HX.out.1 (Nat.le_refl _) _ (by omega) y.1 A W row q4 hg hr,q5⟩) ?assign ?body ?done
  case assign =>
    rintro l s x v W hW hI ⟨⟨he,hlt⟩,rfl⟩
    have HI:=Lib.hid hI
    have hwW:=lt_of_row hI.2.2.2.choose_spec.1
    clear hI
    unfold andCells
    gi_wp2
    refine ⟨KeepsOthers.alloc _ _,⟨W.heap.size,heap_alloc_new W _,hwW,rfl⟩,?_,hlt⟩
    exact collPAnd_new HX.out.1 HI.out _
  case body =>
    rintro l ⟨s,xs⟩ x a' W hW ⟨⟨vb,hvb,hvl,ha⟩,⟨h1,h2,h3,v,h4,h5⟩,hlt⟩
    dsimp only at ha hlt h1 h5
    subst ha
    have hwW:=lt_of_row h4
    have t0:W.cell? ⟨vb,0,none⟩=some (.int .i64 x.av):=by rw [cell_of_row _ _ _ _ _ _ hvb];rfl
    have t1:W.cell? ⟨vb,1,none⟩=some (.int .i64 x.aa):=by rw [cell_of_row _ _ _ _ _ _ hvb];rfl
    have t2:W.cell? ⟨vb,2,none⟩=some (.int .i64 x.ab):=by rw [cell_of_row _ _ _ _ _ _ hvb];rfl
    have hcn:=cells_new W (andCells x) 57
    unfold andCells at hcn
    clear hvb
    unfold andCells
    have cb:W.cell? ⟨w.heap.size,0,none⟩=some v:=by rw [cell_of_row _ _ _ _ _ _ h4];rfl
    have HH:=Lib.hid (And.intro h1 (And.intro h2 (And.intro h3 h4)))
    clear h1 h2 h3 h4
    gi_wp2_with (gi_at_builtin;refine wpListIn_append_own _ rfl _ _ 25 rfl (w.heap.size+1) 57 i0 (.agg #[.int .i64 0,.int .i64 0,.int .i64 0]) 3 24 Tryz.underlying25 hi hz0 hz1 hz2 rfl (by decide) _ _ _ rfl (h5.alloc _) ⟨W.heap.size,0,none⟩ 1 1 [Value.int .i64 x.av,Value.int .i64 x.aa,Value.int .i64 x.ab] rfl rfl hcn (by simp [Value.oneCell']) (by unfold maxLen;omega) (by omega) (by simp;omega) ?_;intro v' w2 hO2 hgrow _;obtain ⟨g',cap',rfl⟩:=ownsRow_succ hO2;have h4':w2.heap[w.heap.size]?=some (.cells #[v] 25 (0,0)):=(hgrow.block _ (by simp;omega) (fun e=>by have:=((h5.alloc (.cells #[.int .i64 x.av,.int .i64 x.aa,.int .i64 x.ab] 57)).lt _ e.symm).1;omega)).trans ((Below.heap_alloc _ _ _ (by omega)).trans HH.out.2.2.2);have cb2:w2.cell? ⟨w.heap.size,0,none⟩=some v:=(by rw [cell_of_row _ _ _ _ _ _ h4'];rfl);have cf2:w2.frozen? ⟨w.heap.size,0,none⟩=false:=frozen_of_row _ _ _ _ _ h4';have H2:=Lib.hid (And.intro hO2 (And.intro hgrow h4'));clear hO2 hgrow h4')
    obtain ⟨hO2,hgrow,h4'⟩:=H2.out
    obtain ⟨h1,h2,h3,h4⟩:=HH.out
    have hoa:=h5.alloc (.cells #[.int .i64 x.av,.int .i64 x.aa,.int .i64 x.ab] 57)
    refine ⟨((KeepsOthers.alloc _ _).trans (keeps_own hoa hgrow)).trans (KeepsOthers.setCell _ _ _),⟨?_,?_,?_,_,heap_setCell_same _ _ 0 _ _ _ h4',?_⟩⟩
    · exact ((h1.below ((Below.refl _ W).alloc (Nat.le_refl _) _)).grown hoa (by decide) (by omega) hgrow).setBox h4' (by decide) (by omega)
    · refine HX.out.1 W _ h2 fun k hk _ _ _=>?_
      refine (heap_setCell_other _ _ _ _ (by show k≠w.heap.size;omega)).trans ((hgrow.block k (by simp;omega) (fun e=>by have:=(hoa.lt _ e.symm).1;omega)).trans (Below.heap_alloc _ _ _ (by omega)))
    · exact ((h3.alloc _).grown hoa (by omega) hgrow).setBox (Nat.le_refl _)
    · rw [List.flatMap_append,List.length_append]
      exact own_set hO2 (by omega)
  case done =>
    rintro D ⟨s,xs⟩ W hD hF ⟨h1,h2,h3,v,h4,h5⟩ hK
    dsimp only at h1 h5
    obtain ⟨A,c,rfl,hR⟩:=RP.of_own (p:=p) (r:=r) (g:=g) (k:=3) (base:=w.heap.size+1) (cells:=fun x:PAnd=>andCells x) (At:=AndAt) (fun _=>rfl) (fun b o x h=>⟨h 0 _ rfl,h 1 _ rfl,h 2 _ rfl⟩) h5 (by omega)
    have cb:W.cell? ⟨w.heap.size,0,none⟩=some (.slice A xs.length c):=by rw [cell_of_row _ _ _ _ _ _ h4];rfl
    have HH:=Lib.hid (And.intro h1 (And.intro h3 (And.intro hR hF)))
    have HK:=Lib.hid hK
    clear h1 h2 h3 h4 h5 hR hF hK
    gi_wp2
    refine ⟨by simp,.inl ⟨_,_,rfl,run_takeDeferred HK.out,?_⟩⟩
    obtain ⟨h1,h3,hR,hF⟩:=HH.out
    have ht:Turn W (W.putObj D (.deferred none)):=Turn.put HK.out rfl
    refine ⟨_,by simp [results,Tryz.f193,go_sem],s,xs,A,c,hF,rfl,?_,ht.pat h1,h3.turned (grownBy_putObj' W D _) (fun r e=>by cases e;omega)⟩
    exact ht.rp hR (fun b o x h=>⟨ht.cell h.1,ht.cell h.2.1,ht.cell h.2.2⟩)
set_option maxRecDepth 100000 in
theorem collect_and {gf:Nat} {lb:Array Value} {R:Ending→World→Prop} (h:Calls Tryz.prog 193 #[.slice none 0 0,.func (.func gf) #[] lb] w R) (hR:∀ e w',R e w'→∃ v,e=.returned v) :
    Calls Tryz.prog 132 #[.func (.func gf) #[] lb] w R:=by
  have H:=Lib.hid (h.mono (R':=fun e w'=>∃ v,e=.returned v∧R (.returned v) w') fun e w' hr=>by
    obtain ⟨v,rfl⟩:=hR e w' hr
    exact ⟨v,rfl,hr⟩)
  clear h hR
  go_enter Tryz.func132,Tryz.ntmps132
  go_wp2_with (go_at_call 193;refine H.out.mono ?_;rintro e w1 ⟨v,rfl,hr⟩)
  exact hr
end
open Go.ChangeShapes Go.WideShapes Go.RowKit Go.Shelf
attribute [local go_sem] Oper.semAt_some
def readCells (y:PRead × Option Addr × Nat):List Value:=[.int .i64 y.1.rv,.slice y.2.1 y.1.ra.length y.2.2]
theorem read_info:(Tryz.prog.info? 97).map (fun i=>(i.zero,i.size,i.bytes))=some (some (.agg #[.int .i64 0,.slice none 0 0]),2,32):=by kernel_rfl
def LPread (p r g:Nat) (W:World) (y:PRead × Option Addr × Nat):Prop:=LP p r g W y.2.1 y.2.2 y.1.ra
theorem LPread.kept {p r g:Nat} {A B:World} {y:PRead × Option Addr × Nat} (h:LPread p r g A y) (hk:Kept3 p r g A B):LPread p r g B y:=LP.kept h hk
theorem LPread.turn {p r g:Nat} {A B:World} {y:PRead × Option Addr × Nat} (h:LPread p r g A y) (ht:Turn A B):LPread p r g B y:=Turn.lp ht h
theorem LPread.below {p r g:Nat} {A B:World} {y:PRead × Option Addr × Nat} (h:LPread p r g A y) (hb:Below A.heap.size A B):LPread p r g B y:=h.kept (Kept3.of_below hb)
def CollPRead (p r g:Nat) (m:Ext) (V:Int) (N:NC) (X:World→Prop) (w:World) (b:Nat) (s:Ps × List PRead) (W:World):Prop :=
  PAt 2 p r g m V N W s.1∧X W∧Kept3 p r g w W∧∃ (v:Value) (ys:List (PRead × Option Addr × Nat)),ys.map (·.1)=s.2∧(∀ y∈ys,LPread p r g W y)∧W.heap[b]?=some (.cells #[v] 51 (0,0))∧W.ownsRow (b+1) 97 2 v ys.length (ys.flatMap fun y=>readCells y)
section
variable {p r g:Nat} {m:Ext} {V:Int} {N:NC} {X:World→Prop} {w:World}
theorem collPRead_own (b:Nat) (hX:Old p r g X w) (hb:w.heap.size≤b) (B:Nat) (hB:w.heap.size≤B):OwnFrom B (CollPRead p r g m V N X w b):=fun s A W row hs hg hr=>by
  obtain ⟨h1,h2,h3,v,ys,e,hl,h4,h5⟩:=hs
  have ht:=Turn.of_grown hg fun r e=>(hr r e).2
  exact ⟨ht.pat h1,hX A W h2 fun k hk _ _ _=>hg.block k (by have:=h3.size;omega) (fun e=>by have:=(hr k e.symm).1;omega),h3.turned hg fun r e=>by have:=(hr r e).1;omega,v,ys,e,fun y hy=>(hl y hy).turn ht,ht.same _ _ _ _ h4,ht.owns h5⟩
theorem collPRead_new {b:Nat} {s:Ps × List PRead} {A:World} (hX:Old p r g X w) (h:CollPRead p r g m V N X w b s A) (o:Obj):CollPRead p r g m V N X w b s (A.alloc o):=by
  obtain ⟨h1,h2,h3,v,ys,e,hl,h4,h5⟩:=h
  have hb:Below A.heap.size A (A.alloc o):=(Below.refl _ A).alloc (Nat.le_refl _) o
  exact ⟨h1.below hb,hX A _ h2 fun k hk _ _ _=>Below.heap_alloc _ _ _ (by have:=h3.size;omega),h3.alloc o,v,ys,e,fun y hy=>(hl y hy).below hb,(Below.heap_alloc _ _ _ (lt_of_row h4)).trans h4,h5.alloc o⟩
theorem collPRead_step {b:Nat} (hX:Old p r g X w) (hb:p<b∧r<b∧g<b) (hw:w.heap.size≤b) {s s':Ps × List PRead} {A B:World} (h:CollPRead p r g m V N X w b s A) (hs:LSt p r g m V s s' A B):CollPRead p r g m V N X w b s' B:=by
  obtain ⟨h1,h2,h3,v,ys,e,hl,h4,h5⟩:=h
  obtain ⟨e1,hP,hK⟩:=hs
  exact ⟨hP N h1,hX A B h2 fun k hk a1 a2 a3=>hK.block k (by have:=h3.size;omega) a1 a2 a3,h3.trans hK,v,ys,by rw [e1];exact e,fun y hy=>(hl y hy).kept hK,(hK.block b (lt_of_row h4) (by omega) (by omega) (by omega)).trans h4,own_step h5 hK (by omega)⟩
set_option maxRecDepth 100000 in
set_option maxHeartbeats 8000000 in
theorem appendSeq_read {gf:Nat} {lb:Array Value} (eg:∀ args w,(callFunc gf args).run Tryz.prog w=.ok (.enter gf args) w) (s0:Ps) (hX:Old p r g X w) (hX0:X w) (hP:PAt 2 p r g m V N w s0) (cnt:Nat) (hcnt:cnt≤1000000) (Fi:Ps × List PRead→Prop)
    (hseq:∀ w',Below w.heap.size w w'→SeqW (α:=PRead) Fence.wide 4 Tryz.prog gf lb (fun s A=>(∃ N,PAt 2 p r g m V N A s.1)∧X A) (LSt p r g m V) (fun s x v A0=>(s.1.e=none∧s.2.length<cnt)∧∃ A c0,v=.agg #[.int .i64 x.rv,.slice A x.ra.length c0]∧LP p r g A0 A c0 x.ra) (fun s x=>(s.1,s.2++[x])) Fi (s0,[]) w') :
    Calls Tryz.prog 222 #[.slice none 0 0,.func (.func gf) #[] lb] w fun e w'=>∃ s l A c,Fi (s,l)∧e=.returned (.slice A l.length c)∧RP 97 p r g 2 (PReadAt p r g) w' A c l∧PAt 2 p r g m V N w' s∧Kept3 p r g w w':=by
  have hpl:=hP.lt
  have hgl:=hP.glt
  have hpt:=hP.top
  obtain ⟨i0,hi,hz0,hz1,hz2⟩:=info_parts read_info
  have HP:=Lib.hid hP
  have HX:=Lib.hid (And.intro hX hX0)
  have HSEQ:=Lib.hid hseq
  clear hP hX hX0 hseq
  refine (callsIn_wide (n:=5)).1 ?_
  refine callsIn_of_wp_marks Tryz.func222 rfl trivial ?_ rfl
  simp only [Tryz.ntmps222,List.size_toArray,List.length_cons,List.length_nil,Nat.reduceAdd,Nat.reduceSub,Array.replicate_succ,Array.replicate_zero,List.push_toArray,List.append_toArray,List.nil_append,List.cons_append]
  gi_wp2
  have hb1:Below w.heap.size w (w.alloc (.cells #[.slice none 0 0] 51)):=(Below.refl _ w).alloc (Nat.le_refl _) _
  have hrow:=heap_alloc_new w (.cells #[.slice none 0 0] 51)
  have hsz:(w.alloc (.cells #[.slice none 0 0] 51)).heap.size=w.heap.size+1:=by simp
  generalize w.alloc (.cells #[.slice none 0 0] 51)=w1 at *
  have hI0:CollPRead p r g m V N X w w.heap.size (s0,[]) w1:=⟨HP.out.below hb1,HX.out.1 w w1 HX.out.2 fun k hk _ _ _=>hb1.block k hk,Kept3.of_below hb1,_,[],rfl,(fun y hy=>by cases hy),hrow,World.ownsRow_nil _ _ _ _⟩
  refine wp_range (p0:=7) rfl (by omega) (gf:=gf) (lb:=lb) rfl trivial eg (HSEQ.out w1 hb1) (Below.refl _ _) (CollPRead p r g m V N X w w.heap.size) (collPRead_own _ HX.out.1 (Nat.le_refl _) _ (by omega))
    (fun s W h=>⟨⟨N,h.1⟩,h.2.1⟩) (fun s s' A B hA h hs=>collPRead_step HX.out.1 ⟨hpl.1,hpl.2,hgl⟩ (Nat.le_refl _) h hs)
    (fun s s' A B hk hs=>by obtain ⟨⟨N1,h1⟩,_⟩:=hk;exact keeps_step h1 hs.2.2)
    hI0 (fun q W=>(∃ (vb:Nat) (y:PRead × Option Addr × Nat),y.1=q.2.1∧LPread p r g W y∧W.heap[vb]?=some (.cells (readCells y).toArray 97 (0,0))∧w.heap.size<vb∧q.2.2={ tmps:=#[.slice none 0 0,.func (.func gf) #[] lb,.pointer (some ⟨w.heap.size,0,none⟩),undef,.slice none 0 0,.pointer (some ⟨vb,0,none⟩),.func (.func gf) #[] lb,.agg (readCells y).toArray,undef,undef,undef,undef,undef],defers:=[] })∧CollPRead p r g m V N X w w.heap.size q.1 W∧q.1.2.length<cnt)
    (fun q A W row hs hg hr=>by
      obtain ⟨⟨vb,y,q0,ql,q1,q2,q3⟩,q4,q5⟩:=hs
      have ht:=Turn.of_grown hg fun r e=>(hr r e).2
      exact ⟨⟨vb,y,q0,ql.turn ht,ht.same _ _ _ _ q1,q2,q3⟩,collPRead_own _ HX.out.1 (Nat.le_refl _) _ (by omega) q.1 A W row q4 hg hr,q5⟩) ?assign ?body ?done
  case assign =>
    rintro l s x v W hW hI ⟨⟨he,hlt⟩,A,c0,rfl,hLP⟩
    have HI:=Lib.hid (And.intro hI (show LPread p r g W (x,A,c0) from hLP))
    have hwW:=lt_of_row hI.2.2.2.choose_spec.choose_spec.2.2.1
    clear hI hLP
    gi_wp2
    refine ⟨KeepsOthers.alloc _ _,⟨W.heap.size,(x,A,c0),rfl,HI.out.2.below ((Below.refl _ W).alloc (Nat.le_refl _) _),heap_alloc_new W _,hwW,rfl⟩,?_,hlt⟩
    exact collPRead_new HX.out.1 HI.out.1 _
  case body =>
    rintro l ⟨s,xs⟩ x a' W hW ⟨⟨vb,y,hyx,hLP,hvb,hvl,ha⟩,⟨h1,h2,h3,v,ys,hys,hl,h4,h5⟩,hlt⟩
    dsimp only at ha hlt h1 h5 hyx hys
    subst hys
    subst hyx
    subst ha
    rw [List.length_map] at hlt
    have hwW:=lt_of_row h4
    have t0:W.cell? ⟨vb,0,none⟩=some (.int .i64 y.1.rv):=by rw [cell_of_row _ _ _ _ _ _ hvb];rfl
    have t1:W.cell? ⟨vb,1,none⟩=some (.slice y.2.1 y.1.ra.length y.2.2):=by rw [cell_of_row _ _ _ _ _ _ hvb];rfl
    have hcn:=cells_new W (readCells y) 97
    unfold readCells at hcn
    clear hvb
    unfold readCells
    have cb:W.cell? ⟨w.heap.size,0,none⟩=some v:=by rw [cell_of_row _ _ _ _ _ _ h4];rfl
    have HH:=Lib.hid (And.intro h1 (And.intro h2 (And.intro h3 h4)))
    have HLL:=Lib.hid (And.intro hLP hl)
    clear h1 h2 h3 h4 hLP hl
    gi_wp2_with (gi_at_builtin;refine wpListIn_append_own _ rfl _ _ 51 rfl (w.heap.size+1) 97 i0 (.agg #[.int .i64 0,.slice none 0 0]) 2 32 Tryz.underlying51 hi hz0 hz1 hz2 rfl (by decide) _ _ _ rfl (h5.alloc _) ⟨W.heap.size,0,none⟩ 1 1 [Value.int .i64 y.1.rv,Value.slice y.2.1 y.1.ra.length y.2.2] rfl rfl hcn (by simp [Value.oneCell']) (by unfold maxLen;omega) (by omega) (by simp;omega) ?_;intro v' w2 hO2 hgrow _;obtain ⟨g',cap',rfl⟩:=ownsRow_succ hO2;have h4':w2.heap[w.heap.size]?=some (.cells #[v] 51 (0,0)):=(hgrow.block _ (by simp;omega) (fun e=>by have:=((h5.alloc (.cells #[.int .i64 y.1.rv,.slice y.2.1 y.1.ra.length y.2.2] 97)).lt _ e.symm).1;omega)).trans ((Below.heap_alloc _ _ _ (by omega)).trans HH.out.2.2.2);have cb2:w2.cell? ⟨w.heap.size,0,none⟩=some v:=(by rw [cell_of_row _ _ _ _ _ _ h4'];rfl);have cf2:w2.frozen? ⟨w.heap.size,0,none⟩=false:=frozen_of_row _ _ _ _ _ h4';have H2:=Lib.hid (And.intro hO2 (And.intro hgrow h4'));clear hO2 hgrow h4')
    obtain ⟨hO2,hgrow,h4'⟩:=H2.out
    obtain ⟨h1,h2,h3,h4⟩:=HH.out
    have hoa:=h5.alloc (.cells #[.int .i64 y.1.rv,.slice y.2.1 y.1.ra.length y.2.2] 97)
    refine ⟨((KeepsOthers.alloc _ _).trans (keeps_own hoa hgrow)).trans (KeepsOthers.setCell _ _ _),⟨?_,?_,?_,_,ys++[y],by simp,?_,heap_setCell_same _ _ 0 _ _ _ h4',?_⟩⟩
    · exact ((h1.below ((Below.refl _ W).alloc (Nat.le_refl _) _)).grown hoa (by decide) (by omega) hgrow).setBox h4' (by decide) (by omega)
    · refine HX.out.1 W _ h2 fun k hk _ _ _=>?_
      refine (heap_setCell_other _ _ _ _ (by show k≠w.heap.size;omega)).trans ((hgrow.block k (by simp;omega) (fun e=>by have:=(hoa.lt _ e.symm).1;omega)).trans (Below.heap_alloc _ _ _ (by omega)))
    · exact ((h3.alloc _).grown hoa (by omega) hgrow).setBox (Nat.le_refl _)
    · intro y' hy'
      have hold:LPread p r g W y':=by
        rcases List.mem_append.1 hy' with h | h
        · exact HLL.out.2 y' h
        · rw [List.mem_singleton.1 h];exact HLL.out.1
      have h8:=hold.below ((Below.refl _ W).alloc (Nat.le_refl _) (.cells #[.int .i64 y.1.rv,.slice y.2.1 y.1.ra.length y.2.2] 97))
      exact (h8.grown hoa (by decide) hgrow).setBox h4' (by decide)
    · rw [List.flatMap_append,List.length_append]
      exact own_set hO2 (by omega)
  case done =>
    rintro D ⟨s,xs⟩ W hD hF ⟨h1,h2,h3,v,ys,hys,hl,h4,h5⟩ hK
    dsimp only at h1 h5 hys
    subst hys
    obtain ⟨A,c,rfl,hR⟩:=RP.of_own (p:=p) (r:=r) (g:=g) (k:=2) (base:=w.heap.size+1) (cells:=fun y:PRead × Option Addr × Nat=>readCells y) (At:=fun W b o y=>∀ i u,(readCells y)[i]?=some u→W.cell? ⟨b,o+i,none⟩=some u) (fun _=>rfl) (fun b o x h=>h) h5 (by omega)
    have hR2:RP 97 p r g 2 (PReadAt p r g) W A c (ys.map (·.1)):=by
      refine ⟨fun hn=>?_,by rw [List.length_map];exact hR.2.1,hR.2.2⟩
      obtain ⟨b,o,e,hb,hc⟩:=hR.1 (by intro e;apply hn;rw [e];rfl)
      refine ⟨b,o,e,hb,fun j x hj=>?_⟩
      rw [List.getElem?_map] at hj
      obtain ⟨y,hy,rfl⟩:=Option.map_eq_some_iff.1 hj
      have hyc:=hc j y hy
      have hyl:=hl y (mem_of_some hy)
      exact ⟨_,_,hyc 0 _ rfl,hyc 1 _ rfl,hyl⟩
    rw [← List.length_map (f:=fun y:PRead × Option Addr × Nat=>y.1)] at h4
    have cb:W.cell? ⟨w.heap.size,0,none⟩=some (.slice A (ys.map fun y:PRead × Option Addr × Nat=>y.1).length c):=by rw [cell_of_row _ _ _ _ _ _ h4];rfl
    have HH:=Lib.hid (And.intro h1 (And.intro h3 (And.intro hR2 hF)))
    have HK:=Lib.hid hK
    clear h1 h2 h3 h4 h5 hR hR2 hF hK hl
    generalize (ys.map fun y:PRead × Option Addr × Nat=>y.1)=xs at *
    gi_wp2
    refine ⟨by simp,.inl ⟨_,_,rfl,run_takeDeferred HK.out,?_⟩⟩
    obtain ⟨h1,h3,hR,hF⟩:=HH.out
    have ht:Turn W (W.putObj D (.deferred none)):=Turn.put HK.out rfl
    refine ⟨_,by simp [results,Tryz.f222,go_sem],s,xs,A,c,hF,rfl,?_,ht.pat h1,h3.turned (grownBy_putObj' W D _) (fun r e=>by cases e;omega)⟩
    exact ht.rp hR (fun b o x h=>readAt_turn ht h)
set_option maxRecDepth 100000 in
theorem collect_read {gf:Nat} {lb:Array Value} {R:Ending→World→Prop} (h:Calls Tryz.prog 222 #[.slice none 0 0,.func (.func gf) #[] lb] w R) (hR:∀ e w',R e w'→∃ v,e=.returned v) :
    Calls Tryz.prog 185 #[.func (.func gf) #[] lb] w R:=by
  have H:=Lib.hid (h.mono (R':=fun e w'=>∃ v,e=.returned v∧R (.returned v) w') fun e w' hr=>by
    obtain ⟨v,rfl⟩:=hR e w' hr
    exact ⟨v,rfl,hr⟩)
  clear h hR
  go_enter Tryz.func185,Tryz.ntmps185
  go_wp2_with (go_at_call 222;refine H.out.mono ?_;rintro e w1 ⟨v,rfl,hr⟩)
  exact hr
end
open Go.ChangeShapes Go.WideShapes Go.RowKit Go.Shelf
attribute [local go_sem] Oper.semAt_some
def writeCells (y:PWrite × (Option Addr × Nat) × (Option Addr × Nat)):List Value:=[.int .i64 y.1.wo,.slice y.2.1.1 y.1.wa.length y.2.1.2,.slice y.2.2.1 y.1.wd.length y.2.2.2]
theorem write_info:(Tryz.prog.info? 99).map (fun i=>(i.zero,i.size,i.bytes))=some (some (.agg #[.int .i64 0,.slice none 0 0,.slice none 0 0]),3,56):=by kernel_rfl
def LPwrite (p r g:Nat) (W:World) (y:PWrite × (Option Addr × Nat) × (Option Addr × Nat)):Prop:=LP p r g W y.2.1.1 y.2.1.2 y.1.wa∧LP p r g W y.2.2.1 y.2.2.2 y.1.wd
theorem LPwrite.kept {p r g:Nat} {A B:World} {y:PWrite × (Option Addr × Nat) × (Option Addr × Nat)} (h:LPwrite p r g A y) (hk:Kept3 p r g A B):LPwrite p r g B y:=⟨LP.kept h.1 hk,LP.kept h.2 hk⟩
theorem LPwrite.turn {p r g:Nat} {A B:World} {y:PWrite × (Option Addr × Nat) × (Option Addr × Nat)} (h:LPwrite p r g A y) (ht:Turn A B):LPwrite p r g B y:=⟨Turn.lp ht h.1,Turn.lp ht h.2⟩
theorem LPwrite.below {p r g:Nat} {A B:World} {y:PWrite × (Option Addr × Nat) × (Option Addr × Nat)} (h:LPwrite p r g A y) (hb:Below A.heap.size A B):LPwrite p r g B y:=h.kept (Kept3.of_below hb)
def CollPWrite (p r g:Nat) (m:Ext) (V:Int) (N:NC) (X:World→Prop) (w:World) (b:Nat) (s:Ps × List PWrite) (W:World):Prop :=
  PAt 2 p r g m V N W s.1∧X W∧Kept3 p r g w W∧∃ (v:Value) (ys:List (PWrite × (Option Addr × Nat) × (Option Addr × Nat))),ys.map (·.1)=s.2∧(∀ y∈ys,LPwrite p r g W y)∧W.heap[b]?=some (.cells #[v] 52 (0,0))∧W.ownsRow (b+1) 99 3 v ys.length (ys.flatMap fun y=>writeCells y)
section
variable {p r g:Nat} {m:Ext} {V:Int} {N:NC} {X:World→Prop} {w:World}
theorem collPWrite_own (b:Nat) (hX:Old p r g X w) (hb:w.heap.size≤b) (B:Nat) (hB:w.heap.size≤B):OwnFrom B (CollPWrite p r g m V N X w b):=fun s A W row hs hg hr=>by
  obtain ⟨h1,h2,h3,v,ys,e,hl,h4,h5⟩:=hs
  have ht:=Turn.of_grown hg fun r e=>(hr r e).2
  exact ⟨ht.pat h1,hX A W h2 fun k hk _ _ _=>hg.block k (by have:=h3.size;omega) (fun e=>by have:=(hr k e.symm).1;omega),h3.turned hg fun r e=>by have:=(hr r e).1;omega,v,ys,e,fun y hy=>(hl y hy).turn ht,ht.same _ _ _ _ h4,ht.owns h5⟩
theorem collPWrite_new {b:Nat} {s:Ps × List PWrite} {A:World} (hX:Old p r g X w) (h:CollPWrite p r g m V N X w b s A) (o:Obj):CollPWrite p r g m V N X w b s (A.alloc o):=by
  obtain ⟨h1,h2,h3,v,ys,e,hl,h4,h5⟩:=h
  have hb:Below A.heap.size A (A.alloc o):=(Below.refl _ A).alloc (Nat.le_refl _) o
  exact ⟨h1.below hb,hX A _ h2 fun k hk _ _ _=>Below.heap_alloc _ _ _ (by have:=h3.size;omega),h3.alloc o,v,ys,e,fun y hy=>(hl y hy).below hb,(Below.heap_alloc _ _ _ (lt_of_row h4)).trans h4,h5.alloc o⟩
theorem collPWrite_step {b:Nat} (hX:Old p r g X w) (hb:p<b∧r<b∧g<b) (hw:w.heap.size≤b) {s s':Ps × List PWrite} {A B:World} (h:CollPWrite p r g m V N X w b s A) (hs:LSt p r g m V s s' A B):CollPWrite p r g m V N X w b s' B:=by
  obtain ⟨h1,h2,h3,v,ys,e,hl,h4,h5⟩:=h
  obtain ⟨e1,hP,hK⟩:=hs
  exact ⟨hP N h1,hX A B h2 fun k hk a1 a2 a3=>hK.block k (by have:=h3.size;omega) a1 a2 a3,h3.trans hK,v,ys,by rw [e1];exact e,fun y hy=>(hl y hy).kept hK,(hK.block b (lt_of_row h4) (by omega) (by omega) (by omega)).trans h4,own_step h5 hK (by omega)⟩
set_option maxRecDepth 100000 in
set_option maxHeartbeats 8000000 in
theorem appendSeq_write {gf:Nat} {lb:Array Value} (eg:∀ args w,(callFunc gf args).run Tryz.prog w=.ok (.enter gf args) w) (s0:Ps) (hX:Old p r g X w) (hX0:X w) (hP:PAt 2 p r g m V N w s0) (cnt:Nat) (hcnt:cnt≤1000000) (Fi:Ps × List PWrite→Prop)
    (hseq:∀ w',Below w.heap.size w w'→SeqW (α:=PWrite) Fence.wide 4 Tryz.prog gf lb (fun s A=>(∃ N,PAt 2 p r g m V N A s.1)∧X A) (LSt p r g m V) (fun s x v A0=>(s.1.e=none∧s.2.length<cnt)∧∃ A c0 A2 c2,v=.agg #[.int .i64 x.wo,.slice A x.wa.length c0,.slice A2 x.wd.length c2]∧LP p r g A0 A c0 x.wa∧LP p r g A0 A2 c2 x.wd) (fun s x=>(s.1,s.2++[x])) Fi (s0,[]) w') :
    Calls Tryz.prog 225 #[.slice none 0 0,.func (.func gf) #[] lb] w fun e w'=>∃ s l A c,Fi (s,l)∧e=.returned (.slice A l.length c)∧RP 99 p r g 3 (PWriteAt p r g) w' A c l∧PAt 2 p r g m V N w' s∧Kept3 p r g w w':=by
  have hpl:=hP.lt
  have hgl:=hP.glt
  have hpt:=hP.top
  obtain ⟨i0,hi,hz0,hz1,hz2⟩:=info_parts write_info
  have HP:=Lib.hid hP
  have HX:=Lib.hid (And.intro hX hX0)
  have HSEQ:=Lib.hid hseq
  clear hP hX hX0 hseq
  refine (callsIn_wide (n:=5)).1 ?_
  refine callsIn_of_wp_marks Tryz.func225 rfl trivial ?_ rfl
  simp only [Tryz.ntmps225,List.size_toArray,List.length_cons,List.length_nil,Nat.reduceAdd,Nat.reduceSub,Array.replicate_succ,Array.replicate_zero,List.push_toArray,List.append_toArray,List.nil_append,List.cons_append]
  gi_wp2
  have hb1:Below w.heap.size w (w.alloc (.cells #[.slice none 0 0] 52)):=(Below.refl _ w).alloc (Nat.le_refl _) _
  have hrow:=heap_alloc_new w (.cells #[.slice none 0 0] 52)
  have hsz:(w.alloc (.cells #[.slice none 0 0] 52)).heap.size=w.heap.size+1:=by simp
  generalize w.alloc (.cells #[.slice none 0 0] 52)=w1 at *
  have hI0:CollPWrite p r g m V N X w w.heap.size (s0,[]) w1:=⟨HP.out.below hb1,HX.out.1 w w1 HX.out.2 fun k hk _ _ _=>hb1.block k hk,Kept3.of_below hb1,_,[],rfl,(fun y hy=>by cases hy),hrow,World.ownsRow_nil _ _ _ _⟩
  refine wp_range (p0:=7) rfl (by omega) (gf:=gf) (lb:=lb) rfl trivial eg (HSEQ.out w1 hb1) (Below.refl _ _) (CollPWrite p r g m V N X w w.heap.size) (collPWrite_own _ HX.out.1 (Nat.le_refl _) _ (by omega))
    (fun s W h=>⟨⟨N,h.1⟩,h.2.1⟩) (fun s s' A B hA h hs=>collPWrite_step HX.out.1 ⟨hpl.1,hpl.2,hgl⟩ (Nat.le_refl _) h hs)
    (fun s s' A B hk hs=>by obtain ⟨⟨N1,h1⟩,_⟩:=hk;exact keeps_step h1 hs.2.2)
    hI0 (fun q W=>(∃ (vb:Nat) (y:PWrite × (Option Addr × Nat) × (Option Addr × Nat)),y.1=q.2.1∧LPwrite p r g W y∧W.heap[vb]?=some (.cells (writeCells y).toArray 99 (0,0))∧w.heap.size<vb∧q.2.2={ tmps:=#[.slice none 0 0,.func (.func gf) #[] lb,.pointer (some ⟨w.heap.size,0,none⟩),undef,.slice none 0 0,.pointer (some ⟨vb,0,none⟩),.func (.func gf) #[] lb,.agg (writeCells y).toArray,undef,undef,undef,undef,undef],defers:=[] })∧CollPWrite p r g m V N X w w.heap.size q.1 W∧q.1.2.length<cnt)
    (fun q A W row hs hg hr=>by
      obtain ⟨⟨vb,y,q0,ql,q1,q2,q3⟩,q4,q5⟩:=hs
      have ht:=Turn.of_grown hg fun r e=>(hr r e).2
      exact ⟨⟨vb,y,q0,ql.turn ht,ht.same _ _ _ _ q1,q2,q3⟩,collPWrite_own _ HX.out.1 (Nat.le_refl _) _ (by omega) q.1 A W row q4 hg hr,q5⟩) ?assign ?body ?done
  case assign =>
    rintro l s x v W hW hI ⟨⟨he,hlt⟩,A,c0,A2,c2,rfl,hLP⟩
    have HI:=Lib.hid (And.intro hI (show LPwrite p r g W (x,(A,c0),(A2,c2)) from hLP))
    have hwW:=lt_of_row hI.2.2.2.choose_spec.choose_spec.2.2.1
    clear hI hLP
    gi_wp2
    refine ⟨KeepsOthers.alloc _ _,⟨W.heap.size,(x,(A,c0),(A2,c2)),rfl,HI.out.2.below ((Below.refl _ W).alloc (Nat.le_refl _) _),heap_alloc_new W _,hwW,rfl⟩,?_,hlt⟩
    exact collPWrite_new HX.out.1 HI.out.1 _
  case body =>
    rintro l ⟨s,xs⟩ x a' W hW ⟨⟨vb,y,hyx,hLP,hvb,hvl,ha⟩,⟨h1,h2,h3,v,ys,hys,hl,h4,h5⟩,hlt⟩
    dsimp only at ha hlt h1 h5 hyx hys
    subst hys
    subst hyx
    subst ha
    rw [List.length_map] at hlt
    have hwW:=lt_of_row h4
    have t0:W.cell? ⟨vb,0,none⟩=some (.int .i64 y.1.wo):=by rw [cell_of_row _ _ _ _ _ _ hvb];rfl
    have t1:W.cell? ⟨vb,1,none⟩=some (.slice y.2.1.1 y.1.wa.length y.2.1.2):=by rw [cell_of_row _ _ _ _ _ _ hvb];rfl
    have t2:W.cell? ⟨vb,2,none⟩=some (.slice y.2.2.1 y.1.wd.length y.2.2.2):=by rw [cell_of_row _ _ _ _ _ _ hvb];rfl
    have hcn:=cells_new W (writeCells y) 99
    unfold writeCells at hcn
    clear hvb
    unfold writeCells
    have cb:W.cell? ⟨w.heap.size,0,none⟩=some v:=by rw [cell_of_row _ _ _ _ _ _ h4];rfl
    have HH:=Lib.hid (And.intro h1 (And.intro h2 (And.intro h3 h4)))
    have HLL:=Lib.hid (And.intro hLP hl)
    clear h1 h2 h3 h4 hLP hl
    gi_wp2_with (gi_at_builtin;refine wpListIn_append_own _ rfl _ _ 52 rfl (w.heap.size+1) 99 i0 (.agg #[.int .i64 0,.slice none 0 0,.slice none 0 0]) 3 56 Tryz.underlying52 hi hz0 hz1 hz2 rfl (by decide) _ _ _ rfl (h5.alloc _) ⟨W.heap.size,0,none⟩ 1 1 [Value.int .i64 y.1.wo,Value.slice y.2.1.1 y.1.wa.length y.2.1.2,Value.slice y.2.2.1 y.1.wd.length y.2.2.2] rfl rfl hcn (by simp [Value.oneCell']) (by unfold maxLen;omega) (by omega) (by simp;omega) ?_;intro v' w2 hO2 hgrow _;obtain ⟨g',cap',rfl⟩:=ownsRow_succ hO2;have h4':w2.heap[w.heap.size]?=some (.cells #[v] 52 (0,0)):=(hgrow.block _ (by simp;omega) (fun e=>by have:=((h5.alloc (.cells #[.int .i64 y.1.wo,.slice y.2.1.1 y.1.wa.length y.2.1.2,.slice y.2.2.1 y.1.wd.length y.2.2.2] 99)).lt _ e.symm).1;omega)).trans ((Below.heap_alloc _ _ _ (by omega)).trans HH.out.2.2.2);have cb2:w2.cell? ⟨w.heap.size,0,none⟩=some v:=(by rw [cell_of_row _ _ _ _ _ _ h4'];rfl);have cf2:w2.frozen? ⟨w.heap.size,0,none⟩=false:=frozen_of_row _ _ _ _ _ h4';have H2:=Lib.hid (And.intro hO2 (And.intro hgrow h4'));clear hO2 hgrow h4')
    obtain ⟨hO2,hgrow,h4'⟩:=H2.out
    obtain ⟨h1,h2,h3,h4⟩:=HH.out
    have hoa:=h5.alloc (.cells #[.int .i64 y.1.wo,.slice y.2.1.1 y.1.wa.length y.2.1.2,.slice y.2.2.1 y.1.wd.length y.2.2.2] 99)
    refine ⟨((KeepsOthers.alloc _ _).trans (keeps_own hoa hgrow)).trans (KeepsOthers.setCell _ _ _),⟨?_,?_,?_,_,ys++[y],by simp,?_,heap_setCell_same _ _ 0 _ _ _ h4',?_⟩⟩
    · exact ((h1.below ((Below.refl _ W).alloc (Nat.le_refl _) _)).grown hoa (by decide) (by omega) hgrow).setBox h4' (by decide) (by omega)
    · refine HX.out.1 W _ h2 fun k hk _ _ _=>?_
      refine (heap_setCell_other _ _ _ _ (by show k≠w.heap.size;omega)).trans ((hgrow.block k (by simp;omega) (fun e=>by have:=(hoa.lt _ e.symm).1;omega)).trans (Below.heap_alloc _ _ _ (by omega)))
    · exact ((h3.alloc _).grown hoa (by omega) hgrow).setBox (Nat.le_refl _)
    · intro y' hy'
      have hold:LPwrite p r g W y':=by
        rcases List.mem_append.1 hy' with h | h
        · exact HLL.out.2 y' h
        · rw [List.mem_singleton.1 h];exact HLL.out.1
      have h8:=hold.below ((Below.refl _ W).alloc (Nat.le_refl _) (.cells #[.int .i64 y.1.wo,.slice y.2.1.1 y.1.wa.length y.2.1.2,.slice y.2.2.1 y.1.wd.length y.2.2.2] 99))
      exact ⟨(h8.1.grown hoa (by decide) hgrow).setBox h4' (by decide),(h8.2.grown hoa (by decide) hgrow).setBox h4' (by decide)⟩
    · rw [List.flatMap_append,List.length_append]
      exact own_set hO2 (by omega)
  case done =>
    rintro D ⟨s,xs⟩ W hD hF ⟨h1,h2,h3,v,ys,hys,hl,h4,h5⟩ hK
    dsimp only at h1 h5 hys
    subst hys
    obtain ⟨A,c,rfl,hR⟩:=RP.of_own (p:=p) (r:=r) (g:=g) (k:=3) (base:=w.heap.size+1) (cells:=fun y:PWrite × (Option Addr × Nat) × (Option Addr × Nat)=>writeCells y) (At:=fun W b o y=>∀ i u,(writeCells y)[i]?=some u→W.cell? ⟨b,o+i,none⟩=some u) (fun _=>rfl) (fun b o x h=>h) h5 (by omega)
    have hR2:RP 99 p r g 3 (PWriteAt p r g) W A c (ys.map (·.1)):=by
      refine ⟨fun hn=>?_,by rw [List.length_map];exact hR.2.1,hR.2.2⟩
      obtain ⟨b,o,e,hb,hc⟩:=hR.1 (by intro e;apply hn;rw [e];rfl)
      refine ⟨b,o,e,hb,fun j x hj=>?_⟩
      rw [List.getElem?_map] at hj
      obtain ⟨y,hy,rfl⟩:=Option.map_eq_some_iff.1 hj
      have hyc:=hc j y hy
      have hyl:=hl y (mem_of_some hy)
      exact ⟨_,_,_,_,hyc 0 _ rfl,hyc 1 _ rfl,hyc 2 _ rfl,hyl.1,hyl.2⟩
    rw [← List.length_map (f:=fun y:PWrite × (Option Addr × Nat) × (Option Addr × Nat)=>y.1)] at h4
    have cb:W.cell? ⟨w.heap.size,0,none⟩=some (.slice A (ys.map fun y:PWrite × (Option Addr × Nat) × (Option Addr × Nat)=>y.1).length c):=by rw [cell_of_row _ _ _ _ _ _ h4];rfl
    have HH:=Lib.hid (And.intro h1 (And.intro h3 (And.intro hR2 hF)))
    have HK:=Lib.hid hK
    clear h1 h2 h3 h4 h5 hR hR2 hF hK hl
    generalize (ys.map fun y:PWrite × (Option Addr × Nat) × (Option Addr × Nat)=>y.1)=xs at *
    gi_wp2
    refine ⟨by simp,.inl ⟨_,_,rfl,run_takeDeferred HK.out,?_⟩⟩
    obtain ⟨h1,h3,hR,hF⟩:=HH.out
    have ht:Turn W (W.putObj D (.deferred none)):=Turn.put HK.out rfl
    refine ⟨_,by simp [results,Tryz.f225,go_sem],s,xs,A,c,hF,rfl,?_,ht.pat h1,h3.turned (grownBy_putObj' W D _) (fun r e=>by cases e;omega)⟩
    exact ht.rp hR (fun b o x h=>writeAt_turn ht h)
set_option maxRecDepth 100000 in
theorem collect_write {gf:Nat} {lb:Array Value} {R:Ending→World→Prop} (h:Calls Tryz.prog 225 #[.slice none 0 0,.func (.func gf) #[] lb] w R) (hR:∀ e w',R e w'→∃ v,e=.returned v) :
    Calls Tryz.prog 189 #[.func (.func gf) #[] lb] w R:=by
  have H:=Lib.hid (h.mono (R':=fun e w'=>∃ v,e=.returned v∧R (.returned v) w') fun e w' hr=>by
    obtain ⟨v,rfl⟩:=hR e w' hr
    exact ⟨v,rfl,hr⟩)
  clear h hR
  go_enter Tryz.func189,Tryz.ntmps189
  go_wp2_with (go_at_call 225;refine H.out.mono ?_;rintro e w1 ⟨v,rfl,hr⟩)
  exact hr
end
open Go.ChangeShapes Go.WideShapes Go.RowKit Go.Shelf
def push {α:Type} (s:Ps × List α) (x:α):Ps × List α:=(s.1,s.2++[x])
def Ps.parts {α:Type} (wf:Ps→α × Ps) (cnt:Nat) (s:Ps):List α × Ps:=((eachF wf push cnt (s,[])).2,(eachF wf push cnt (s,[])).1)
def Ps.lines {α:Type} (wf:Ps→α × Ps) (cnt:Nat) (s:Ps):List α × Ps:=((linesF wf push cnt (s,[])).2,(linesF wf push cnt (s,[])).1)
theorem Ps.parts_ln {α:Type} (wf:Ps→α × Ps) (cnt:Nat) (s:Ps):s.parts (Ps.ln wf) cnt=s.lines wf cnt:=by
  unfold Ps.parts Ps.lines
  rw [linesF_each]
def CollLeft {α:Type} (T:TypeId) (p r g:Nat) (m:Ext) (V:Int) (N:NC) (k:Nat) (At:World→Nat→Nat→α→Prop) (w:World) (y:List α × Ps) (e:Ending) (w':World):Prop :=
  ∃ A c,e=.returned (.slice A y.1.length c)∧RP T p r g k At w' A c y.1∧PAt 2 p r g m V N w' y.2∧Kept3 p r g w w'
def EachLeft (p cnt gf:Nat) (tf:TypeId) (fv:Value) (w:World) (e:Ending) (w':World):Prop :=
  e=.returned (.func (.func gf) #[] #[.pointer (some ⟨w.heap.size+1,0,none⟩),.pointer (some ⟨w.heap.size,0,none⟩),.pointer (some ⟨w.heap.size+1+1,0,none⟩)])∧Caught (w.heap.size+1) w.heap.size (w.heap.size+1+1) p cnt tf fv w'∧Below w.heap.size w w'∧w'.heap.size=w.heap.size+3
theorem eachLeft_of (p cnt gf:Nat) (tf:TypeId) (fv:Value) (w:World):EachLeft p cnt gf tf fv w (.returned (.func (.func gf) #[] #[.pointer (some ⟨w.heap.size+1,0,none⟩),.pointer (some ⟨w.heap.size,0,none⟩),.pointer (some ⟨w.heap.size+1+1,0,none⟩)])) (((w.alloc (.cells #[.pointer (some ⟨p,0,none⟩)] 62)).alloc (.cells #[.int .i64 cnt] 3)).alloc (.cells #[fv] tf)):=by
  have h1:=heap_alloc_new w (.cells #[.pointer (some ⟨p,0,none⟩)] 62)
  have h2:=heap_alloc_new (w.alloc (.cells #[.pointer (some ⟨p,0,none⟩)] 62)) (.cells #[.int .i64 cnt] 3)
  have h3:=heap_alloc_new ((w.alloc (.cells #[.pointer (some ⟨p,0,none⟩)] 62)).alloc (.cells #[.int .i64 cnt] 3)) (.cells #[fv] tf)
  simp only [World.size_alloc] at h2 h3
  refine ⟨rfl,⟨(Below.heap_alloc _ _ _ (by simp)).trans h2,(Below.heap_alloc _ _ _ (by simp;omega)).trans ((Below.heap_alloc _ _ _ (by simp)).trans h1),h3⟩,(((Below.refl _ w).alloc (Nat.le_refl _) _).alloc (by simp) _).alloc (by simp;omega) _,by simp⟩
def LinesLeft (p cnt gf lf:Nat) (tf:TypeId) (fv:Value) (w:World) (e:Ending) (w':World):Prop :=
  ∃ b,w.heap.size=b∧e=.returned (.func (.func gf) #[] #[.pointer (some ⟨b+3,0,none⟩),.pointer (some ⟨b+2,0,none⟩),.pointer (some ⟨b+4,0,none⟩)])∧Caught (b+3) (b+2) (b+4) p cnt tf (.func (.func lf) #[] #[.pointer (some ⟨b+1,0,none⟩),.pointer (some ⟨b,0,none⟩)]) w'∧CaughtL (b+1) b p tf fv w'∧Below w.heap.size w w'∧w'.heap.size=b+5
theorem linesLeft_of (p:Nat) (tf:TypeId) (fv:Value) (w:World):∃ w2,w2=(w.alloc (.cells #[.pointer (some ⟨p,0,none⟩)] 62)).alloc (.cells #[fv] tf)∧w2.heap.size=w.heap.size+1+1∧CaughtL (w.heap.size+1) w.heap.size p tf fv w2∧Below w.heap.size w w2:=by
  have h1:=heap_alloc_new w (.cells #[.pointer (some ⟨p,0,none⟩)] 62)
  have h2:=heap_alloc_new (w.alloc (.cells #[.pointer (some ⟨p,0,none⟩)] 62)) (.cells #[fv] tf)
  simp only [World.size_alloc] at h2
  exact ⟨_,rfl,by simp,⟨h2,(Below.heap_alloc _ _ _ (by simp)).trans h1⟩,((Below.refl _ w).alloc (Nat.le_refl _) _).alloc (by simp) _⟩
section
variable {p r g:Nat} {m:Ext} {V:Int} {N:NC} {w:World} {s:Ps}
theorem old_caught {cb pb wb cnt:Nat} {tf:TypeId} {fv:Value} (hl:cb<w.heap.size∧pb<w.heap.size∧wb<w.heap.size) (ha:(cb≠p∧cb≠r∧cb≠g)∧(pb≠p∧pb≠r∧pb≠g)∧(wb≠p∧wb≠r∧wb≠g)):Old p r g (Caught cb pb wb p cnt tf fv) w:=fun A B h hk =>
  ⟨(hk cb hl.1 ha.1.1 ha.1.2.1 ha.1.2.2).trans h.c,(hk pb hl.2.1 ha.2.1.1 ha.2.1.2.1 ha.2.1.2.2).trans h.p,(hk wb hl.2.2 ha.2.2.1 ha.2.2.2.1 ha.2.2.2.2).trans h.w⟩
theorem old_caughtL {lb qb:Nat} {tf:TypeId} {fv:Value} (hl:lb<w.heap.size∧qb<w.heap.size) (ha:(lb≠p∧lb≠r∧lb≠g)∧(qb≠p∧qb≠r∧qb≠g)):Old p r g (CaughtL lb qb p tf fv) w:=fun A B h hk =>
  ⟨(hk lb hl.1 ha.1.1 ha.1.2.1 ha.1.2.2).trans h.w,(hk qb hl.2 ha.2.1 ha.2.2.1 ha.2.2.2).trans h.p⟩
theorem old_caughtM {qb mb a wd:Nat} {nn:Bool} {c3 c4:Value} (hl:qb<w.heap.size∧mb<w.heap.size) (ha:(qb≠p∧qb≠r∧qb≠g)∧(mb≠p∧mb≠r∧mb≠g)):Old p r g (CaughtM qb mb p a wd nn c3 c4) w:=fun A B h hk =>
  ⟨(hk qb hl.1 ha.1.1 ha.1.2.1 ha.1.2.2).trans h.p,(hk mb hl.2 ha.2.1 ha.2.2.1 ha.2.2.2).trans h.m⟩
theorem old_caughtD {db:Nat} {fv:Value} (hl:db<w.heap.size) (ha:db≠p∧db≠r∧db≠g):Old p r g (CaughtD db fv) w:=fun A B h hk =>
  (hk db hl ha.1 ha.2.1 ha.2.2).trans h
theorem Old.and {X Y:World→Prop} (hx:Old p r g X w) (hy:Old p r g Y w):Old p r g (fun W=>X W∧Y W) w:=fun A B h hk=>⟨hx A B h.1 hk,hy A B h.2 hk⟩
theorem Caught.lt {cb pb wb cnt:Nat} {tf:TypeId} {fv:Value} {W:World} (h:Caught cb pb wb p cnt tf fv W):cb<W.heap.size∧pb<W.heap.size∧wb<W.heap.size:=⟨lt_of_row h.c,lt_of_row h.p,lt_of_row h.w⟩
theorem CaughtL.lt {lb qb:Nat} {tf:TypeId} {fv:Value} {W:World} (h:CaughtL lb qb p tf fv W):lb<W.heap.size∧qb<W.heap.size:=⟨lt_of_row h.w,lt_of_row h.p⟩
theorem CaughtM.lt {qb mb a wd:Nat} {nn:Bool} {c3 c4:Value} {W:World} (h:CaughtM qb mb p a wd nn c3 c4 W):qb<W.heap.size∧mb<W.heap.size:=⟨lt_of_row h.p,lt_of_row h.m⟩
theorem make_int (cnt:Nat) (fv:Value) (hf:∃ f a b,fv=.func f a b) (w:World):Calls Tryz.prog 175 #[.pointer (some ⟨p,0,none⟩),.int .i64 cnt,fv] w (EachLeft p cnt 216 134 fv w):=by
  obtain ⟨f,a,b,rfl⟩:=hf
  have H:=Lib.hid (eachLeft_of p cnt 216 134 (.func f a b) w)
  go_enter Tryz.func175,Tryz.ntmps175
  go_wp2
  go_ret
  exact H.out
theorem lines_int (cnt:Nat) (fv:Value) (hf:∃ f a b,fv=.func f a b) (w:World):Calls Tryz.prog 122 #[.pointer (some ⟨p,0,none⟩),.int .i64 cnt,fv] w (LinesLeft p cnt 216 176 134 fv w):=by
  obtain ⟨f,a,b,rfl⟩:=hf
  obtain ⟨w2,hw2,hz,hL,hB⟩:=linesLeft_of p 134 (.func f a b) w
  have HM:=Lib.hid (make_int (p:=p) cnt (.func (.func 176) #[] #[.pointer (some ⟨w.heap.size+1,0,none⟩),.pointer (some ⟨w.heap.size,0,none⟩)]) ⟨_,_,_,rfl⟩ w2)
  have HL:=Lib.hid (And.intro hL (And.intro hB hz))
  clear hL hB hz
  subst hw2
  go_enter Tryz.func122,Tryz.ntmps122
  go_wp2_with (go_at_call 175;refine HM.out.mono ?_;clear HM;rintro e w3 ⟨rfl,hC,hB,hz⟩;have HE:=Lib.hid (And.intro hC (And.intro hB hz));clear hC hB hz)
  go_ret
  obtain ⟨hC,hB,hz⟩:=HE.out
  obtain ⟨hL,hB0,hz0⟩:=HL.out
  rw [hz0] at hC hB hz
  have hk:Kept3 0 0 0 _ w3:=Kept3.of_below (hz0 ▸ hB)
  refine ⟨_,rfl,rfl,hC,⟨?_,?_⟩,hB0.trans (hB.mono (by omega)),hz⟩
  · exact (hB.block _ (by omega)).trans hL.w
  · exact (hB.block _ (by omega)).trans hL.p
theorem make_latch (cnt:Nat) (fv:Value) (hf:∃ f a b,fv=.func f a b) (w:World):Calls Tryz.prog 179 #[.pointer (some ⟨p,0,none⟩),.int .i64 cnt,fv] w (EachLeft p cnt 219 178 fv w):=by
  obtain ⟨f,a,b,rfl⟩:=hf
  have H:=Lib.hid (eachLeft_of p cnt 219 178 (.func f a b) w)
  go_enter Tryz.func179,Tryz.ntmps179
  go_wp2
  go_ret
  exact H.out
theorem lines_latch (cnt:Nat) (fv:Value) (hf:∃ f a b,fv=.func f a b) (w:World):Calls Tryz.prog 125 #[.pointer (some ⟨p,0,none⟩),.int .i64 cnt,fv] w (LinesLeft p cnt 219 180 178 fv w):=by
  obtain ⟨f,a,b,rfl⟩:=hf
  obtain ⟨w2,hw2,hz,hL,hB⟩:=linesLeft_of p 178 (.func f a b) w
  have HM:=Lib.hid (make_latch (p:=p) cnt (.func (.func 180) #[] #[.pointer (some ⟨w.heap.size+1,0,none⟩),.pointer (some ⟨w.heap.size,0,none⟩)]) ⟨_,_,_,rfl⟩ w2)
  have HL:=Lib.hid (And.intro hL (And.intro hB hz))
  clear hL hB hz
  subst hw2
  go_enter Tryz.func125,Tryz.ntmps125
  go_wp2_with (go_at_call 179;refine HM.out.mono ?_;clear HM;rintro e w3 ⟨rfl,hC,hB,hz⟩;have HE:=Lib.hid (And.intro hC (And.intro hB hz));clear hC hB hz)
  go_ret
  obtain ⟨hC,hB,hz⟩:=HE.out
  obtain ⟨hL,hB0,hz0⟩:=HL.out
  rw [hz0] at hC hB hz
  have hk:Kept3 0 0 0 _ w3:=Kept3.of_below (hz0 ▸ hB)
  refine ⟨_,rfl,rfl,hC,⟨?_,?_⟩,hB0.trans (hB.mono (by omega)),hz⟩
  · exact (hB.block _ (by omega)).trans hL.w
  · exact (hB.block _ (by omega)).trans hL.p
theorem make_and (cnt:Nat) (fv:Value) (hf:∃ f a b,fv=.func f a b) (w:World):Calls Tryz.prog 150 #[.pointer (some ⟨p,0,none⟩),.int .i64 cnt,fv] w (EachLeft p cnt 203 187 fv w):=by
  obtain ⟨f,a,b,rfl⟩:=hf
  have H:=Lib.hid (eachLeft_of p cnt 203 187 (.func f a b) w)
  go_enter Tryz.func150,Tryz.ntmps150
  go_wp2
  go_ret
  exact H.out
theorem lines_and (cnt:Nat) (fv:Value) (hf:∃ f a b,fv=.func f a b) (w:World):Calls Tryz.prog 133 #[.pointer (some ⟨p,0,none⟩),.int .i64 cnt,fv] w (LinesLeft p cnt 203 194 187 fv w):=by
  obtain ⟨f,a,b,rfl⟩:=hf
  obtain ⟨w2,hw2,hz,hL,hB⟩:=linesLeft_of p 187 (.func f a b) w
  have HM:=Lib.hid (make_and (p:=p) cnt (.func (.func 194) #[] #[.pointer (some ⟨w.heap.size+1,0,none⟩),.pointer (some ⟨w.heap.size,0,none⟩)]) ⟨_,_,_,rfl⟩ w2)
  have HL:=Lib.hid (And.intro hL (And.intro hB hz))
  clear hL hB hz
  subst hw2
  go_enter Tryz.func133,Tryz.ntmps133
  go_wp2_with (go_at_call 150;refine HM.out.mono ?_;clear HM;rintro e w3 ⟨rfl,hC,hB,hz⟩;have HE:=Lib.hid (And.intro hC (And.intro hB hz));clear hC hB hz)
  go_ret
  obtain ⟨hC,hB,hz⟩:=HE.out
  obtain ⟨hL,hB0,hz0⟩:=HL.out
  rw [hz0] at hC hB hz
  have hk:Kept3 0 0 0 _ w3:=Kept3.of_below (hz0 ▸ hB)
  refine ⟨_,rfl,rfl,hC,⟨?_,?_⟩,hB0.trans (hB.mono (by omega)),hz⟩
  · exact (hB.block _ (by omega)).trans hL.w
  · exact (hB.block _ (by omega)).trans hL.p
theorem make_memory (cnt:Nat) (fv:Value) (hf:∃ f a b,fv=.func f a b) (w:World):Calls Tryz.prog 183 #[.pointer (some ⟨p,0,none⟩),.int .i64 cnt,fv] w (EachLeft p cnt 221 79 fv w):=by
  obtain ⟨f,a,b,rfl⟩:=hf
  have H:=Lib.hid (eachLeft_of p cnt 221 79 (.func f a b) w)
  go_enter Tryz.func183,Tryz.ntmps183
  go_wp2
  go_ret
  exact H.out
theorem lines_memory (cnt:Nat) (fv:Value) (hf:∃ f a b,fv=.func f a b) (w:World):Calls Tryz.prog 128 #[.pointer (some ⟨p,0,none⟩),.int .i64 cnt,fv] w (LinesLeft p cnt 221 184 79 fv w):=by
  obtain ⟨f,a,b,rfl⟩:=hf
  obtain ⟨w2,hw2,hz,hL,hB⟩:=linesLeft_of p 79 (.func f a b) w
  have HM:=Lib.hid (make_memory (p:=p) cnt (.func (.func 184) #[] #[.pointer (some ⟨w.heap.size+1,0,none⟩),.pointer (some ⟨w.heap.size,0,none⟩)]) ⟨_,_,_,rfl⟩ w2)
  have HL:=Lib.hid (And.intro hL (And.intro hB hz))
  clear hL hB hz
  subst hw2
  go_enter Tryz.func128,Tryz.ntmps128
  go_wp2_with (go_at_call 183;refine HM.out.mono ?_;clear HM;rintro e w3 ⟨rfl,hC,hB,hz⟩;have HE:=Lib.hid (And.intro hC (And.intro hB hz));clear hC hB hz)
  go_ret
  obtain ⟨hC,hB,hz⟩:=HE.out
  obtain ⟨hL,hB0,hz0⟩:=HL.out
  rw [hz0] at hC hB hz
  have hk:Kept3 0 0 0 _ w3:=Kept3.of_below (hz0 ▸ hB)
  refine ⟨_,rfl,rfl,hC,⟨?_,?_⟩,hB0.trans (hB.mono (by omega)),hz⟩
  · exact (hB.block _ (by omega)).trans hL.w
  · exact (hB.block _ (by omega)).trans hL.p
theorem make_read (cnt:Nat) (fv:Value) (hf:∃ f a b,fv=.func f a b) (w:World):Calls Tryz.prog 223 #[.pointer (some ⟨p,0,none⟩),.int .i64 cnt,fv] w (EachLeft p cnt 249 225 fv w):=by
  obtain ⟨f,a,b,rfl⟩:=hf
  have H:=Lib.hid (eachLeft_of p cnt 249 225 (.func f a b) w)
  go_enter Tryz.func223,Tryz.ntmps223
  go_wp2
  go_ret
  exact H.out
theorem lines_read (cnt:Nat) (fv:Value) (hf:∃ f a b,fv=.func f a b) (w:World):Calls Tryz.prog 186 #[.pointer (some ⟨p,0,none⟩),.int .i64 cnt,fv] w (LinesLeft p cnt 249 224 225 fv w):=by
  obtain ⟨f,a,b,rfl⟩:=hf
  obtain ⟨w2,hw2,hz,hL,hB⟩:=linesLeft_of p 225 (.func f a b) w
  have HM:=Lib.hid (make_read (p:=p) cnt (.func (.func 224) #[] #[.pointer (some ⟨w.heap.size+1,0,none⟩),.pointer (some ⟨w.heap.size,0,none⟩)]) ⟨_,_,_,rfl⟩ w2)
  have HL:=Lib.hid (And.intro hL (And.intro hB hz))
  clear hL hB hz
  subst hw2
  go_enter Tryz.func186,Tryz.ntmps186
  go_wp2_with (go_at_call 223;refine HM.out.mono ?_;clear HM;rintro e w3 ⟨rfl,hC,hB,hz⟩;have HE:=Lib.hid (And.intro hC (And.intro hB hz));clear hC hB hz)
  go_ret
  obtain ⟨hC,hB,hz⟩:=HE.out
  obtain ⟨hL,hB0,hz0⟩:=HL.out
  rw [hz0] at hC hB hz
  have hk:Kept3 0 0 0 _ w3:=Kept3.of_below (hz0 ▸ hB)
  refine ⟨_,rfl,rfl,hC,⟨?_,?_⟩,hB0.trans (hB.mono (by omega)),hz⟩
  · exact (hB.block _ (by omega)).trans hL.w
  · exact (hB.block _ (by omega)).trans hL.p
theorem make_write (cnt:Nat) (fv:Value) (hf:∃ f a b,fv=.func f a b) (w:World):Calls Tryz.prog 226 #[.pointer (some ⟨p,0,none⟩),.int .i64 cnt,fv] w (EachLeft p cnt 250 230 fv w):=by
  obtain ⟨f,a,b,rfl⟩:=hf
  have H:=Lib.hid (eachLeft_of p cnt 250 230 (.func f a b) w)
  go_enter Tryz.func226,Tryz.ntmps226
  go_wp2
  go_ret
  exact H.out
theorem lines_write (cnt:Nat) (fv:Value) (hf:∃ f a b,fv=.func f a b) (w:World):Calls Tryz.prog 190 #[.pointer (some ⟨p,0,none⟩),.int .i64 cnt,fv] w (LinesLeft p cnt 250 227 230 fv w):=by
  obtain ⟨f,a,b,rfl⟩:=hf
  obtain ⟨w2,hw2,hz,hL,hB⟩:=linesLeft_of p 230 (.func f a b) w
  have HM:=Lib.hid (make_write (p:=p) cnt (.func (.func 227) #[] #[.pointer (some ⟨w.heap.size+1,0,none⟩),.pointer (some ⟨w.heap.size,0,none⟩)]) ⟨_,_,_,rfl⟩ w2)
  have HL:=Lib.hid (And.intro hL (And.intro hB hz))
  clear hL hB hz
  subst hw2
  go_enter Tryz.func190,Tryz.ntmps190
  go_wp2_with (go_at_call 226;refine HM.out.mono ?_;clear HM;rintro e w3 ⟨rfl,hC,hB,hz⟩;have HE:=Lib.hid (And.intro hC (And.intro hB hz));clear hC hB hz)
  go_ret
  obtain ⟨hC,hB,hz⟩:=HE.out
  obtain ⟨hL,hB0,hz0⟩:=HL.out
  rw [hz0] at hC hB hz
  have hk:Kept3 0 0 0 _ w3:=Kept3.of_below (hz0 ▸ hB)
  refine ⟨_,rfl,rfl,hC,⟨?_,?_⟩,hB0.trans (hB.mono (by omega)),hz⟩
  · exact (hB.block _ (by omega)).trans hL.w
  · exact (hB.block _ (by omega)).trans hL.p
theorem coll_int {cb pb wb lb qb cnt:Nat} (hcnt:cnt≤1000000) (wf:Ps→Int × Ps) (X:World→Prop) (hXk:∀ A B,X A→Kept3 p r g A B→X B) (hXo:Old p r g X w) (hrd:Readsint p r g m V 176 #[.pointer (some ⟨lb,0,none⟩),.pointer (some ⟨qb,0,none⟩)] X wf) (h:PAt 2 p r g m V N w s) (hC:Caught cb pb wb p cnt 134 (.func (.func 176) #[] #[.pointer (some ⟨lb,0,none⟩),.pointer (some ⟨qb,0,none⟩)]) w) (hX:X w) (ha:(cb≠p∧cb≠r∧cb≠g)∧(pb≠p∧pb≠r∧pb≠g)∧(wb≠p∧wb≠r∧wb≠g)) :
    Calls Tryz.prog 97 #[.func (.func 216) #[] #[.pointer (some ⟨cb,0,none⟩),.pointer (some ⟨pb,0,none⟩),.pointer (some ⟨wb,0,none⟩)]] w (CollLeft 3 p r g m V N 1 IntAt w (s.parts wf cnt)):=by
  have h1:=appendSeq_int (X:=fun W=>Caught cb pb wb p cnt 134 (.func (.func 176) #[] #[.pointer (some ⟨lb,0,none⟩),.pointer (some ⟨qb,0,none⟩)]) W∧X W) (enters_of Tryz.func216 (by kernel_rfl) rfl) s ((old_caught hC.lt ha).and hXo) ⟨hC,hX⟩ h cnt hcnt _ (fun w' hb=>each_int 4 (by omega) wf push cb pb wb lb qb cnt hcnt (s,[]) w' ha List.length (fun s x=>by simp [push]) rfl X hXk hrd)
  refine (collect_int h1 fun e w' hr=>?_).mono ?_
  · obtain ⟨s',l,A,c,_,he,_⟩:=hr
    exact ⟨_,he⟩
  · rintro e w' ⟨s',l,A,c,hF,rfl,hR,hP,hK⟩
    have e1:s.parts wf cnt=(l,s'):=by
      unfold Ps.parts
      rw [← hF]
    rw [e1]
    exact ⟨A,c,rfl,hR,hP,hK⟩
theorem coll_latch {cb pb wb lb qb cnt:Nat} (hcnt:cnt≤1000000) (wf:Ps→PLatch × Ps) (X:World→Prop) (hXk:∀ A B,X A→Kept3 p r g A B→X B) (hXo:Old p r g X w) (hrd:Readslatch p r g m V 180 #[.pointer (some ⟨lb,0,none⟩),.pointer (some ⟨qb,0,none⟩)] X wf) (h:PAt 2 p r g m V N w s) (hC:Caught cb pb wb p cnt 178 (.func (.func 180) #[] #[.pointer (some ⟨lb,0,none⟩),.pointer (some ⟨qb,0,none⟩)]) w) (hX:X w) (ha:(cb≠p∧cb≠r∧cb≠g)∧(pb≠p∧pb≠r∧pb≠g)∧(wb≠p∧wb≠r∧wb≠g)) :
    Calls Tryz.prog 124 #[.func (.func 219) #[] #[.pointer (some ⟨cb,0,none⟩),.pointer (some ⟨pb,0,none⟩),.pointer (some ⟨wb,0,none⟩)]] w (CollLeft 48 p r g m V N 3 LatchAt w (s.parts wf cnt)):=by
  have h1:=appendSeq_latch (X:=fun W=>Caught cb pb wb p cnt 178 (.func (.func 180) #[] #[.pointer (some ⟨lb,0,none⟩),.pointer (some ⟨qb,0,none⟩)]) W∧X W) (enters_of Tryz.func219 (by kernel_rfl) rfl) s ((old_caught hC.lt ha).and hXo) ⟨hC,hX⟩ h cnt hcnt _ (fun w' hb=>each_latch 4 (by omega) wf push cb pb wb lb qb cnt hcnt (s,[]) w' ha List.length (fun s x=>by simp [push]) rfl X hXk hrd)
  refine (collect_latch h1 fun e w' hr=>?_).mono ?_
  · obtain ⟨s',l,A,c,_,he,_⟩:=hr
    exact ⟨_,he⟩
  · rintro e w' ⟨s',l,A,c,hF,rfl,hR,hP,hK⟩
    have e1:s.parts wf cnt=(l,s'):=by
      unfold Ps.parts
      rw [← hF]
    rw [e1]
    exact ⟨A,c,rfl,hR,hP,hK⟩
theorem coll_and {cb pb wb lb qb cnt:Nat} (hcnt:cnt≤1000000) (wf:Ps→PAnd × Ps) (X:World→Prop) (hXk:∀ A B,X A→Kept3 p r g A B→X B) (hXo:Old p r g X w) (hrd:Readsand p r g m V 194 #[.pointer (some ⟨lb,0,none⟩),.pointer (some ⟨qb,0,none⟩)] X wf) (h:PAt 2 p r g m V N w s) (hC:Caught cb pb wb p cnt 187 (.func (.func 194) #[] #[.pointer (some ⟨lb,0,none⟩),.pointer (some ⟨qb,0,none⟩)]) w) (hX:X w) (ha:(cb≠p∧cb≠r∧cb≠g)∧(pb≠p∧pb≠r∧pb≠g)∧(wb≠p∧wb≠r∧wb≠g)) :
    Calls Tryz.prog 132 #[.func (.func 203) #[] #[.pointer (some ⟨cb,0,none⟩),.pointer (some ⟨pb,0,none⟩),.pointer (some ⟨wb,0,none⟩)]] w (CollLeft 57 p r g m V N 3 AndAt w (s.parts wf cnt)):=by
  have h1:=appendSeq_and (X:=fun W=>Caught cb pb wb p cnt 187 (.func (.func 194) #[] #[.pointer (some ⟨lb,0,none⟩),.pointer (some ⟨qb,0,none⟩)]) W∧X W) (enters_of Tryz.func203 (by kernel_rfl) rfl) s ((old_caught hC.lt ha).and hXo) ⟨hC,hX⟩ h cnt hcnt _ (fun w' hb=>each_and 4 (by omega) wf push cb pb wb lb qb cnt hcnt (s,[]) w' ha List.length (fun s x=>by simp [push]) rfl X hXk hrd)
  refine (collect_and h1 fun e w' hr=>?_).mono ?_
  · obtain ⟨s',l,A,c,_,he,_⟩:=hr
    exact ⟨_,he⟩
  · rintro e w' ⟨s',l,A,c,hF,rfl,hR,hP,hK⟩
    have e1:s.parts wf cnt=(l,s'):=by
      unfold Ps.parts
      rw [← hF]
    rw [e1]
    exact ⟨A,c,rfl,hR,hP,hK⟩
theorem coll_read {cb pb wb lb qb cnt:Nat} (hcnt:cnt≤1000000) (wf:Ps→PRead × Ps) (X:World→Prop) (hXk:∀ A B,X A→Kept3 p r g A B→X B) (hXo:Old p r g X w) (hrd:Readsread p r g m V 224 #[.pointer (some ⟨lb,0,none⟩),.pointer (some ⟨qb,0,none⟩)] X wf) (h:PAt 2 p r g m V N w s) (hC:Caught cb pb wb p cnt 225 (.func (.func 224) #[] #[.pointer (some ⟨lb,0,none⟩),.pointer (some ⟨qb,0,none⟩)]) w) (hX:X w) (ha:(cb≠p∧cb≠r∧cb≠g)∧(pb≠p∧pb≠r∧pb≠g)∧(wb≠p∧wb≠r∧wb≠g)) :
    Calls Tryz.prog 185 #[.func (.func 249) #[] #[.pointer (some ⟨cb,0,none⟩),.pointer (some ⟨pb,0,none⟩),.pointer (some ⟨wb,0,none⟩)]] w (CollLeft 97 p r g m V N 2 (PReadAt p r g) w (s.parts wf cnt)):=by
  have h1:=appendSeq_read (X:=fun W=>Caught cb pb wb p cnt 225 (.func (.func 224) #[] #[.pointer (some ⟨lb,0,none⟩),.pointer (some ⟨qb,0,none⟩)]) W∧X W) (enters_of Tryz.func249 (by kernel_rfl) rfl) s ((old_caught hC.lt ha).and hXo) ⟨hC,hX⟩ h cnt hcnt _ (fun w' hb=>each_read 4 (by omega) wf push cb pb wb lb qb cnt hcnt (s,[]) w' ha List.length (fun s x=>by simp [push]) rfl X hXk hrd)
  refine (collect_read h1 fun e w' hr=>?_).mono ?_
  · obtain ⟨s',l,A,c,_,he,_⟩:=hr
    exact ⟨_,he⟩
  · rintro e w' ⟨s',l,A,c,hF,rfl,hR,hP,hK⟩
    have e1:s.parts wf cnt=(l,s'):=by
      unfold Ps.parts
      rw [← hF]
    rw [e1]
    exact ⟨A,c,rfl,hR,hP,hK⟩
theorem coll_write {cb pb wb lb qb cnt:Nat} (hcnt:cnt≤1000000) (wf:Ps→PWrite × Ps) (X:World→Prop) (hXk:∀ A B,X A→Kept3 p r g A B→X B) (hXo:Old p r g X w) (hrd:Readswrite p r g m V 227 #[.pointer (some ⟨lb,0,none⟩),.pointer (some ⟨qb,0,none⟩)] X wf) (h:PAt 2 p r g m V N w s) (hC:Caught cb pb wb p cnt 230 (.func (.func 227) #[] #[.pointer (some ⟨lb,0,none⟩),.pointer (some ⟨qb,0,none⟩)]) w) (hX:X w) (ha:(cb≠p∧cb≠r∧cb≠g)∧(pb≠p∧pb≠r∧pb≠g)∧(wb≠p∧wb≠r∧wb≠g)) :
    Calls Tryz.prog 189 #[.func (.func 250) #[] #[.pointer (some ⟨cb,0,none⟩),.pointer (some ⟨pb,0,none⟩),.pointer (some ⟨wb,0,none⟩)]] w (CollLeft 99 p r g m V N 3 (PWriteAt p r g) w (s.parts wf cnt)):=by
  have h1:=appendSeq_write (X:=fun W=>Caught cb pb wb p cnt 230 (.func (.func 227) #[] #[.pointer (some ⟨lb,0,none⟩),.pointer (some ⟨qb,0,none⟩)]) W∧X W) (enters_of Tryz.func250 (by kernel_rfl) rfl) s ((old_caught hC.lt ha).and hXo) ⟨hC,hX⟩ h cnt hcnt _ (fun w' hb=>each_write 4 (by omega) wf push cb pb wb lb qb cnt hcnt (s,[]) w' ha List.length (fun s x=>by simp [push]) rfl X hXk hrd)
  refine (collect_write h1 fun e w' hr=>?_).mono ?_
  · obtain ⟨s',l,A,c,_,he,_⟩:=hr
    exact ⟨_,he⟩
  · rintro e w' ⟨s',l,A,c,hF,rfl,hR,hP,hK⟩
    have e1:s.parts wf cnt=(l,s'):=by
      unfold Ps.parts
      rw [← hF]
    rw [e1]
    exact ⟨A,c,rfl,hR,hP,hK⟩
end
end Go.Proofs.YtldnepogjnahfaaGreatDoor
