/- The memories: what stands between two rounds of the range over their first lines (no condition but those that each theorem names). -/
import Derived.RangeFuncNested
import Derived.RangeFuncBound
import Derived.RangeFuncCalls
import Derived.RangeFuncLeaves
import Derived.OwnWalkIn
import Derived.Maps.AppendAt
import Derived.Deep.RegionHeld3
import Derived.Test.YtldnepogjnahfaaGreatDoorVPRest0
set_option linter.unusedVariables false
namespace Go.Proofs.YtldnepogjnahfaaGreatDoor
open Go.ChangeShapes Go.WideShapes Go.RowKit
structure GM where
  m:PMem
  a:Option Addr
  c:Nat
  a2:Option Addr
  c2:Nat
def gmCells (x:GM):List Value:=[.int .i64 x.m.ma,.int .i64 x.m.mw,.bool x.m.mn,.slice x.a x.m.mr.length x.c,.slice x.a2 x.m.mx.length x.c2]
theorem mem_info:(Tryz.prog.info? 54).map (fun i=>(i.zero,i.size,i.bytes))=some (some (.agg #[.int .i64 0,.int .i64 0,.bool false,.slice none 0 0,.slice none 0 0]),5,72):=by kernel_rfl
def GMAt (p r g:Nat) (W:World) (x:GM):Prop:=RP 97 p r g 2 (PReadAt p r g) W x.a x.c x.m.mr∧RP 99 p r g 3 (PWriteAt p r g) W x.a2 x.c2 x.m.mx
def NotMem (t:TypeId):Prop:=t≠54
section
variable {p r g:Nat}
theorem GMAt.kept {A B:World} {x:GM} (h:GMAt p r g A x) (hk:Kept3 p r g A B):GMAt p r g B x:=⟨h.1.kept (read_stays p r g) hk,h.2.kept (write_stays p r g) hk⟩
theorem GMAt.turn {A B:World} {x:GM} (h:GMAt p r g A x) (ht:Turn A B):GMAt p r g B x:=⟨ht.rp h.1 (fun b o x h=>readAt_turn ht h),ht.rp h.2 (fun b o x h=>writeAt_turn ht h)⟩
theorem GMAt.data {A B:World} {x:GM} (h:GMAt p r g A x) (hd:Data NotMem A B):GMAt p r g B x:=by
  refine ⟨hd.rp (by unfold NotMem;decide) (fun b o x hb hx=>?_) h.1,hd.rp (by unfold NotMem;decide) (fun b o x hb hx=>?_) h.2⟩
  · obtain ⟨a,c,h1,h2,h3⟩:=hx
    exact ⟨a,c,(hd.cell (by unfold NotMem;decide) hb).trans h1,(hd.cell (by unfold NotMem;decide) hb).trans h2,hd.lp (by unfold NotMem;decide) h3⟩
  · obtain ⟨a,c,a2,c2,h1,h2,h3,h4,h5⟩:=hx
    exact ⟨a,c,a2,c2,(hd.cell (by unfold NotMem;decide) hb).trans h1,(hd.cell (by unfold NotMem;decide) hb).trans h2,(hd.cell (by unfold NotMem;decide) hb).trans h3,hd.lp (by unfold NotMem;decide) h4,hd.lp (by unfold NotMem;decide) h5⟩
theorem rp_nil {T:TypeId} {α:Type} {k c:Nat} {At:World→Nat→Nat→α→Prop} {A B:World} {a:Option Addr} {xs:List α} (h:RP T p r g k At A a c xs) (hx:xs=[]):RP T p r g k At B a c xs:=⟨fun hn=>absurd hx hn,h.2⟩
theorem memAt_turn {A B:World} {b o:Nat} {x:PMem} (ht:Turn A B) (h:PMemAt p r g A b o x):PMemAt p r g B b o x:=by
  obtain ⟨a,c,a2,c2,h1,h2,h3,h4,h5,h6,h7⟩:=h
  exact ⟨a,c,a2,c2,ht.cell h1,ht.cell h2,ht.cell h3,ht.cell h4,ht.cell h5,ht.rp h6 (fun b o x h=>readAt_turn ht h),ht.rp h7 (fun b o x h=>writeAt_turn ht h)⟩
theorem NAt.turn {A B:World} {S:NetS} {n:PNet} (h:NAt p r g A S n) (ht:Turn A B):NAt p r g B S n :=
  ⟨ht.rp h.inputs (fun b o x h=>ht.cell h),ht.rp h.latches (fun b o x h=>⟨ht.cell h.1,ht.cell h.2.1,ht.cell h.2.2⟩),ht.rp h.outs (fun b o x h=>ht.cell h),ht.rp h.bads (fun b o x h=>ht.cell h),ht.rp h.cons (fun b o x h=>ht.cell h),ht.rp h.mems (fun b o x h=>memAt_turn ht h),ht.rp h.ands (fun b o x h=>⟨ht.cell h.1,ht.cell h.2.1,ht.cell h.2.2⟩)⟩
theorem NAt.data {A B:World} {S:NetS} {n:PNet} (h:NAt p r g A S n) (hd:Data NotMem A B) (hm:n.mems=[]):NAt p r g B S n:=by
  have hi:NotMem 3:=by unfold NotMem;decide
  have hl:NotMem 48:=by unfold NotMem;decide
  have ha:NotMem 57:=by unfold NotMem;decide
  exact ⟨hd.rp hi (fun b o x hb h=>(hd.cell hi hb).trans h) h.inputs,hd.rp hl (fun b o x hb h=>⟨(hd.cell hl hb).trans h.1,(hd.cell hl hb).trans h.2.1,(hd.cell hl hb).trans h.2.2⟩) h.latches,hd.rp hi (fun b o x hb h=>(hd.cell hi hb).trans h) h.outs,
    hd.rp hi (fun b o x hb h=>(hd.cell hi hb).trans h) h.bads,hd.rp hi (fun b o x hb h=>(hd.cell hi hb).trans h) h.cons,rp_nil h.mems hm,hd.rp ha (fun b o x hb h=>⟨(hd.cell ha hb).trans h.1,(hd.cell ha hb).trans h.2.1,(hd.cell ha hb).trans h.2.2⟩) h.ands⟩
structure MemO (p r g q b:Nat) (w:World) (bq cb pb wb lb mb:Nat):Prop where
  old:r<p∧p<q∧q<b∧b+2<g∧g<w.heap.size
  ge:w.heap.size≤bq
  lt:(cb<bq∧pb<bq∧wb<bq)∧lb<bq∧mb<bq
  new:(w.heap.size≤cb∧w.heap.size≤pb∧w.heap.size≤wb)∧w.heap.size≤lb∧w.heap.size≤mb
theorem MemO.apart {q b:Nat} {w:World} {bq cb pb wb lb mb:Nat} (h:MemO p r g q b w bq cb pb wb lb mb):(cb≠p∧cb≠r∧cb≠g)∧(pb≠p∧pb≠r∧pb≠g)∧(wb≠p∧wb≠r∧wb≠g):=by
  have h1:=h.old
  have h2:=h.new
  omega
theorem MemO.apartL {q b:Nat} {w:World} {bq cb pb wb lb mb:Nat} (h:MemO p r g q b w bq cb pb wb lb mb):(lb≠p∧lb≠r∧lb≠g)∧(mb≠p∧mb≠r∧mb≠g):=by
  have h1:=h.old
  have h2:=h.new
  omega
structure MemI (p r g q b:Nat) (w:World) (cs:Array Value) (S:NetS) (n:PNet) (bq cb pb wb lb mb cm:Nat) (fv lv:Value) (s:Ps) (l:List PMem) (W:World) (v:Value) (ms:List GM):Prop where
  pat:PAt 2 p r g (marksE q p g n.vars) n.vars { NCof S n with c6:=v } W s
  own:W.ownsRow bq 54 5 v ms.length (ms.flatMap gmCells)
  told:ms.map GM.m=l
  rows:∀ x∈ms,GMAt p r g W x
  net:NAt p r g W S n
  kept:Kept3 p r g w W
  qb:W.heap[b]?=some (.cells #[.pointer (some ⟨q,0,none⟩)] 119 (0,0))
  tb:W.heap[b+1]?=some (.cells cs 124 (0,0))
  nb:W.heap[b+1+1]?=some (.cells #[.pointer (some ⟨p,1,none⟩)] 172 (0,0))
  caught:Caught cb pb wb p cm 79 fv W
  caughtL:CaughtL lb mb p 79 lv W
def MemX (p r g q b:Nat) (w:World) (cs:Array Value) (S:NetS) (n:PNet) (bq cb pb wb lb mb cm:Nat) (fv lv:Value) (s:Ps × List PMem) (W:World):Prop :=
  ∃ v ms,MemI p r g q b w cs S n bq cb pb wb lb mb cm fv lv s.1 s.2 W v ms
def MemX2 (p r g q b:Nat) (w:World) (cs:Array Value) (S:NetS) (n:PNet) (bq cb pb wb lb mb cm:Nat) (fv lv:Value) (s:Ps × List PMem) (vb:Nat) (W:World):Prop :=
  ∃ v ms,MemI p r g q b w cs S n bq cb pb wb lb mb cm fv lv s.1 s.2 W v ms∧v.ownBlock≠some vb
variable {q b:Nat} {w:World} {cs:Array Value} {S:NetS} {n:PNet} {bq cb pb wb lb mb cm:Nat} {fv lv:Value}
theorem MemI.turn {s:Ps} {l:List PMem} {W W':World} {v:Value} {ms:List GM} (h:MemI p r g q b w cs S n bq cb pb wb lb mb cm fv lv s l W v ms) (ht:Turn W W') (hk:Kept3 p r g w W'):MemI p r g q b w cs S n bq cb pb wb lb mb cm fv lv s l W' v ms :=
  ⟨ht.pat h.pat,ht.owns h.own,h.told,fun x hx=>(h.rows x hx).turn ht,h.net.turn ht,hk,ht.same _ _ _ _ h.qb,ht.same _ _ _ _ h.tb,ht.same _ _ _ _ h.nb,ht.caught h.caught,ht.caughtL h.caughtL⟩
theorem memX_own (hO:MemO p r g q b w bq cb pb wb lb mb) (B:Nat) (hB:w.heap.size≤B):OwnFrom B (MemX p r g q b w cs S n bq cb pb wb lb mb cm fv lv):=fun s A W row hs hg hr=>by
  obtain ⟨v,ms,h⟩:=hs
  exact ⟨v,ms,h.turn (Turn.of_grown hg fun r e=>(hr r e).2) (h.kept.turned hg fun r e=>by have:=(hr r e).1;omega)⟩
theorem memX2_own (hO:MemO p r g q b w bq cb pb wb lb mb) (B:Nat) (hB:w.heap.size≤B) (vb:Nat):OwnFrom B (fun s=>MemX2 p r g q b w cs S n bq cb pb wb lb mb cm fv lv s vb):=fun s A W row hs hg hr=>by
  obtain ⟨v,ms,h,hv⟩:=hs
  exact ⟨v,ms,h.turn (Turn.of_grown hg fun r e=>(hr r e).2) (h.kept.turned hg fun r e=>by have:=(hr r e).1;omega),hv⟩
theorem MemI.kept2 {s s':Ps} {l:List PMem} {W W':World} {v:Value} {ms:List GM} (hO:MemO p r g q b w bq cb pb wb lb mb) (h:MemI p r g q b w cs S n bq cb pb wb lb mb cm fv lv s l W v ms) (hP:PAt 2 p r g (marksE q p g n.vars) n.vars { NCof S n with c6:=v } W' s') (hk:Kept3 p r g W W'):MemI p r g q b w cs S n bq cb pb wb lb mb cm fv lv s' l W' v ms:=by
  have h1:=hO.old
  have h2:=hO.ge
  exact ⟨hP,own_step h.own hk (by omega),h.told,fun x hx=>(h.rows x hx).kept hk,h.net.kept hk,h.kept.trans hk,(hk.block _ (lt_of_row h.qb) (by omega) (by omega) (by omega)).trans h.qb,(hk.block _ (lt_of_row h.tb) (by omega) (by omega) (by omega)).trans h.tb,(hk.block _ (lt_of_row h.nb) (by omega) (by omega) (by omega)).trans h.nb,h.caught.kept hk hO.apart,h.caughtL.kept hk hO.apartL⟩
theorem memX_step (hO:MemO p r g q b w bq cb pb wb lb mb) {s s':Ps × List PMem} {A B:World} (h:MemX p r g q b w cs S n bq cb pb wb lb mb cm fv lv s A) (hs:LSt p r g (marksE q p g n.vars) n.vars s s' A B):MemX p r g q b w cs S n bq cb pb wb lb mb cm fv lv s' B:=by
  obtain ⟨v,ms,h⟩:=h
  obtain ⟨e1,hP,hK⟩:=hs
  rw [MemX,e1]
  exact ⟨v,ms,h.kept2 hO (hP _ h.pat) hK⟩
theorem memX_start {s:Ps} {W:World} (h:RN p r g q b w cs S n W s) (hm:n.mems=[]) (hS:S.m=none∧S.mc=0) (hC:Caught cb pb wb p cm 79 fv W) (hL:CaughtL lb mb p 79 lv W):MemX p r g q b w cs S n bq cb pb wb lb mb cm fv lv (s,[]) W:=by
  refine ⟨.slice none 0 0,[],?_,World.ownsRow_nil _ _ _ _,rfl,fun x hx=>(by cases hx),h.net,h.kept,h.qb,h.cb,h.nb,hC,hL⟩
  have h1:=h.pat
  have e:NCof S n={ NCof S n with c6:=.slice none 0 0 }:=by
    obtain ⟨q1,q2⟩:=hS
    unfold NCof
    rw [hm,q1,q2]
    rfl
  rw [e] at h1
  exact h1
theorem MemI.push {s:Ps} {l:List PMem} {W W2:World} {v v':Value} {ms:List GM} {x:GM} (hO:MemO p r g q b w bq cb pb wb lb mb) (hm:n.mems=[]) (hbq:bq≤W.heap.size) (h:MemI p r g q b w cs S n bq cb pb wb lb mb cm fv lv s l W v ms) (hx:GMAt p r g W x)
    (hg:(W.alloc (.cells (gmCells x).toArray 54)).grownBy W2 v.ownBlock) (ho:W2.ownsRow bq 54 5 v' (ms++[x]).length ((ms++[x]).flatMap gmCells)) :
    MemI p r g q b w cs S n bq cb pb wb lb mb cm fv lv s (l++[x.m]) (W2.setCell ⟨p,7,none⟩ v') v' (ms++[x]):=by
  have h1:=hO.old
  have h2:=hO.ge
  have h3:=hO.lt
  have h4:=hO.new
  have hb:Below W.heap.size W (W.alloc (.cells (gmCells x).toArray 54)):=(Below.refl _ W).alloc (Nat.le_refl _) _
  have hoa:=h.own.alloc (.cells (gmCells x).toArray 54)
  have hd:Data NotMem W W2:=(Data.below hb).trans (Data.grown hoa (by unfold NotMem;simp) hg)
  have hK:Kept3 p r g W2 (W2.setCell ⟨p,7,none⟩ v'):=(Kept3.refl p r g W2).put 7 v'
  have hgo:∀ k,k<bq→k<W.heap.size→W2.heap[k]?=W.heap[k]?:=fun k hk hl=>(hg.block k (by simp;omega) (fun e=>by have:=(hoa.lt _ e.symm).1;omega)).trans (Below.heap_alloc _ _ _ hl)
  have hso:∀ k,k≠p→(W2.setCell ⟨p,7,none⟩ v').heap[k]?=W2.heap[k]?:=fun k hk=>heap_setCell_other _ _ _ _ (by simpa using hk)
  refine ⟨?_,own_set ho (by omega),by rw [List.map_append,h.told];rfl,fun y hy=>?_,(h.net.data hd hm).kept hK,((h.kept.alloc _).grown hoa (by omega) hg).put 7 v',?_,?_,?_,?_,?_⟩
  · exact ((h.pat.below hb).grown hoa (by decide) (by show g+1≤bq;omega) hg).setN (fun _=>rfl)
  · rcases List.mem_append.1 hy with hy | hy
    · exact ((h.rows y hy).data hd).kept hK
    · rw [List.mem_singleton] at hy
      rw [hy]
      exact (hx.data hd).kept hK
  · exact (hso _ (by omega)).trans ((hgo _ (by omega) (lt_of_row h.qb)).trans h.qb)
  · exact (hso _ (by omega)).trans ((hgo _ (by omega) (lt_of_row h.tb)).trans h.tb)
  · exact (hso _ (by omega)).trans ((hgo _ (by omega) (lt_of_row h.nb)).trans h.nb)
  · exact ⟨(hso _ (by omega)).trans ((hgo _ (by omega) (lt_of_row h.caught.c)).trans h.caught.c),(hso _ (by omega)).trans ((hgo _ (by omega) (lt_of_row h.caught.p)).trans h.caught.p),(hso _ (by omega)).trans ((hgo _ (by omega) (lt_of_row h.caught.w)).trans h.caught.w)⟩
  · exact ⟨(hso _ (by omega)).trans ((hgo _ (by omega) (lt_of_row h.caughtL.w)).trans h.caughtL.w),(hso _ (by omega)).trans ((hgo _ (by omega) (lt_of_row h.caughtL.p)).trans h.caughtL.p)⟩
theorem memX_fin {s:Ps × List PMem} {W:World} (hO:MemO p r g q b w bq cb pb wb lb mb) (h:MemX p r g q b w cs S n bq cb pb wb lb mb cm fv lv s W):∃ A c,RN p r g q b w cs { S with m:=A,mc:=c } { n with mems:=s.2 } W s.1:=by
  obtain ⟨v,ms,h⟩:=h
  have h1:=hO.old
  have h2:=hO.ge
  obtain ⟨A,c,rfl,hR⟩:=RP.of_own (p:=p) (r:=r) (g:=g) (k:=5) (base:=bq) (cells:=gmCells) (At:=fun W b o x=>∀ i u,(gmCells x)[i]?=some u→W.cell? ⟨b,o+i,none⟩=some u) (fun _=>rfl) (fun b o x h=>h) h.own (by omega)
  have hlen:ms.length=s.2.length:=by rw [← h.told];simp
  refine ⟨A,c,?_,?_,h.kept,h.qb,h.tb,h.nb,⟨h1.1,h1.2.1,h1.2.2.1,h1.2.2.2.1⟩⟩
  · have h3:=h.pat
    rw [hlen] at h3
    exact h3
  · refine ⟨h.net.inputs,h.net.latches,h.net.outs,h.net.bads,h.net.cons,⟨fun hn=>?_,by rw [← hlen];exact hR.2.1,hR.2.2⟩,h.net.ands⟩
    obtain ⟨b,o,e,hb,hc⟩:=hR.1 (fun e=>hn (by show s.2=[];rw [← h.told,e];rfl))
    refine ⟨b,o,e,hb,fun j x hj=>?_⟩
    change s.2[j]?=some x at hj
    rw [← h.told,List.getElem?_map] at hj
    cases hy:ms[j]? with
    | none=>rw [hy] at hj;cases hj
    | some y =>
      rw [hy] at hj
      injection hj with hj
      subst hj
      have hq:=hc j y hy
      exact ⟨y.a,y.c,y.a2,y.c2,hq 0 _ rfl,hq 1 _ rfl,hq 2 _ rfl,hq 3 _ rfl,hq 4 _ rfl,(h.rows y (List.mem_of_getElem? hy)).1,(h.rows y (List.mem_of_getElem? hy)).2⟩
theorem MemI.reads {s:Ps} {l:List PMem} {W:World} {v:Value} {ms:List GM} (h:MemI p r g q b w cs S n bq cb pb wb lb mb cm fv lv s l W v ms):W.cell? ⟨b+1+1,0,none⟩=some (.pointer (some ⟨p,1,none⟩))∧W.cell? ⟨b,0,none⟩=some (.pointer (some ⟨q,0,none⟩))∧W.cell? ⟨p,7,none⟩=some v∧W.frozen? ⟨p,7,none⟩=false∧W.cell? ⟨q,0,none⟩=some (.pointer (some ⟨p,0,none⟩)):=by
  obtain ⟨ev,h1,_⟩:=h.pat.row
  refine ⟨?_,?_,?_,frozen_of_row _ _ _ _ _ h1,h.pat.asc.1⟩
  · rw [cell_of_row _ _ _ _ _ _ h.nb];rfl
  · rw [cell_of_row _ _ _ _ _ _ h.qb];rfl
  · rw [cell_of_row _ _ _ _ _ _ h1];rfl
theorem MemI.seven {s:Ps} {l:List PMem} {W W2:World} {v:Value} {ms:List GM} {x:GM} (hO:MemO p r g q b w bq cb pb wb lb mb) (h:MemI p r g q b w cs S n bq cb pb wb lb mb cm fv lv s l W v ms) (hg:(W.alloc (.cells (gmCells x).toArray 54)).grownBy W2 v.ownBlock):W2.cell? ⟨p,7,none⟩=some v∧W2.frozen? ⟨p,7,none⟩=false:=by
  have h1:=hO.old
  have h2:=hO.ge
  have hb:Below W.heap.size W (W.alloc (.cells (gmCells x).toArray 54)):=(Below.refl _ W).alloc (Nat.le_refl _) _
  have hP:=(h.pat.below hb).grown (h.own.alloc (.cells (gmCells x).toArray 54)) (by decide) (by show g+1≤bq;omega) hg
  obtain ⟨ev,h1,_⟩:=hP.row
  refine ⟨?_,frozen_of_row _ _ _ _ _ h1⟩
  rw [cell_of_row _ _ _ _ _ _ h1];rfl
theorem MemI.keeps {s:Ps} {l:List PMem} {W W2:World} {v u:Value} {ms:List GM} {x:GM} (h:MemI p r g q b w cs S n bq cb pb wb lb mb cm fv lv s l W v ms) (hg:(W.alloc (.cells (gmCells x).toArray 54)).grownBy W2 v.ownBlock):KeepsOthers W (W2.setCell ⟨p,7,none⟩ u) :=
  ((KeepsOthers.alloc _ _).trans (keeps_own (h.own.alloc _) hg)).trans (KeepsOthers.setCell _ _ _)
def RoundS (p q b vb:Nat) (x:PShape) (A B:Option Addr) (W:World):Prop :=
  W.cell? ⟨b+1+1,0,none⟩=some (.pointer (some ⟨p,1,none⟩))∧W.cell? ⟨b,0,none⟩=some (.pointer (some ⟨q,0,none⟩))∧W.cell? ⟨q,0,none⟩=some (.pointer (some ⟨p,0,none⟩))∧W.cell? ⟨vb,0,none⟩=some (.int .i64 x.sa)∧W.cell? ⟨vb,1,none⟩=some (.int .i64 x.sw)∧W.cell? ⟨vb,2,none⟩=some (.bool x.sn)∧W.cell? ⟨vb,3,none⟩=some (.slice A x.sr.toNat x.sr.toNat)∧W.cell? ⟨vb,4,none⟩=some (.slice B x.sx.toNat x.sx.toNat)
theorem RoundS.same {vb:Nat} {x:PShape} {A B:Option Addr} {W W':World} (h:RoundS p q b vb x A B W) (h1:W'.heap[b+1+1]?=W.heap[b+1+1]?) (h2:W'.heap[b]?=W.heap[b]?) (h3:W'.heap[vb]?=W.heap[vb]?) (h4:W'.heap[q]?=W.heap[q]?):RoundS p q b vb x A B W':=by
  obtain ⟨a1,a2,a9,a3,a4,a5,a6,a7⟩:=h
  have k:∀ o,W'.cell? ⟨vb,o,none⟩=W.cell? ⟨vb,o,none⟩:=fun o=>World.cell?_of_block (a:=⟨vb,o,none⟩) h3
  exact ⟨(World.cell?_of_block (a:=⟨b+1+1,0,none⟩) h1).trans a1,(World.cell?_of_block (a:=⟨b,0,none⟩) h2).trans a2,(World.cell?_of_block (a:=⟨q,0,none⟩) h4).trans a9,(k _).trans a3,(k _).trans a4,(k _).trans a5,(k _).trans a6,(k _).trans a7⟩
theorem MemI.qrow {s:Ps} {l:List PMem} {W:World} {v:Value} {ms:List GM} (h:MemI p r g q b w cs S n bq cb pb wb lb mb cm fv lv s l W v ms):∃ cs',W.heap[q]?=some (.cells cs' 66 (0,0)):=⟨_,h.pat.ext.1⟩
theorem MemI.round {s:Ps} {l:List PMem} {W:World} {v:Value} {ms:List GM} {vb:Nat} {x:PShape} {A B:Option Addr} (h:MemI p r g q b w cs S n bq cb pb wb lb mb cm fv lv s l W v ms) (hv:W.heap[vb]?=some (.cells #[.int .i64 x.sa,.int .i64 x.sw,.bool x.sn,.slice A x.sr.toNat x.sr.toNat,.slice B x.sx.toNat x.sx.toNat] 54 (0,0))):RoundS p q b vb x A B W:=by
  obtain ⟨a1,a2,_,_,a3⟩:=h.reads
  refine ⟨a1,a2,a3,?_,?_,?_,?_,?_⟩
  all_goals rw [cell_of_row _ _ _ _ _ _ hv];rfl
theorem RoundS.kept {s:Ps} {l:List PMem} {W W':World} {v:Value} {ms:List GM} {vb:Nat} {x:PShape} {A B:Option Addr} (hO:MemO p r g q b w bq cb pb wb lb mb) (hv:w.heap.size≤vb∧vb<W.heap.size) (h:MemI p r g q b w cs S n bq cb pb wb lb mb cm fv lv s l W v ms) (hS:RoundS p q b vb x A B W) (hk:Kept3 p r g W W'):RoundS p q b vb x A B W':=by
  have h1:=hO.old
  obtain ⟨c,hq⟩:=h.qrow
  exact hS.same (hk.block _ (lt_of_row h.nb) (by omega) (by omega) (by omega)) (hk.block _ (lt_of_row h.qb) (by omega) (by omega) (by omega)) (hk.block _ hv.2 (by omega) (by omega) (by omega)) (hk.block _ (lt_of_row hq) (by omega) (by omega) (by omega))
theorem RoundS.grown {s:Ps} {l:List PMem} {W W2:World} {v:Value} {ms:List GM} {y:GM} {vb:Nat} {x:PShape} {A B:Option Addr} (hO:MemO p r g q b w bq cb pb wb lb mb) (hbq:bq≤W.heap.size) (hv:v.ownBlock≠some vb∧vb<W.heap.size) (h:MemI p r g q b w cs S n bq cb pb wb lb mb cm fv lv s l W v ms) (hS:RoundS p q b vb x A B W) (hg:(W.alloc (.cells (gmCells y).toArray 54)).grownBy W2 v.ownBlock):RoundS p q b vb x A B W2:=by
  have h1:=hO.old
  have h2:=hO.ge
  obtain ⟨c,hq⟩:=h.qrow
  have hoa:=h.own.alloc (.cells (gmCells y).toArray 54)
  have hgo:∀ k,v.ownBlock≠some k→k<W.heap.size→W2.heap[k]?=W.heap[k]?:=fun k hk hl=>(hg.block k (by simp;omega) (fun e=>hk e.symm)).trans (Below.heap_alloc _ _ _ hl)
  have hno:∀ k,k<bq→v.ownBlock≠some k:=fun k hk e=>by have:=(hoa.lt _ e).1;omega
  exact hS.same (hgo _ (hno _ (by omega)) (lt_of_row h.nb)) (hgo _ (hno _ (by omega)) (lt_of_row h.qb)) (hgo _ hv.1 hv.2) (hgo _ (hno _ (by omega)) (lt_of_row hq))
theorem RoundS.alloc {s:Ps} {l:List PMem} {W:World} {v:Value} {ms:List GM} {vb:Nat} {x:PShape} {A B:Option Addr} (hv:vb<W.heap.size) (h:MemI p r g q b w cs S n bq cb pb wb lb mb cm fv lv s l W v ms) (hS:RoundS p q b vb x A B W) (o:Obj):RoundS p q b vb x A B (W.alloc o):=by
  obtain ⟨c,hq⟩:=h.qrow
  exact hS.same (Below.heap_alloc _ _ _ (lt_of_row h.nb)) (Below.heap_alloc _ _ _ (lt_of_row h.qb)) (Below.heap_alloc _ _ _ hv) (Below.heap_alloc _ _ _ (lt_of_row hq))
theorem RoundS.put {W:World} {vb j:Nat} {x:PShape} {A B:Option Addr} {u:Value} (hO:MemO p r g q b w bq cb pb wb lb mb) (hv:w.heap.size≤vb) (hS:RoundS p q b vb x A B W):RoundS p q b vb x A B (W.setCell ⟨p,j,none⟩ u):=by
  have h1:=hO.old
  have hso:∀ k,k≠p→(W.setCell ⟨p,j,none⟩ u).heap[k]?=W.heap[k]?:=fun k hk=>heap_setCell_other _ _ _ _ (by simpa using hk)
  exact hS.same (hso _ (by omega)) (hso _ (by omega)) (hso _ (by omega)) (hso _ (by omega))
theorem memX_two {s:Ps × List PMem} {W:World} (hO:MemO p r g q b w bq cb pb wb lb mb) (c:Array Value) (h:MemX p r g q b w cs S n bq cb pb wb lb mb cm fv lv s W):MemX2 p r g q b w cs S n bq cb pb wb lb mb cm fv lv s W.heap.size (W.alloc (.cells c 54)):=by
  obtain ⟨v,ms,h⟩:=h
  have hb:Below W.heap.size W (W.alloc (.cells c 54)):=(Below.refl _ W).alloc (Nat.le_refl _) _
  exact ⟨v,ms,h.kept2 hO (h.pat.below hb) (Kept3.of_below hb),fun e=>by have:=(h.own.lt _ e).2;omega⟩
theorem MemI.seven0 {s:Ps} {l:List PMem} {W:World} {v:Value} {ms:List GM} (h:MemI p r g q b w cs S n bq cb pb wb lb mb cm fv lv s l W v ms) (o:Obj):(W.alloc o).cell? ⟨p,7,none⟩=some v:=by
  have:=h.reads.2.2.1
  obtain ⟨ev,h1,_⟩:=h.pat.row
  exact (World.cell?_of_block (a:=⟨p,7,none⟩) (Below.heap_alloc _ _ _ (lt_of_row h1))).trans this
theorem nodefer {ops:Array Oper} (h:ops.all (fun o=>match o.op with | .defer _=>false | _=>true)=true):∀ (i:Nat) (o:Oper),ops[i]?=some o→∀ c,o.op≠.defer c:=fun i o hi c hc=>by
  obtain ⟨hlt,rfl⟩:=Array.getElem?_eq_some_iff.1 hi
  have:=Array.all_eq_true.1 h i hlt
  rw [hc] at this
  simp at this
section
variable {P:Program} {ops:Array Oper} {o:Oper} {act:Act} {Q:Exit→Act→World→Prop}
theorem step_mem (hP:P=Tryz.prog) {W:World} {b:Nat} {v:Value} {ms:List GM} {K:Act→World→Prop} {E:Prop} (hgd:o.guard=none) (s y:Operand) (ho:o.op=.call { callee:=.builtin .append,args:=#[s,y],argTypes:=#[24,24] })
    (hs:act.eval s=v) (hown:W.ownsRow bq 54 5 v ms.length (ms.flatMap gmCells)) (hbq:bq≤W.heap.size) (x:GM) (hx:act.eval y=.slice (some ⟨b,0,none⟩) 1 1) (hb:b=W.heap.size) (hl:ms.length≤1000000)
    (h:∀ v' W2,(W.alloc (.cells (gmCells x).toArray 54)).grownBy W2 v.ownBlock→W2.ownsRow bq 54 5 v' (ms++[x]).length ((ms++[x]).flatMap gmCells)→K (act.put o.dst v') W2) :
    if Region.wanted o (yielded ops act.tmps)=true then Oper.wp P o act (W.alloc (.cells (gmCells x).toArray 54)) K Q else E:=by
  subst hb
  subst hP
  have hw:Region.wanted o (yielded ops act.tmps)=true:=by simp [Region.wanted,hgd]
  rw [if_pos hw]
  obtain ⟨i0,hi,hz0,hz1,hz2⟩:=info_parts mem_info
  obtain ⟨v',w',hr,g2,g3,_,g5⟩:=run_append_own_at (P:=Tryz.prog) (W.alloc (.cells (gmCells x).toArray 54)) bq 24 o.type 54 i0 _ 5 72 Tryz.underlying24 hi hz0 hz1 hz2 rfl (by decide)
    v ms.length (ms.flatMap gmCells) (hown.alloc _) ⟨W.heap.size,0,none⟩ 1 1 (gmCells x) rfl
    (fun j u hj=>by
      rw [show ((⟨W.heap.size,0,none⟩:Addr).add j)=⟨W.heap.size,0+j,none⟩ from Addr.add_lit _ _ _,cell_of_row _ W.heap.size (0+j) _ _ _ (heap_alloc_new W _),Nat.zero_add,List.getElem?_toArray]
      exact hj)
    (fun u hu=>by simp only [gmCells,List.mem_cons,List.not_mem_nil,or_false] at hu;rcases hu with rfl | rfl | rfl | rfl | rfl <;> rfl) (by unfold maxLen;omega) (by omega) (by simp;omega)
  unfold Oper.wp execOp
  simp only [ho,resolve,invoke,builtin,Sem.run_bind,Sem.run_pure,Result.andThen_ok,List.map_toArray,List.map_cons,List.map_nil,hs,hx,hr]
  refine h v' w' g3 ?_
  rw [List.length_append,List.flatMap_append]
  simpa using g2
end
end
end Go.Proofs.YtldnepogjnahfaaGreatDoor
