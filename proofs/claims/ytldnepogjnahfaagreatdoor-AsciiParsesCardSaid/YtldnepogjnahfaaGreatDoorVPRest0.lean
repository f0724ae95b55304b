/- What the method rest of a text's parser works on: its variables, the parser's netlist; the marks are made (no condition but those that each theorem names). -/
import Derived.RangeFuncNested
import Derived.RangeFuncBound
import Derived.RangeFuncCalls
import Derived.RangeFuncLeaves
import Derived.OwnWalkIn
import Derived.TacticsInMore
import Derived.LoopNIn
import Derived.LoopIn
import Derived.Deep.RegionHeld3
import Derived.RegionTactic
import Derived.BigRegion
import Derived.Test.YtldnepogjnahfaaGreatDoorVPEnd
import Derived.Test.YtldnepogjnahfaaGreatDoorVPMem
set_option linter.unusedVariables false
namespace Go.Proofs.YtldnepogjnahfaaGreatDoor
open Go.ChangeShapes Go.WideShapes Go.RowKit
attribute [local go_sem] Oper.semAt_some
theorem RP.empty {α:Type} {T:TypeId} {p r g k:Nat} {At:World→Nat→Nat→α→Prop} {w:World}:RP T p r g k At w none 0 ([]:List α):=⟨fun h=>absurd rfl h,Nat.le_refl _,by omega⟩
def S0:NetS:=⟨none,0,none,0,none,0,none,0,none,0,none,0,none,0⟩
def n0 (V:Int):PNet:=⟨V,[],[],[],[],[],[],[]⟩
theorem nat_empty (p r g:Nat) (w:World) (V:Int):NAt p r g w S0 (n0 V):=⟨RP.empty,RP.empty,RP.empty,RP.empty,RP.empty,RP.empty,RP.empty⟩
def bareE (q p:Nat):Ext:=⟨q+1,fun W l=>W.heap[q]?=some (.cells #[.pointer (some ⟨p,0,none⟩),.slice none 0 0] 66 (0,0))∧l=[]⟩
theorem bareE_ok {q p r:Nat} (h:1<r∧r<p∧p<q):(bareE q p).Ok p r q:=by
  refine ⟨fun W W' l hx hk=>⟨hk q _ _ _ (by show q<q+1;omega) (by omega) (by omega) hx.1,hx.2⟩,fun W l hx=>⟨_,_,by decide,hx.1⟩,by have:(bareE q p).B=q+1:=rfl;omega⟩
section
variable {p r g q b:Nat} {w:World} {s:Ps} {S:NetS} {n:PNet} {cs:Array Value} {W:World}
structure RN (p r g q b:Nat) (w:World) (cs:Array Value) (S:NetS) (n:PNet) (W:World) (s:Ps):Prop where
  pat:PAt 2 p r g (marksE q p g n.vars) n.vars (NCof S n) W s
  net:NAt p r g W S n
  kept:Kept3 p r g w W
  qb:W.heap[b]?=some (.cells #[.pointer (some ⟨q,0,none⟩)] 119 (0,0))
  cb:W.heap[b+1]?=some (.cells cs 124 (0,0))
  nb:W.heap[b+1+1]?=some (.cells #[.pointer (some ⟨p,1,none⟩)] 172 (0,0))
  old:r<p∧p<q∧q<b∧b+2<g
theorem RN.low (h:RN p r g q b w cs S n W s):p<W.heap.size∧r<W.heap.size∧g<W.heap.size∧q<W.heap.size:=by
  have h1:=h.pat.lt
  have h2:=h.pat.glt
  have h3:=h.old
  omega
theorem RN.step {W':World} {s':Ps} (h:RN p r g q b w cs S n W s) (hP:PAt 2 p r g (marksE q p g n.vars) n.vars (NCof S n) W' s') (hK:Kept3 p r g W W'):RN p r g q b w cs S n W' s':=by
  have ho:=h.old
  exact ⟨hP,h.net.kept hK,h.kept.trans hK,(hK.block _ (lt_of_row h.qb) (by omega) (by omega) (by omega)).trans h.qb,(hK.block _ (lt_of_row h.cb) (by omega) (by omega) (by omega)).trans h.cb,(hK.block _ (lt_of_row h.nb) (by omega) (by omega) (by omega)).trans h.nb,h.old⟩
theorem RN.next {W':World} {s':Ps} {S':NetS} {n':PNet} (h:RN p r g q b w cs S n W s) (hv:n'.vars=n.vars) (hP:PAt 2 p r g (marksE q p g n.vars) n.vars (NCof S' n') W' s') (hN:NAt p r g W' S' n') (hK:Kept3 p r g W W'):RN p r g q b w cs S' n' W' s':=by
  have ho:=h.old
  refine ⟨?_,hN,h.kept.trans hK,(hK.block _ (lt_of_row h.qb) (by omega) (by omega) (by omega)).trans h.qb,(hK.block _ (lt_of_row h.cb) (by omega) (by omega) (by omega)).trans h.cb,(hK.block _ (lt_of_row h.nb) (by omega) (by omega) (by omega)).trans h.nb,h.old⟩
  rw [hv]
  exact hP
theorem RN.below {W':World} (h:RN p r g q b w cs S n W s) (hb:Below W.heap.size W W'):RN p r g q b w cs S n W' s:=h.step (h.pat.below hb) (Kept3.of_below hb)
def RestS (p q b k:Nat) (c:Int) (W:World):Prop :=
  W.cell? ⟨b+1+1,0,none⟩=some (.pointer (some ⟨p,1,none⟩))∧W.cell? ⟨b,0,none⟩=some (.pointer (some ⟨q,0,none⟩))∧W.cell? ⟨q,0,none⟩=some (.pointer (some ⟨p,0,none⟩))∧W.cell? ⟨b+1,k,none⟩=some (.int .i64 c)
theorem RN.reads (h:RN p r g q b w cs S n W s) {k:Nat} {c:Int} (hc:cs[k]?=some (.int .i64 c)):RestS p q b k c W:=by
  refine ⟨?_,?_,h.pat.asc.1,?_⟩
  · rw [cell_of_row _ _ _ _ _ _ h.nb];rfl
  · rw [cell_of_row _ _ _ _ _ _ h.qb];rfl
  · rw [cell_of_row _ _ _ _ _ _ h.cb];exact hc
theorem PAt.setN {dep j:Nat} {m:Ext} {V:Int} {N N':NC} {v:Value} (h:PAt dep p r g m V N w s) (hN:∀ ev,(prow r V N ev).setIfInBounds j v=prow r V N' ev):PAt dep p r g m V N' (w.setCell ⟨p,j,none⟩ v) s:=by
  obtain ⟨⟨ev,h1,h2⟩,h3,h4,h5,h6,h7,h8,h9,h10⟩:=h
  have hl:=h8.lt
  have hother:∀ k,k≠p→(w.setCell ⟨p,j,none⟩ v).heap[k]?=w.heap[k]?:=fun k hk=>heap_setCell_other _ _ _ _ (by simpa using hk)
  refine ⟨⟨ev,?_,h2.put h1 (by decide) v⟩,rd_same h3 (by simp) fun k hk=>hother k (by omega),h8.same h4 fun k _ hk _=>hother k hk,(World.cell?_of_block (a:=⟨1,0,none⟩) (hother 1 (by omega))).trans h5,h6,h7,h8,by simpa using h9,h10⟩
  rw [heap_setCell_same w p j _ _ v h1,hN]
theorem RN.setP {S':NetS} {n':PNet} {j:Nat} {v:Value} (h:RN p r g q b w cs S n W s) (hv:n'.vars=n.vars) (hN:∀ ev,(prow r n.vars (NCof S n) ev).setIfInBounds j v=prow r n.vars (NCof S' n') ev) (hnet:NAt p r g W S' n'):RN p r g q b w cs S' n' (W.setCell ⟨p,j,none⟩ v) s:=by
  have ho:=h.old
  have hK:Kept3 p r g W (W.setCell ⟨p,j,none⟩ v):=(Kept3.refl p r g W).put j v
  have hot:∀ k,k≠p→(W.setCell ⟨p,j,none⟩ v).heap[k]?=W.heap[k]?:=fun k hk=>heap_setCell_other _ _ _ _ (by simpa using hk)
  refine ⟨?_,hnet.kept hK,h.kept.trans hK,(hot _ (by omega)).trans h.qb,(hot _ (by omega)).trans h.cb,(hot _ (by omega)).trans h.nb,h.old⟩
  rw [hv]
  exact h.pat.setN hN
theorem RN.inputs {A:Option Addr} {c:Nat} {l:List Int} (h:RN p r g q b w cs S n W s) (hR:RP 3 p r g 1 IntAt W A c l):RN p r g q b w cs { S with i:=A,ic:=c } { n with inputs:=l } (W.setCell ⟨p,2,none⟩ (.slice A l.length c)) s :=
  h.setP rfl (fun _=>rfl) ⟨hR,h.net.latches,h.net.outs,h.net.bads,h.net.cons,h.net.mems,h.net.ands⟩
theorem RN.latches {A:Option Addr} {c:Nat} {l:List PLatch} (h:RN p r g q b w cs S n W s) (hR:RP 48 p r g 3 LatchAt W A c l):RN p r g q b w cs { S with l:=A,lc:=c } { n with latches:=l } (W.setCell ⟨p,3,none⟩ (.slice A l.length c)) s :=
  h.setP rfl (fun _=>rfl) ⟨h.net.inputs,hR,h.net.outs,h.net.bads,h.net.cons,h.net.mems,h.net.ands⟩
theorem RN.ands {A:Option Addr} {c:Nat} {l:List PAnd} (h:RN p r g q b w cs S n W s) (hR:RP 57 p r g 3 AndAt W A c l):RN p r g q b w cs { S with a:=A,ac:=c } { n with ands:=l } (W.setCell ⟨p,8,none⟩ (.slice A l.length c)) s :=
  h.setP rfl (fun _=>rfl) ⟨h.net.inputs,h.net.latches,h.net.outs,h.net.bads,h.net.cons,h.net.mems,hR⟩
theorem RN.pcell (h:RN p r g q b w cs S n W s) (j:Nat) (hj:j<10):(∃ v,W.cell? ⟨p,j,none⟩=some v)∧W.frozen? ⟨p,j,none⟩=false:=by
  obtain ⟨ev,h1,_⟩:=h.pat.row
  refine ⟨?_,frozen_of_row _ _ _ _ _ h1⟩
  rw [cell_of_row _ _ _ _ _ _ h1]
  exact ⟨_,Array.getElem?_eq_getElem (by simpa [prow] using hj)⟩
def restW (w:World) (q p:Nat) (cv:Array Value):World:=((w.alloc (.cells #[.pointer (some ⟨q,0,none⟩)] 119)).alloc (.cells cv 124)).alloc (.cells #[.pointer (some ⟨p,1,none⟩)] 172)
theorem restW_rows (w:World) (q p:Nat) (cv:Array Value):(restW w q p cv).heap.size=w.heap.size+3∧Below w.heap.size w (restW w q p cv)∧(restW w q p cv).heap[w.heap.size]?=some (.cells #[.pointer (some ⟨q,0,none⟩)] 119 (0,0))∧(restW w q p cv).heap[w.heap.size+1]?=some (.cells cv 124 (0,0))∧(restW w q p cv).heap[w.heap.size+1+1]?=some (.cells #[.pointer (some ⟨p,1,none⟩)] 172 (0,0)):=by
  unfold restW
  have h1:=heap_alloc_new w (.cells #[.pointer (some ⟨q,0,none⟩)] 119)
  have h2:=heap_alloc_new (w.alloc (.cells #[.pointer (some ⟨q,0,none⟩)] 119)) (.cells cv 124)
  have h3:=heap_alloc_new ((w.alloc (.cells #[.pointer (some ⟨q,0,none⟩)] 119)).alloc (.cells cv 124)) (.cells #[.pointer (some ⟨p,1,none⟩)] 172)
  simp only [World.size_alloc] at h2 h3
  exact ⟨by simp,(((Below.refl _ w).alloc (Nat.le_refl _) _).alloc (by simp) _).alloc (by simp;omega) _,(Below.heap_alloc _ _ _ (by simp;omega)).trans ((Below.heap_alloc _ _ _ (by simp)).trans h1),(Below.heap_alloc _ _ _ (by simp)).trans h2,h3⟩
theorem RN.made {V:Int} {N:NC} {W:World} (h:PAt 2 p r q (bareE q p) V N W s) (hq:r<p∧p<q) :
    (W.alloc (.cells (madeCells #[.bool false] (V.toNat+1)) 4)).cell? ⟨q,1,none⟩=some (.slice none 0 0) ∧
    (W.alloc (.cells (madeCells #[.bool false] (V.toNat+1)) 4)).frozen? ⟨q,1,none⟩=false ∧
    PAt 2 p r W.heap.size (marksE q p W.heap.size V) V N ((W.alloc (.cells (madeCells #[.bool false] (V.toNat+1)) 4)).setCell ⟨q,1,none⟩ (.slice (some ⟨W.heap.size,0,none⟩) (V.toNat+1) (V.toNat+1))) s:=by
  have hM:=Marked.new W (V.toNat+1)
  have hx:W.heap[q]?=some (.cells #[.pointer (some ⟨p,0,none⟩),.slice none 0 0] 66 (0,0))∧s.seen=[]:=h.ext
  have hq2:=lt_of_row hx.1
  have hb:Below W.heap.size W (W.alloc (.cells (madeCells #[.bool false] (V.toNat+1)) 4)):=(Below.refl _ W).alloc (Nat.le_refl _) _
  have h':=h.below hb
  have k1:=(hb.block q hq2).trans hx.1
  generalize hw1:W.alloc (.cells (madeCells #[.bool false] (V.toNat+1)) 4)=w1 at *
  have hz:w1.heap.size=W.heap.size+1:=by rw [← hw1];simp
  refine ⟨by rw [cell_of_row _ _ _ _ _ _ k1];rfl,frozen_of_row _ _ _ _ _ k1,?_⟩
  obtain ⟨⟨ev,h1,h2⟩,h3,h4,h5,h6,h7,h8,h9,h10⟩:=h'
  have hl:=h8.lt
  have hother:∀ k,k≠q→(w1.setCell ⟨q,1,none⟩ (.slice (some ⟨W.heap.size,0,none⟩) (V.toNat+1) (V.toNat+1))).heap[k]?=w1.heap[k]?:=fun k hk=>heap_setCell_other _ _ _ _ (by simpa using hk)
  refine ⟨⟨ev,(hother p (by omega)).trans h1,h2.put k1 (by decide) _⟩,rd_same h3 (by simp) fun k hk=>hother k (by omega),⟨?_,?_⟩,(World.cell?_of_block (a:=⟨1,0,none⟩) (hother 1 (by omega))).trans h5,h6,h7,marksE_ok (by omega),by show W.heap.size+1≤_;simp [hz],h10⟩
  · rw [heap_setCell_same w1 q 1 _ _ _ k1];rfl
  · rw [hx.2]
    exact hM.same (hother _ (by omega))
theorem rest_made {V:Int} {W:World} {v:Value} (h:PAt 2 p r q (bareE q p) V (NCof S0 (n0 V)) W s) (hq:r<p∧p<q∧q<b) (z2:W.heap[b]?=some (.cells #[.pointer (some ⟨q,0,none⟩)] 119 (0,0))) (z3:W.heap[b+1]?=some (.cells cs 124 (0,0))) (z4:W.heap[b+1+1]?=some (.cells #[.pointer (some ⟨p,1,none⟩)] 172 (0,0))) (hg:W.heap.size=g) (hv:v=.slice (some ⟨g,0,none⟩) (V.toNat+1) (V.toNat+1)) :
    ((W.alloc (.cells (madeCells #[.bool false] (V.toNat+1)) 4)).cell? ⟨b+1+1,0,none⟩=some (.pointer (some ⟨p,1,none⟩))∧(W.alloc (.cells (madeCells #[.bool false] (V.toNat+1)) 4)).cell? ⟨b,0,none⟩=some (.pointer (some ⟨q,0,none⟩))∧(W.alloc (.cells (madeCells #[.bool false] (V.toNat+1)) 4)).cell? ⟨p,1,none⟩=some (.int .i64 V)) ∧
    (((W.alloc (.cells (madeCells #[.bool false] (V.toNat+1)) 4)).setCell ⟨q,1,none⟩ v).cell? ⟨b+1+1,0,none⟩=some (.pointer (some ⟨p,1,none⟩))∧((W.alloc (.cells (madeCells #[.bool false] (V.toNat+1)) 4)).setCell ⟨q,1,none⟩ v).cell? ⟨b,0,none⟩=some (.pointer (some ⟨q,0,none⟩))∧((W.alloc (.cells (madeCells #[.bool false] (V.toNat+1)) 4)).setCell ⟨q,1,none⟩ v).cell? ⟨p,1,none⟩=some (.int .i64 V)) ∧
    RN p r g q b ((W.alloc (.cells (madeCells #[.bool false] (V.toNat+1)) 4)).setCell ⟨q,1,none⟩ v) cs S0 (n0 V) ((W.alloc (.cells (madeCells #[.bool false] (V.toNat+1)) 4)).setCell ⟨q,1,none⟩ v) s∧Kept3 p r q W ((W.alloc (.cells (madeCells #[.bool false] (V.toNat+1)) 4)).setCell ⟨q,1,none⟩ v):=by
  subst hv
  subst hg
  obtain ⟨m0,m1,hP⟩:=RN.made h ⟨hq.1,hq.2.1⟩
  have hb:Below W.heap.size W (W.alloc (.cells (madeCells #[.bool false] (V.toNat+1)) 4)):=(Below.refl _ W).alloc (Nat.le_refl _) _
  have hA:=(h.below hb).cells
  obtain ⟨ev,-,-,hA1,-,-⟩:=hA
  have y2:=(hb.block _ (lt_of_row z2)).trans z2
  have y3:=(hb.block _ (lt_of_row z3)).trans z3
  have y4:=(hb.block _ (lt_of_row z4)).trans z4
  have hl:=lt_of_row z4
  have hK:Kept3 p r q W ((W.alloc (.cells (madeCells #[.bool false] (V.toNat+1)) 4)).setCell ⟨q,1,none⟩ (.slice (some ⟨W.heap.size,0,none⟩) (V.toNat+1) (V.toNat+1))):=((Kept3.refl p r q W).alloc _).mark 1 _
  generalize W.alloc (.cells (madeCells #[.bool false] (V.toNat+1)) 4)=w1 at *
  have hother:∀ k,k≠q→(w1.setCell ⟨q,1,none⟩ (.slice (some ⟨W.heap.size,0,none⟩) (V.toNat+1) (V.toNat+1))).heap[k]?=w1.heap[k]?:=fun k hk=>heap_setCell_other _ _ _ _ (by simpa using hk)
  have x2:=(hother b (by omega)).trans y2
  have x3:=(hother (b+1) (by omega)).trans y3
  have x4:=(hother (b+1+1) (by omega)).trans y4
  obtain ⟨ev',-,-,hB1,-,-⟩:=hP.cells
  refine ⟨⟨?_,?_,hA1⟩,⟨?_,?_,hB1⟩,⟨hP,nat_empty _ _ _ _ _,Kept3.refl _ _ _ _,x2,x3,x4,by omega⟩,hK⟩
  · rw [cell_of_row _ _ _ _ _ _ y4];rfl
  · rw [cell_of_row _ _ _ _ _ _ y2];rfl
  · rw [cell_of_row _ _ _ _ _ _ x4];rfl
  · rw [cell_of_row _ _ _ _ _ _ x2];rfl
def nxM (V:Int) (s:Ps × List PMem) (x:PShape):Ps × List PMem:=((s.1.ports (fun k t=>t.nextDef V k) V x).2,s.2++[(s.1.ports (fun k t=>t.nextDef V k) V x).1])
def Ps.body (V:Int) (ci cl co ca cb cc cm:Nat) (s:Ps):PNet × Ps :=
  let i:=s.lines (fun t=>t.definition V 1) ci
  let l:=i.2.lines (fun t=>t.latch V) cl
  let o:=l.2.lines (fun t=>t.literal V) co
  let b:=o.2.lines (fun t=>t.literal V) cb
  let q:=b.2.lines (fun t=>t.literal V) cc
  let m:=linesF (fun t=>t.memory) (nxM V) cm (q.2,[])
  let a:=m.1.lines (fun t=>t.and V) ca
  (⟨V,i.1,l.1,o.1,b.1,q.1,m.2,a.1⟩,a.2)
end
end Go.Proofs.YtldnepogjnahfaaGreatDoor
