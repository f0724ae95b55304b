/- Rows of numbers where a slice says that they lie; appending one to a row of the call's own (conditions: the cells hold the numbers; the bounds of the lengths); Netlists as plain lists, and the plain answers of chapter 5: definitions, literals, what is wrong first (no condition); A netlist as an argument: where its lists lie, that they lie so behind whatever turns nothing old, and that each argument that can be read is one (conditions: the argument can be read). -/
import Derived.Test.YtldnepogjnahfaaGreatDoorRows
import Derived.Maps.AppendAt
import Derived.Laws.Rows
import Derived.RegionTactic
import Derived.OwnWalk
import Derived.Below
import Derived.Deep.Slices
import Derived.Deep.Fields
import Derived.ChangeSlices
import Derived.ProofKit
import Derived.OpenShut
namespace Go.Proofs.YtldnepogjnahfaaGreatDoor
open Go.RowKit
set_option linter.unusedVariables false
theorem lt_of_row {w:World} {b:Nat} {o:Obj} (h:w.heap[b]?=some o):b<w.heap.size:=by
  rcases Nat.lt_or_ge b w.heap.size with h1 | h1
  · exact h1
  · simp [Array.getElem?_eq_none h1] at h
theorem some_of_lt {α:Type} {xs:List α} {k:Nat} (h:k<xs.length):∃ x,xs[k]?=some x:=⟨xs[k],List.getElem?_eq_getElem h⟩
theorem lt_of_some {α:Type} {xs:List α} {k:Nat} {x:α} (h:xs[k]?=some x):k<xs.length:=(List.getElem?_eq_some_iff.1 h).1
theorem take_some {α:Type} {xs:List α} {k:Nat} {x:α} (h:xs[k]?=some x):xs.take (k+1)=xs.take k++[x]:=by
  rw [List.take_add_one,h];rfl
theorem drop_some {α:Type} {xs:List α} {k:Nat} {x:α} (h:xs[k]?=some x):xs.drop k=x::xs.drop (k+1):=by
  obtain ⟨h1,rfl⟩:=List.getElem?_eq_some_iff.1 h
  exact List.drop_eq_getElem_cons h1
theorem mem_of_some {α:Type} {xs:List α} {k:Nat} {x:α} (h:xs[k]?=some x):x∈xs:=List.mem_of_getElem? h
def Src (w:World) (B:Nat) (A:Option Addr) (xs:List Int):Prop :=
  xs≠[]→∃ b o,A=some ⟨b,o,none⟩∧b<B∧∀ j x,xs[j]?=some x→w.cell? ⟨b,o+j,none⟩=some (.int .i64 x)
theorem Src.nil {w:World} {B:Nat} {A:Option Addr}:Src w B A []:=fun h=>absurd rfl h
theorem Src.below {w w':World} {B B':Nat} {A:Option Addr} {xs:List Int} (h:Src w B A xs) (hb:Below B' w w') (hB:B≤B'):Src w' B A xs:=fun hn=>by
  obtain ⟨b,o,e,hlt,hc⟩:=h hn
  exact ⟨b,o,e,hlt,fun j x hj=>(hb.cell (p:=⟨b,o+j,none⟩) (show b<B' by omega)).trans (hc j x hj)⟩
theorem Src.wider {w:World} {B B':Nat} {A:Option Addr} {xs:List Int} (h:Src w B A xs) (hB:B≤B'):Src w B' A xs:=fun hn=>by
  obtain ⟨b,o,e,hlt,hc⟩:=h hn
  exact ⟨b,o,e,by omega,hc⟩
theorem Src.at {w:World} {B k:Nat} {A:Option Addr} {xs:List Int} {x:Int} (h:Src w B A xs) (hk:xs[k]?=some x) :
    ∃ b o,A=some ⟨b,o,none⟩∧b<B∧∀ j x,xs[j]?=some x→w.cell? ⟨b,o+j,none⟩=some (.int .i64 x):=by
  refine h ?_
  rintro rfl
  simp at hk
theorem Src.of_own {w:World} {base e:Nat} {A:Option Addr} {n c:Nat} {xs:List Int} (h:w.ownsRow base e 1 (.slice A n c) n (xs.map (Value.int .i64))):Src w w.heap.size A xs:=fun hn=>by
  have hl:xs.length=n:=by simpa using h.1
  rcases h.2 with ⟨_,h0⟩ | ⟨g,cap,cur,hv,hb,hg,hnc,hcm,hs,ht⟩
  · exact absurd (List.eq_nil_of_length_eq_zero (by omega)) hn
  · injection hv with h1 h2 h3
    subst h3
    have hlt:g<w.heap.size:=lt_of_row hg
    subst h1
    refine ⟨g,0,rfl,hlt,fun j x hj=>?_⟩
    have hj2:=lt_of_some hj
    rw [h.cellAt _ (by omega),Nat.zero_add,List.getElem?_map,hj]
    rfl
theorem Src.one {w:World} {B g:Nat} {x:Int} {t:TypeId} {fr:Nat × Nat} (h:w.heap[g]?=some (.cells #[.int .i64 x] t fr)) (hlt:g<B):Src w B (some ⟨g,0,none⟩) [x]:=fun _=>by
  refine ⟨g,0,rfl,hlt,fun j y hj=>?_⟩
  have hj2:=lt_of_some hj
  have:j=0:=by simp at hj2;exact hj2
  subst this
  rw [cell_of_row w g 0 _ t fr h]
  simp at hj
  subst hj
  rfl
theorem Src.two {w:World} {B g:Nat} {x y:Int} {t:TypeId} {fr:Nat × Nat} (h:w.heap[g]?=some (.cells #[.int .i64 x,.int .i64 y] t fr)) (hlt:g<B):Src w B (some ⟨g,0,none⟩) [x,y]:=fun _=>by
  refine ⟨g,0,rfl,hlt,fun j z hj=>?_⟩
  have hj2:=lt_of_some hj
  rw [cell_of_row w g (0+j) _ t fr h]
  match j,hj2 with
  | 0,_=>simp at hj;subst hj;rfl
  | 1,_=>simp at hj;subst hj;rfl
theorem own_form {w:World} {b e:Nat} {v:Value} {xs:List Int} (h:w.ownsRow b e 1 v xs.length (xs.map (Value.int .i64))) :
    ∃ A c,v=.slice A xs.length c∧Src w w.heap.size A xs∧xs.length≤c∧c≤9223372036854775807:=by
  rcases h.2 with ⟨h1,h0⟩ | ⟨g,cap,cur,hv,hb,hg,hnc,hcm,hs,ht⟩
  · have hx:xs=[]:=List.eq_nil_of_length_eq_zero h0
    subst hx
    exact ⟨none,0,h1,Src.nil,Nat.le_refl _,by omega⟩
  · refine ⟨_,cap,hv,Src.of_own (n:=xs.length) (c:=cap) (by rw [← hv];exact h),hnc,by unfold maxLen at hcm;omega⟩
theorem run_app {P:Program} (w:World) (base:Nat) (t ty e:TypeId) (i:TypeInfo) (ht:P.underlying t=some (.slice e)) (hi:P.info? e=some i) (hz:i.zero=some (.int .i64 0)) (hsize:i.size=1) (hby:i.bytes=8)
    (v:Value) (n:Nat) (xs:List Int) (hown:w.ownsRow base e 1 v n (xs.map (Value.int .i64)))
    (B:Nat) (A:Option Addr) (m c:Nat) (ys:List Int) (hm:ys.length=m) (hsrc:Src w B A ys) (hbd:n+m≤10000000) (hbase:base≤w.heap.size) :
    ∃ v' w',(Builtin.append_ #[t,t] ty #[v,.slice A m c]).run P w=.ok v' w'∧w'.ownsRow base e 1 v' (n+m) ((xs++ys).map (Value.int .i64))∧w.grownBy w' v.ownBlock ∧
      (v'.ownBlock=v.ownBlock∨v'.ownBlock=some w.heap.size):=by
  rcases A with _ | ad
  · have hys:ys=[]:=by
      rcases List.eq_nil_or_concat ys with h0 | ⟨l,z,h0⟩
      · exact h0
      · obtain ⟨_,_,h,_⟩:=hsrc (by rw [h0];simp)
        cases h
    subst hys
    have hm0:m=0:=by simpa using hm.symm
    subst hm0
    refine ⟨v,w,?_,by simpa using hown,World.grownBy.refl w _,.inl rfl⟩
    rcases hown.2 with ⟨rfl,rfl⟩ | ⟨g,cap,cur,rfl,_,_,hnc,_⟩
    · simp [Builtin.append_,run_underlying ht,sizeOf,typeInfo,hi,Builtin.lenOf,Builtin.firstCells]
    · simp [Builtin.append_,run_underlying ht,sizeOf,typeInfo,hi,Builtin.lenOf,Builtin.firstCells,hnc,storeCells]
  · have hcells:∀ j u,(ys.map (Value.int .i64))[j]?=some u→w.cell? (ad.add j)=some u:=by
      intro j u hu
      obtain ⟨y,hy,rfl⟩:∃ y,ys[j]?=some y∧Value.int .i64 y=u:=by simpa using hu
      obtain ⟨b,o,h,_,hc⟩:=hsrc.at hy
      injection h with h
      subst h
      rw [show ((⟨b,o,none⟩:Addr).add j)=⟨b,o+j,none⟩ from Addr.add_lit b o j,hc j y hy]
    obtain ⟨v',w',hrun,h2,h3,_,h5⟩:=run_append_own_at (P:=P) w base t ty e i (.int .i64 0) 1 8 ht hi hz hsize hby rfl (by decide) v n (xs.map (Value.int .i64)) hown ad m c (ys.map (Value.int .i64)) (by simpa using hm) hcells
      (fun u hu=>by obtain ⟨x,_,rfl⟩:=List.mem_map.1 hu;rfl) (by unfold maxLen;omega) (by omega) hbase
    exact ⟨v',w',hrun,by rw [List.map_append];exact h2,h3,h5⟩
theorem int_info:(Tryz.prog.info? 3).map (fun i=>(i.zero,i.size,i.bytes))=some (some (.int .i64 0),1,8):=by kernel_rfl
structure PLatch where
  lv:Int
  ln:Int
  li:Int
structure PAnd where
  av:Int
  aa:Int
  ab:Int
structure PRead where
  rv:Int
  ra:List Int
structure PWrite where
  wo:Int
  wa:List Int
  wd:List Int
structure PMem where
  ma:Int
  mw:Int
  mn:Bool
  mr:List PRead
  mx:List PWrite
structure PNet where
  vars:Int
  inputs:List Int
  latches:List PLatch
  outs:List Int
  bads:List Int
  cons:List Int
  mems:List PMem
  ands:List PAnd
def dataL (v w:Int):List Int:=(List.range w.toNat).map fun (i:Nat)=>v+(i:Int)
theorem dataL_len (v w:Int):(dataL v w).length=w.toNat:=by simp [dataL]
theorem dataL_snoc (v:Int) (k:Nat):dataL v (((k+1:Nat):Int))=dataL v ((k:Nat):Int)++[v+(k:Int)]:=by
  unfold dataL
  simp only [Int.toNat_natCast,List.range_succ,List.map_append,List.map_cons,List.map_nil]
theorem dataL_nil (v w:Int) (h:w≤0):dataL v w=[]:=by
  unfold dataL
  rw [show w.toNat=0 from by omega]
  rfl
def PMem.data (m:PMem):List Int:=m.mr.flatMap fun r=>dataL r.rv m.mw
def PNet.defs (n:PNet):List Int:=n.inputs++n.latches.map PLatch.lv++n.mems.flatMap PMem.data++n.ands.map PAnd.av
def PWrite.lits (x:PWrite):List Int:=[x.wo]++x.wa++x.wd
def PMem.lits (m:PMem):List Int:=m.mr.flatMap PRead.ra++m.mx.flatMap PWrite.lits
def PAnd.lits (x:PAnd):List Int:=[x.aa,x.ab]
def PNet.lits (n:PNet):List Int:=n.latches.map PLatch.ln++n.outs++n.bads++n.cons++n.mems.flatMap PMem.lits++n.ands.flatMap PAnd.lits
def PMem.many (m:PMem):Bool:=decide (4<m.mr.length) || decide (4<m.mx.length)
def PNet.lim (n:PNet):Bool :=
  decide (n.vars<0) || decide (2000<n.vars) || decide (1000<n.outs.length+n.bads.length+n.cons.length) || decide (4<n.mems.length) || n.mems.any PMem.many ||
    decide (2000<n.inputs.length) || decide (2000<n.latches.length) || decide (2000<n.ands.length)
def PRead.wide (a:Int) (r:PRead):Bool:=decide ((r.ra.length:Int)≠a)
def PWrite.wide (a d:Int) (x:PWrite):Bool:=decide ((x.wa.length:Int)≠a) || decide ((x.wd.length:Int)≠d)
def PMem.wide (m:PMem):Bool :=
  decide (m.ma<1) || decide (62<m.ma) || decide (m.mw<1) || decide (64<m.mw) || m.mr.any (PRead.wide m.ma) || m.mx.any (PWrite.wide m.ma m.mw)
def PLatch.wrong (l:PLatch):Bool:=decide (l.li<0) || decide (2<l.li)
def defsGo (vars:Int):List Int→List Int→Int
  | [],seen=>if (seen.length:Int)<vars then 7 else 0
  | x::l,seen=>if x<1∨vars<x then 5 else if x∈seen then 6 else defsGo vars l (seen++[x])
def PNet.once (n:PNet):Int:=defsGo n.vars n.defs []
def outB (vars x:Int):Bool:=decide (x<0) || decide (2*vars+1<x)
def PNet.loose (n:PNet):Bool:=n.lits.any (outB n.vars)
def PNet.sound (n:PNet):Int :=
  if n.lim=true then 10 else if n.mems.any PMem.wide=true then 9 else if n.latches.any PLatch.wrong=true then 1 else
  if n.once≠0 then n.once else if n.loose=true then 5 else 0
def I64 (x:Int):Prop:=-9223372036854775808≤x∧x<9223372036854775808
def PLatch.fits (l:PLatch):Prop:=I64 l.lv∧I64 l.ln∧I64 l.li
def PAnd.fits (x:PAnd):Prop:=I64 x.av∧I64 x.aa∧I64 x.ab
def PRead.fits (r:PRead):Prop:=I64 r.rv∧∀ x∈r.ra,I64 x
def PWrite.fits (x:PWrite):Prop:=I64 x.wo∧(∀ y∈x.wa,I64 y)∧∀ y∈x.wd,I64 y
def PMem.fits (m:PMem):Prop:=I64 m.ma∧I64 m.mw∧(∀ r∈m.mr,r.fits)∧∀ x∈m.mx,x.fits
structure PNet.fits (n:PNet):Prop where
  vars:I64 n.vars
  inputs:∀ x∈n.inputs,I64 x
  latches:∀ x∈n.latches,x.fits
  outs:∀ x∈n.outs,I64 x
  bads:∀ x∈n.bads,I64 x
  cons:∀ x∈n.cons,I64 x
  mems:∀ x∈n.mems,x.fits
  ands:∀ x∈n.ands,x.fits
open Go.ChangeShapes Go.WideShapes Go.RowKit
def Row {α:Type} (B k:Nat) (At:Nat→Nat→α→Prop) (A:Option Addr) (xs:List α):Prop :=
  xs≠[]→∃ b o,A=some ⟨b,o,none⟩∧b<B∧∀ j x,xs[j]?=some x→At b (o+j*k) x
theorem Row.at {α:Type} {B k j:Nat} {At:Nat→Nat→α→Prop} {A:Option Addr} {xs:List α} {x:α} (h:Row B k At A xs) (hj:xs[j]?=some x) :
    ∃ b o,A=some ⟨b,o,none⟩∧b<B∧∀ j x,xs[j]?=some x→At b (o+j*k) x:=by
  refine h ?_
  rintro rfl
  simp at hj
theorem Row.mono {α:Type} {B B' k:Nat} {At At':Nat→Nat→α→Prop} {A:Option Addr} {xs:List α} (h:Row B k At A xs) (hB:B≤B') (ha:∀ b o x,b<B→At b o x→At' b o x):Row B' k At' A xs:=fun hn=>by
  obtain ⟨b,o,e,hlt,hc⟩:=h hn
  exact ⟨b,o,e,by omega,fun j x hj=>ha b _ x hlt (hc j x hj)⟩
theorem Row.nil {α:Type} {B k:Nat} {At:Nat→Nat→α→Prop} {A:Option Addr}:Row B k At A ([]:List α):=fun h=>absurd rfl h
def LatchAt (w:World) (b o:Nat) (x:PLatch):Prop :=
  w.cell? ⟨b,o,none⟩=some (.int .i64 x.lv)∧w.cell? ⟨b,o+1,none⟩=some (.int .i64 x.ln)∧w.cell? ⟨b,o+2,none⟩=some (.int .i64 x.li)
def AndAt (w:World) (b o:Nat) (x:PAnd):Prop :=
  w.cell? ⟨b,o,none⟩=some (.int .i64 x.av)∧w.cell? ⟨b,o+1,none⟩=some (.int .i64 x.aa)∧w.cell? ⟨b,o+2,none⟩=some (.int .i64 x.ab)
def ReadAt (w:World) (B b o:Nat) (x:PRead):Prop :=
  ∃ a c,w.cell? ⟨b,o,none⟩=some (.int .i64 x.rv)∧w.cell? ⟨b,o+1,none⟩=some (.slice a x.ra.length c)∧Src w B a x.ra∧x.ra.length≤c∧c≤9223372036854775807
def WriteAt (w:World) (B b o:Nat) (x:PWrite):Prop :=
  ∃ a c a2 c2,w.cell? ⟨b,o,none⟩=some (.int .i64 x.wo)∧w.cell? ⟨b,o+1,none⟩=some (.slice a x.wa.length c)∧w.cell? ⟨b,o+2,none⟩=some (.slice a2 x.wd.length c2) ∧
    Src w B a x.wa∧Src w B a2 x.wd∧x.wa.length≤c∧c≤9223372036854775807∧x.wd.length≤c2∧c2≤9223372036854775807
def Ports (w:World) (B:Nat) (a:Option Addr) (c:Nat) (a2:Option Addr) (c2:Nat) (m:PMem):Prop :=
  Row B 2 (ReadAt w B) a m.mr∧Row B 3 (WriteAt w B) a2 m.mx∧m.mr.length≤c∧c≤9223372036854775807∧m.mx.length≤c2∧c2≤9223372036854775807
def MemAt (w:World) (B b o:Nat) (m:PMem):Prop :=
  ∃ a c a2 c2,w.cell? ⟨b,o,none⟩=some (.int .i64 m.ma)∧w.cell? ⟨b,o+1,none⟩=some (.int .i64 m.mw)∧w.cell? ⟨b,o+2,none⟩=some (.bool m.mn) ∧
    w.cell? ⟨b,o+3,none⟩=some (.slice a m.mr.length c)∧w.cell? ⟨b,o+4,none⟩=some (.slice a2 m.mx.length c2)∧Ports w B a c a2 c2 m
structure NetS where
  i:Option Addr
  ic:Nat
  l:Option Addr
  lc:Nat
  o:Option Addr
  oc:Nat
  b:Option Addr
  bc:Nat
  c:Option Addr
  cc:Nat
  m:Option Addr
  mc:Nat
  a:Option Addr
  ac:Nat
structure NetAt (w:World) (B:Nat) (S:NetS) (n:PNet):Prop where
  inputs:Src w B S.i n.inputs
  latches:Row B 3 (LatchAt w) S.l n.latches
  outs:Src w B S.o n.outs
  bads:Src w B S.b n.bads
  cons:Src w B S.c n.cons
  mems:Row B 5 (MemAt w B) S.m n.mems
  ands:Row B 3 (AndAt w) S.a n.ands
  caps:n.inputs.length≤S.ic∧n.latches.length≤S.lc∧n.outs.length≤S.oc∧n.bads.length≤S.bc∧n.cons.length≤S.cc∧n.mems.length≤S.mc∧n.ands.length≤S.ac
  room:S.ic≤9223372036854775807∧S.lc≤9223372036854775807∧S.oc≤9223372036854775807∧S.bc≤9223372036854775807∧S.cc≤9223372036854775807∧S.mc≤9223372036854775807∧S.ac≤9223372036854775807
section
variable {w w':World} {B B':Nat} (hb:Below B' w w') (hB:B≤B')
include hb hB
theorem LatchAt.below {b o:Nat} {x:PLatch} (hlt:b<B) (h:LatchAt w b o x):LatchAt w' b o x:=by
  have hl:b<B':=by omega
  exact ⟨(hb.cell (p:=⟨b,o,none⟩) hl).trans h.1,(hb.cell (p:=⟨b,o+1,none⟩) hl).trans h.2.1,(hb.cell (p:=⟨b,o+2,none⟩) hl).trans h.2.2⟩
theorem AndAt.below {b o:Nat} {x:PAnd} (hlt:b<B) (h:AndAt w b o x):AndAt w' b o x:=by
  have hl:b<B':=by omega
  exact ⟨(hb.cell (p:=⟨b,o,none⟩) hl).trans h.1,(hb.cell (p:=⟨b,o+1,none⟩) hl).trans h.2.1,(hb.cell (p:=⟨b,o+2,none⟩) hl).trans h.2.2⟩
theorem ReadAt.below {b o:Nat} {x:PRead} (hlt:b<B) (h:ReadAt w B b o x):ReadAt w' B b o x:=by
  have hl:b<B':=by omega
  obtain ⟨a,c,h1,h2,h3,h4⟩:=h
  exact ⟨a,c,(hb.cell (p:=⟨b,o,none⟩) hl).trans h1,(hb.cell (p:=⟨b,o+1,none⟩) hl).trans h2,h3.below hb hB,h4⟩
theorem WriteAt.below {b o:Nat} {x:PWrite} (hlt:b<B) (h:WriteAt w B b o x):WriteAt w' B b o x:=by
  have hl:b<B':=by omega
  obtain ⟨a,c,a2,c2,h1,h2,h3,h4,h5,h6⟩:=h
  exact ⟨a,c,a2,c2,(hb.cell (p:=⟨b,o,none⟩) hl).trans h1,(hb.cell (p:=⟨b,o+1,none⟩) hl).trans h2,(hb.cell (p:=⟨b,o+2,none⟩) hl).trans h3,h4.below hb hB,h5.below hb hB,h6⟩
theorem Ports.below {a a2:Option Addr} {c c2:Nat} {m:PMem} (h:Ports w B a c a2 c2 m):Ports w' B a c a2 c2 m :=
  ⟨h.1.mono (Nat.le_refl _) fun b o x hlt hx=>ReadAt.below hb hB hlt hx,h.2.1.mono (Nat.le_refl _) fun b o x hlt hx=>WriteAt.below hb hB hlt hx,h.2.2⟩
theorem MemAt.below {b o:Nat} {x:PMem} (hlt:b<B) (h:MemAt w B b o x):MemAt w' B b o x:=by
  have hl:b<B':=by omega
  obtain ⟨a,c,a2,c2,h1,h2,h3,h4,h5,h6⟩:=h
  exact ⟨a,c,a2,c2,(hb.cell (p:=⟨b,o,none⟩) hl).trans h1,(hb.cell (p:=⟨b,o+1,none⟩) hl).trans h2,(hb.cell (p:=⟨b,o+2,none⟩) hl).trans h3,(hb.cell (p:=⟨b,o+3,none⟩) hl).trans h4,(hb.cell (p:=⟨b,o+4,none⟩) hl).trans h5,Ports.below hb hB h6⟩
theorem NetAt.below {S:NetS} {n:PNet} (h:NetAt w B S n):NetAt w' B S n where
  inputs:=h.inputs.below hb hB
  latches:=h.latches.mono (Nat.le_refl _) fun b o x hlt hx=>LatchAt.below hb hB hlt hx
  outs:=h.outs.below hb hB
  bads:=h.bads.below hb hB
  cons:=h.cons.below hb hB
  mems:=h.mems.mono (Nat.le_refl _) fun b o x hlt hx=>MemAt.below hb hB hlt hx
  ands:=h.ands.mono (Nat.le_refl _) fun b o x hlt hx=>AndAt.below hb hB hlt hx
  caps:=h.caps
  room:=h.room
end
section
variable {w:World} {B B':Nat} (hB:B≤B')
include hB
theorem ReadAt.wider {b o:Nat} {x:PRead} (h:ReadAt w B b o x):ReadAt w B' b o x:=by
  obtain ⟨a,c,h1,h2,h3,h4⟩:=h
  exact ⟨a,c,h1,h2,h3.wider hB,h4⟩
theorem WriteAt.wider {b o:Nat} {x:PWrite} (h:WriteAt w B b o x):WriteAt w B' b o x:=by
  obtain ⟨a,c,a2,c2,h1,h2,h3,h4,h5,h6⟩:=h
  exact ⟨a,c,a2,c2,h1,h2,h3,h4.wider hB,h5.wider hB,h6⟩
theorem Ports.wider {a a2:Option Addr} {c c2:Nat} {m:PMem} (h:Ports w B a c a2 c2 m):Ports w B' a c a2 c2 m :=
  ⟨h.1.mono hB fun b o x hlt hx=>ReadAt.wider hB hx,h.2.1.mono hB fun b o x hlt hx=>WriteAt.wider hB hx,h.2.2⟩
theorem MemAt.wider {b o:Nat} {x:PMem} (h:MemAt w B b o x):MemAt w B' b o x:=by
  obtain ⟨a,c,a2,c2,h1,h2,h3,h4,h5,h6⟩:=h
  exact ⟨a,c,a2,c2,h1,h2,h3,h4,h5,Ports.wider hB h6⟩
theorem NetAt.wider {S:NetS} {n:PNet} (h:NetAt w B S n):NetAt w B' S n where
  inputs:=h.inputs.wider hB
  latches:=h.latches.mono hB fun b o x hlt hx=>hx
  outs:=h.outs.wider hB
  bads:=h.bads.wider hB
  cons:=h.cons.wider hB
  mems:=h.mems.mono hB fun b o x hlt hx=>MemAt.wider hB hx
  ands:=h.ands.mono hB fun b o x hlt hx=>hx
  caps:=h.caps
  room:=h.room
end
theorem NetAt.later {w w':World} {B:Nat} {S:NetS} {n:PNet} (h:NetAt w B S n) (hb:Below B w w') (hB:B≤w'.heap.size):NetAt w' w'.heap.size S n :=
  NetAt.wider hB (NetAt.below hb (Nat.le_refl _) h)
theorem cell_box (w:World) (cs:Array Value) (t:TypeId) (j:Nat) (v:Value) (h:cs[j]?=some v):(w.alloc (.cells cs t)).cell? ⟨w.heap.size,j,none⟩=some v:=by
  rw [cell_of_row _ w.heap.size j cs t (0,0) (heap_alloc_new w _)]
  exact h
structure NetBox (w:World) (g:Nat) (n:PNet) (S:NetS):Prop where
  n0:w.cell? ⟨g,0,none⟩=some (.int .i64 n.vars)
  n1:w.cell? ⟨g,1,none⟩=some (.slice S.i n.inputs.length S.ic)
  n2:w.cell? ⟨g,2,none⟩=some (.slice S.l n.latches.length S.lc)
  n3:w.cell? ⟨g,3,none⟩=some (.slice S.o n.outs.length S.oc)
  n4:w.cell? ⟨g,4,none⟩=some (.slice S.b n.bads.length S.bc)
  n5:w.cell? ⟨g,5,none⟩=some (.slice S.c n.cons.length S.cc)
  n6:w.cell? ⟨g,6,none⟩=some (.slice S.m n.mems.length S.mc)
  n7:w.cell? ⟨g,7,none⟩=some (.slice S.a n.ands.length S.ac)
  lt:g<w.heap.size
structure MemBox (w:World) (g:Nat) (x:PMem) (a:Option Addr) (c:Nat) (a2:Option Addr) (c2:Nat):Prop where
  m0:w.cell? ⟨g,0,none⟩=some (.int .i64 x.ma)
  m1:w.cell? ⟨g,1,none⟩=some (.int .i64 x.mw)
  m2:w.cell? ⟨g,2,none⟩=some (.bool x.mn)
  m3:w.cell? ⟨g,3,none⟩=some (.slice a x.mr.length c)
  m4:w.cell? ⟨g,4,none⟩=some (.slice a2 x.mx.length c2)
  lt:g<w.heap.size
theorem netBox_new (w:World) (n:PNet) (S:NetS) (t:TypeId):NetBox (w.alloc (.cells #[.int .i64 n.vars,.slice S.i n.inputs.length S.ic,.slice S.l n.latches.length S.lc,.slice S.o n.outs.length S.oc,.slice S.b n.bads.length S.bc,.slice S.c n.cons.length S.cc,.slice S.m n.mems.length S.mc,.slice S.a n.ands.length S.ac] t)) w.heap.size n S :=
  ⟨cell_box w _ t 0 _ rfl,cell_box w _ t 1 _ rfl,cell_box w _ t 2 _ rfl,cell_box w _ t 3 _ rfl,cell_box w _ t 4 _ rfl,cell_box w _ t 5 _ rfl,cell_box w _ t 6 _ rfl,cell_box w _ t 7 _ rfl,by simp⟩
theorem memBox_new (w:World) (x:PMem) (a:Option Addr) (c:Nat) (a2:Option Addr) (c2:Nat) (t:TypeId):MemBox (w.alloc (.cells #[.int .i64 x.ma,.int .i64 x.mw,.bool x.mn,.slice a x.mr.length c,.slice a2 x.mx.length c2] t)) w.heap.size x a c a2 c2 :=
  ⟨cell_box w _ t 0 _ rfl,cell_box w _ t 1 _ rfl,cell_box w _ t 2 _ rfl,cell_box w _ t 3 _ rfl,cell_box w _ t 4 _ rfl,by simp⟩
theorem NetBox.below {w w':World} {g B:Nat} {n:PNet} {S:NetS} (h:NetBox w g n S) (hb:Below B w w') (hg:g<B):NetBox w' g n S :=
  ⟨(hb.cell (p:=⟨g,0,none⟩) hg).trans h.n0,(hb.cell (p:=⟨g,1,none⟩) hg).trans h.n1,(hb.cell (p:=⟨g,2,none⟩) hg).trans h.n2,(hb.cell (p:=⟨g,3,none⟩) hg).trans h.n3,(hb.cell (p:=⟨g,4,none⟩) hg).trans h.n4,
    (hb.cell (p:=⟨g,5,none⟩) hg).trans h.n5,(hb.cell (p:=⟨g,6,none⟩) hg).trans h.n6,(hb.cell (p:=⟨g,7,none⟩) hg).trans h.n7,Nat.lt_of_lt_of_le h.lt hb.size⟩
theorem MemBox.below {w w':World} {g B:Nat} {x:PMem} {a a2:Option Addr} {c c2:Nat} (h:MemBox w g x a c a2 c2) (hb:Below B w w') (hg:g<B):MemBox w' g x a c a2 c2 :=
  ⟨(hb.cell (p:=⟨g,0,none⟩) hg).trans h.m0,(hb.cell (p:=⟨g,1,none⟩) hg).trans h.m1,(hb.cell (p:=⟨g,2,none⟩) hg).trans h.m2,(hb.cell (p:=⟨g,3,none⟩) hg).trans h.m3,(hb.cell (p:=⟨g,4,none⟩) hg).trans h.m4,Nat.lt_of_lt_of_le h.lt hb.size⟩
theorem below_box (w:World) (cs:Array Value) (t:TypeId):Below w.heap.size w (w.alloc (.cells cs t)):=(Below.refl _ _).alloc (Nat.le_refl _) _
theorem below_on {w w1 w2:World} (h1:Below w.heap.size w w1) (h2:Below w1.heap.size w1 w2):Below w.heap.size w w2:=h1.trans (h2.mono h1.size)
section
variable {H:Type} {enc:TypeId × Value→H} {w:World} {spare:Nat→Bool} {held:Bool}
end
end Go.Proofs.YtldnepogjnahfaaGreatDoor
