/- The literals on which a node of package topo hangs, and the variables below a variable (conditions: the netlist, the nodes and the definers lie where the graph's value says); A graph that is being built: one node is put behind the others (conditions: the draft lies in blocks of the call's own; the node is the netlist's); Which node defines each variable, as a plain list that is filled node by node (conditions: the nodes are a sound netlist's). -/
import Derived.Test.YtldnepogjnahfaaGreatDoorVZF
import Derived.BigRegion
import Derived.Deep.RegionHeld3
set_option linter.unusedVariables false
namespace Go.Proofs.YtldnepogjnahfaaGreatDoor
open Go.ChangeShapes Go.WideShapes Go.RowKit
theorem HighL.lists {w w':World} {xs:List Int} {e:Ending} (h:HighL w xs e w'):Lists w xs e w':=by
  obtain ⟨A,c,rfl,_,hs,hb⟩:=h
  exact ⟨A,c,rfl,hs,hb⟩
set_option maxRecDepth 100000 in
set_option maxHeartbeats 4000000 in
theorem literals_node (n:PNet) (S:NetS) (p q:Value) (w:World) (x:PNode) (h:NetAt w w.heap.size S n) (hx:x∈n.nodes) :
    Calls Tryz.prog 163 #[.agg #[.int .i64 n.vars,.slice S.i n.inputs.length S.ic,.slice S.l n.latches.length S.lc,.slice S.o n.outs.length S.oc,.slice S.b n.bads.length S.bc,.slice S.c n.cons.length S.cc,.slice S.m n.mems.length S.mc,.slice S.a n.ands.length S.ac,p,q],.agg #[.bool x.nr,.int .i64 x.nm,.int .i64 x.na]] w (Lists w x.nf):=by
  obtain ⟨nr,nm,na,nf,nv⟩:=x
  have hb2:=below_on (below_box w #[.int .i64 n.vars,.slice S.i n.inputs.length S.ic,.slice S.l n.latches.length S.lc,.slice S.o n.outs.length S.oc,.slice S.b n.bads.length S.bc,.slice S.c n.cons.length S.cc,.slice S.m n.mems.length S.mc,.slice S.a n.ands.length S.ac,p,q] 102) (below_box (w.alloc (.cells #[.int .i64 n.vars,.slice S.i n.inputs.length S.ic,.slice S.l n.latches.length S.lc,.slice S.o n.outs.length S.oc,.slice S.b n.bads.length S.bc,.slice S.c n.cons.length S.cc,.slice S.m n.mems.length S.mc,.slice S.a n.ands.length S.ac,p,q] 102)) #[.bool nr,.int .i64 nm,.int .i64 na] 165)
  have hM:=(gBox_new w n S p q 102).below (below_box _ #[.bool nr,.int .i64 nm,.int .i64 na] 165) (by simp)
  obtain ⟨t0,t1,t2⟩:=tBox_new (w.alloc (.cells #[.int .i64 n.vars,.slice S.i n.inputs.length S.ic,.slice S.l n.latches.length S.lc,.slice S.o n.outs.length S.oc,.slice S.b n.bads.length S.bc,.slice S.c n.cons.length S.cc,.slice S.m n.mems.length S.mc,.slice S.a n.ands.length S.ac,p,q] 102)) ⟨nr,nm,na,nf,nv⟩ 165
  rw [show (w.alloc (.cells #[.int .i64 n.vars,.slice S.i n.inputs.length S.ic,.slice S.l n.latches.length S.lc,.slice S.o n.outs.length S.oc,.slice S.b n.bads.length S.bc,.slice S.c n.cons.length S.cc,.slice S.m n.mems.length S.mc,.slice S.a n.ands.length S.ac,p,q] 102)).heap.size=w.heap.size+1 from by simp] at t0 t1 t2
  have hN:=NetAt.below hb2 (Nat.le_refl _) h
  rcases node_at hx with ⟨r0,r1,j,a,r2,hj,rf,rv⟩ | ⟨r0,t,m,j,r,r1,hmm,r2,hr,rf,rv⟩
  · simp only at r0 r1 r2 rf rv
    subst r0 r1 r2 rf rv
    generalize hw2:World.alloc (World.alloc w (.cells #[.int .i64 n.vars,.slice S.i n.inputs.length S.ic,.slice S.l n.latches.length S.lc,.slice S.o n.outs.length S.oc,.slice S.b n.bads.length S.bc,.slice S.c n.cons.length S.cc,.slice S.m n.mems.length S.mc,.slice S.a n.ands.length S.ac,p,q] 102)) (.cells #[.bool false,.int .i64 0,.int .i64 (j:Int)] 165)=w2 at hb2 hM t0 t1 t2 hN
    obtain ⟨e0,e1,e2,e3,e4,e5,e6,e7,e8⟩:=hM.net
    obtain ⟨b,o,hS,hbB,hcell⟩:=hN.ands.at hj
    obtain ⟨m0,m1,m2⟩:=hcell j a hj
    have hjl:=lt_of_some hj
    have hjI:(j:Int)<(n.ands.length:Int):=by omega
    have hj0:(0:Int)≤(j:Int):=by omega
    have HB:=Lib.hid hb2
    clear hcell hN h hb2 hx hj hM
    generalize S.a=sa at *
    subst hS
    go_enter Tryz.func163,Tryz.ntmps163
    go_wp2_with fail
    go_ret
    exact HighL.lists (highL_two a.aa a.ab (by simp) (below_on HB.out (below_box _ _ _)))
  · simp only at r0 r1 r2 rf rv
    subst r0 r1 r2 rf rv
    generalize hw2:World.alloc (World.alloc w (.cells #[.int .i64 n.vars,.slice S.i n.inputs.length S.ic,.slice S.l n.latches.length S.lc,.slice S.o n.outs.length S.oc,.slice S.b n.bads.length S.bc,.slice S.c n.cons.length S.cc,.slice S.m n.mems.length S.mc,.slice S.a n.ands.length S.ac,p,q] 102)) (.cells #[.bool true,.int .i64 (t:Int),.int .i64 (j:Int)] 165)=w2 at hb2 hM t0 t1 t2 hN
    obtain ⟨e0,e1,e2,e3,e4,e5,e6,e7,e8⟩:=hM.net
    obtain ⟨b,o,hS,hbB,hcell⟩:=hN.mems.at hmm
    obtain ⟨a1,c1,a2,c2,m0,m1,m2,m3,m4,hP⟩:=hcell t m hmm
    have htl:=lt_of_some hmm
    have htI:(t:Int)<(n.mems.length:Int):=by omega
    have ht0:(0:Int)≤(t:Int):=by omega
    have hjl:=lt_of_some hr
    have hjI:(j:Int)<(m.mr.length:Int):=by omega
    have hj0:(0:Int)≤(j:Int):=by omega
    obtain ⟨br,orr,hSr,hbrB,hcr⟩:=hP.1.at hr
    obtain ⟨ar,cr,r0',r1',hsr,_⟩:=hcr j r hr
    have HB:=Lib.hid (And.intro hb2 (hsr.wider hb2.size))
    subst hSr
    clear hcell hN h hb2 hx hr hM hmm hP hcr hsr
    generalize S.m=sm at *
    subst hS
    go_enter Tryz.func163,Tryz.ntmps163
    go_wp2_with fail
    clear hw2
    go_quiet (fail)
    go_wp2_with fail
    go_ret
    exact ⟨_,_,rfl,HB.out.2,⟨HB.out.1.os,HB.out.1.tape,HB.out.1.output,HB.out.1.size,HB.out.1.block⟩⟩
def belowOf (D:List PNode) (v:Nat):List Nat:=match D.find? (fun x=>x.nv.any fun u=>u.toNat == v) with | some x=>x.nf.map fun f=>(f / 2).toNat | none=>[]
structure Tells (D:List PNode) (V:Nat) (L:List Int):Prop where
  len:L.length=V+1
  here:∀ v,v≤V→(L[v]?=some (-1)∧belowOf D v=[])∨(∃ (j:Nat) (x:PNode),L[v]?=some (j:Int)∧D[j]?=some x∧belowOf D v=x.nf.map fun f=>(f / 2).toNat)
structure GraphAt (w:World) (B:Nat) (S:NetS) (n:PNet) (a:Option Addr) (d:Option Addr) (L:List Int):Prop where
  net:NetAt w B S n
  nodes:Row B 3 (TNodeAt w) a n.nodes
  defs:Src w B d L
theorem TNodeAt.below {w w':World} {B b o:Nat} {x:PNode} (hb:Below B w w') (hlt:b<B) (h:TNodeAt w b o x):TNodeAt w' b o x :=
  ⟨(hb.cell (p:=⟨b,o,none⟩) hlt).trans h.1,(hb.cell (p:=⟨b,o+1,none⟩) hlt).trans h.2.1,(hb.cell (p:=⟨b,o+2,none⟩) hlt).trans h.2.2⟩
theorem GraphAt.later {w w':World} {B B':Nat} {S:NetS} {n:PNet} {a d:Option Addr} {L:List Int} (h:GraphAt w B S n a d L) (hb:Below B w w') (hB:B≤B'):GraphAt w' B' S n a d L :=
  ⟨NetAt.wider hB (NetAt.below hb (Nat.le_refl _) h.net),h.nodes.mono hB fun b o x hlt hx=>hx.below hb hlt,(h.defs.below hb (Nat.le_refl _)).wider hB⟩
theorem halves_map {l:List Int} (h:∀ f∈l,0≤f):nats (l.map fun f=>(f / 2).toNat)=l.map (· / 2):=by
  unfold nats
  rw [List.map_map]
  refine List.map_congr_left fun f hf=>?_
  have:=h f hf
  show (((f / 2).toNat:Nat):Int)=f / 2
  omega
theorem tvar_any (l:Int) (w:World):Calls Tryz.prog 164 #[.int .i64 l] w fun e w'=>e=.returned (.int .i64 (l / 2))∧w=w':=by
  go_enter Tryz.func164,Tryz.ntmps164
  go_wp2
  go_ret
  exact ⟨rfl,rfl⟩
set_option maxRecDepth 100000 in
set_option maxHeartbeats 4000000 in
theorem below_any (n:PNet) (S:NetS) (a d:Option Addr) (c cd:Nat) (L:List Int) (V:Nat) (w:World) (v:Nat) (h:GraphAt w w.heap.size S n a d L) (ht:Tells n.nodes V L) (hv:v≤V) (hV:V≤1000000) (hG:Good6 V n.nodes) :
    Calls Tryz.prog 113 #[.agg #[.int .i64 n.vars,.slice S.i n.inputs.length S.ic,.slice S.l n.latches.length S.lc,.slice S.o n.outs.length S.oc,.slice S.b n.bads.length S.bc,.slice S.c n.cons.length S.cc,.slice S.m n.mems.length S.mc,.slice S.a n.ands.length S.ac,.slice a n.nodes.length c,.slice d L.length cd],.int .i64 (v:Nat)] w (HighL w (nats (belowOf n.nodes v))):=by
  have hbx:=below_box w #[.int .i64 n.vars,.slice S.i n.inputs.length S.ic,.slice S.l n.latches.length S.lc,.slice S.o n.outs.length S.oc,.slice S.b n.bads.length S.bc,.slice S.c n.cons.length S.cc,.slice S.m n.mems.length S.mc,.slice S.a n.ands.length S.ac,.slice a n.nodes.length c,.slice d L.length cd] 102
  have hM:=gBox_new w n S (.slice a n.nodes.length c) (.slice d L.length cd) 102
  have hg:=h.later hbx (by simp:w.heap.size≤w.heap.size+1)
  have hl:=ht.len
  have hv0:(0:Int)≤(v:Int):=by omega
  have hv1:(v:Int)<(L.length:Int):=by omega
  clear hl
  generalize hw1:World.alloc w (.cells #[.int .i64 n.vars,.slice S.i n.inputs.length S.ic,.slice S.l n.latches.length S.lc,.slice S.o n.outs.length S.oc,.slice S.b n.bads.length S.bc,.slice S.c n.cons.length S.cc,.slice S.m n.mems.length S.mc,.slice S.a n.ands.length S.ac,.slice a n.nodes.length c,.slice d L.length cd] 102)=w1 at hbx hM hg
  have e9:=hM.n9
  rcases ht.here v hv with ⟨q1,q2⟩ | ⟨j,x,q1,q2,q3⟩
  · obtain ⟨b,o,hS,hbB,hcell⟩:=hg.defs.at q1
    have m0:=hcell v _ q1
    subst hS
    rw [q2]
    have HB:=Lib.hid hbx
    clear hcell hg h ht hG hbx hM q1 q2
    go_enter Tryz.func113,Tryz.ntmps113
    go_wp2_with fail
    go_ret
    exact ⟨none,0,rfl,fun h=>absurd rfl h,Src.nil,HB.out⟩
  · obtain ⟨b,o,hS,hbB,hcell⟩:=hg.defs.at q1
    have m0:=hcell v _ q1
    subst hS
    obtain ⟨bn,on,hSn,hbn,hcn⟩:=hg.nodes.at q2
    obtain ⟨t0,t1,t2⟩:=hcn j x q2
    subst hSn
    have hjl:=lt_of_some q2
    have hjI:(j:Int)<(n.nodes.length:Int):=by omega
    have hj0:(0:Int)≤(j:Int):=by omega
    have hjne:((j:Int) == -1)=false:=by simp
    have hxm:=mem_of_some q2
    have hf0:∀ f∈x.nf,0≤f:=fun f hf=>(hG.lits x hxm f hf).1
    have hfl:=(hG.lens x hxm).1
    obtain ⟨e0,e1,e2,e3,e4,e5,e6,e7,e8⟩:=hM.net
    have e10:=hM.n8
    have hbnl:bn<w1.heap.size:=Nat.lt_of_lt_of_le hbn (by omega)
    have hbl:b<w1.heap.size:=Nat.lt_of_lt_of_le hbB (by omega)
    have HK:=Lib.hid fun (W:World) (hW:Below w1.heap.size w1 W)=>show ((W.cell? ⟨w.heap.size,0,none⟩=some (.int .i64 n.vars)∧W.cell? ⟨w.heap.size,1,none⟩=some (.slice S.i n.inputs.length S.ic)∧W.cell? ⟨w.heap.size,2,none⟩=some (.slice S.l n.latches.length S.lc)∧W.cell? ⟨w.heap.size,3,none⟩=some (.slice S.o n.outs.length S.oc)∧W.cell? ⟨w.heap.size,4,none⟩=some (.slice S.b n.bads.length S.bc)∧W.cell? ⟨w.heap.size,5,none⟩=some (.slice S.c n.cons.length S.cc)∧W.cell? ⟨w.heap.size,6,none⟩=some (.slice S.m n.mems.length S.mc)∧W.cell? ⟨w.heap.size,7,none⟩=some (.slice S.a n.ands.length S.ac)∧W.cell? ⟨w.heap.size,8,none⟩=some (.slice (some ⟨bn,on,none⟩) n.nodes.length c)∧W.cell? ⟨w.heap.size,9,none⟩=some (.slice (some ⟨b,o,none⟩) L.length cd)∧W.cell? ⟨b,o+v,none⟩=some (.int .i64 (j:Int))∧W.cell? ⟨bn,on+j*3,none⟩=some (.bool x.nr)∧W.cell? ⟨bn,on+j*3+1,none⟩=some (.int .i64 x.nm)∧W.cell? ⟨bn,on+j*3+2,none⟩=some (.int .i64 x.na))∧Hid (Below w1.heap.size w1 W)) from
      ⟨⟨(hM.below hW e8).net.n0,(hM.below hW e8).net.n1,(hM.below hW e8).net.n2,(hM.below hW e8).net.n3,(hM.below hW e8).net.n4,(hM.below hW e8).net.n5,(hM.below hW e8).net.n6,(hM.below hW e8).net.n7,(hM.below hW e8).n8,(hM.below hW e8).n9,(hW.cell (p:=⟨b,o+v,none⟩) hbl).trans m0,(hW.cell (p:=⟨bn,on+j*3,none⟩) hbnl).trans t0,(hW.cell (p:=⟨bn,on+j*3+1,none⟩) hbnl).trans t1,(hW.cell (p:=⟨bn,on+j*3+2,none⟩) hbnl).trans t2⟩,Lib.hid hW⟩
    have HD:=Lib.hid fun (W:World) (hW:((W.cell? ⟨w.heap.size,0,none⟩=some (.int .i64 n.vars)∧W.cell? ⟨w.heap.size,1,none⟩=some (.slice S.i n.inputs.length S.ic)∧W.cell? ⟨w.heap.size,2,none⟩=some (.slice S.l n.latches.length S.lc)∧W.cell? ⟨w.heap.size,3,none⟩=some (.slice S.o n.outs.length S.oc)∧W.cell? ⟨w.heap.size,4,none⟩=some (.slice S.b n.bads.length S.bc)∧W.cell? ⟨w.heap.size,5,none⟩=some (.slice S.c n.cons.length S.cc)∧W.cell? ⟨w.heap.size,6,none⟩=some (.slice S.m n.mems.length S.mc)∧W.cell? ⟨w.heap.size,7,none⟩=some (.slice S.a n.ands.length S.ac)∧W.cell? ⟨w.heap.size,8,none⟩=some (.slice (some ⟨bn,on,none⟩) n.nodes.length c)∧W.cell? ⟨w.heap.size,9,none⟩=some (.slice (some ⟨b,o,none⟩) L.length cd)∧W.cell? ⟨b,o+v,none⟩=some (.int .i64 (j:Int))∧W.cell? ⟨bn,on+j*3,none⟩=some (.bool x.nr)∧W.cell? ⟨bn,on+j*3+1,none⟩=some (.int .i64 x.nm)∧W.cell? ⟨bn,on+j*3+2,none⟩=some (.int .i64 x.na))∧Hid (Below w1.heap.size w1 W)))=>literals_node n S (.slice (some ⟨bn,on,none⟩) n.nodes.length c) (.slice (some ⟨b,o,none⟩) L.length cd) W x (NetAt.later hg.net (hW.2.out.mono (by omega)) (Nat.le_trans (by omega) hW.2.out.size)) hxm
    have HT:=Lib.hid fun (W V':World) (hW:((W.cell? ⟨w.heap.size,0,none⟩=some (.int .i64 n.vars)∧W.cell? ⟨w.heap.size,1,none⟩=some (.slice S.i n.inputs.length S.ic)∧W.cell? ⟨w.heap.size,2,none⟩=some (.slice S.l n.latches.length S.lc)∧W.cell? ⟨w.heap.size,3,none⟩=some (.slice S.o n.outs.length S.oc)∧W.cell? ⟨w.heap.size,4,none⟩=some (.slice S.b n.bads.length S.bc)∧W.cell? ⟨w.heap.size,5,none⟩=some (.slice S.c n.cons.length S.cc)∧W.cell? ⟨w.heap.size,6,none⟩=some (.slice S.m n.mems.length S.mc)∧W.cell? ⟨w.heap.size,7,none⟩=some (.slice S.a n.ands.length S.ac)∧W.cell? ⟨w.heap.size,8,none⟩=some (.slice (some ⟨bn,on,none⟩) n.nodes.length c)∧W.cell? ⟨w.heap.size,9,none⟩=some (.slice (some ⟨b,o,none⟩) L.length cd)∧W.cell? ⟨b,o+v,none⟩=some (.int .i64 (j:Int))∧W.cell? ⟨bn,on+j*3,none⟩=some (.bool x.nr)∧W.cell? ⟨bn,on+j*3+1,none⟩=some (.int .i64 x.nm)∧W.cell? ⟨bn,on+j*3+2,none⟩=some (.int .i64 x.na))∧Hid (Below w1.heap.size w1 W))) (hV:Below W.heap.size W V')=>HK.out V' (below_on hW.2.out hV)
    have HB:=Lib.hid hbx
    have HQ:=Lib.hid (And.intro q3 (And.intro hf0 hfl))
    clear hcell hg h ht hG hM q1 q2 q3 hcn hbn hbnl hbl hbB hf0 hfl hxm hbx
    go_enter Tryz.func113,Tryz.ntmps113
    go_wp2_with fail
    clear hw1
    go_region_held3 (fun W=>((W.cell? ⟨w.heap.size,0,none⟩=some (.int .i64 n.vars)∧W.cell? ⟨w.heap.size,1,none⟩=some (.slice S.i n.inputs.length S.ic)∧W.cell? ⟨w.heap.size,2,none⟩=some (.slice S.l n.latches.length S.lc)∧W.cell? ⟨w.heap.size,3,none⟩=some (.slice S.o n.outs.length S.oc)∧W.cell? ⟨w.heap.size,4,none⟩=some (.slice S.b n.bads.length S.bc)∧W.cell? ⟨w.heap.size,5,none⟩=some (.slice S.c n.cons.length S.cc)∧W.cell? ⟨w.heap.size,6,none⟩=some (.slice S.m n.mems.length S.mc)∧W.cell? ⟨w.heap.size,7,none⟩=some (.slice S.a n.ands.length S.ac)∧W.cell? ⟨w.heap.size,8,none⟩=some (.slice (some ⟨bn,on,none⟩) n.nodes.length c)∧W.cell? ⟨w.heap.size,9,none⟩=some (.slice (some ⟨b,o,none⟩) L.length cd)∧W.cell? ⟨b,o+v,none⟩=some (.int .i64 (j:Int))∧W.cell? ⟨bn,on+j*3,none⟩=some (.bool x.nr)∧W.cell? ⟨bn,on+j*3+1,none⟩=some (.int .i64 x.nm)∧W.cell? ⟨bn,on+j*3+2,none⟩=some (.int .i64 x.na))∧Hid (Below w1.heap.size w1 W))) (first | exact HK.out _ (Below.refl _ _).drew | exact HT.out _ _ (by assumption) (by assumption) | go_keep)
      (first
        | (go_at_call 163;refine (HD.out _ (by assumption)).mono ?_;rintro e w5 ⟨A5,c5,rfl,hs5,hb5⟩)
        | fail)
    all_goals
      have HE:=Lib.hid (below_on HB.out (show ((w5.cell? ⟨w.heap.size,0,none⟩=some (.int .i64 n.vars)∧w5.cell? ⟨w.heap.size,1,none⟩=some (.slice S.i n.inputs.length S.ic)∧w5.cell? ⟨w.heap.size,2,none⟩=some (.slice S.l n.latches.length S.lc)∧w5.cell? ⟨w.heap.size,3,none⟩=some (.slice S.o n.outs.length S.oc)∧w5.cell? ⟨w.heap.size,4,none⟩=some (.slice S.b n.bads.length S.bc)∧w5.cell? ⟨w.heap.size,5,none⟩=some (.slice S.c n.cons.length S.cc)∧w5.cell? ⟨w.heap.size,6,none⟩=some (.slice S.m n.mems.length S.mc)∧w5.cell? ⟨w.heap.size,7,none⟩=some (.slice S.a n.ands.length S.ac)∧w5.cell? ⟨w.heap.size,8,none⟩=some (.slice (some ⟨bn,on,none⟩) n.nodes.length c)∧w5.cell? ⟨w.heap.size,9,none⟩=some (.slice (some ⟨b,o,none⟩) L.length cd)∧w5.cell? ⟨b,o+v,none⟩=some (.int .i64 (j:Int))∧w5.cell? ⟨bn,on+j*3,none⟩=some (.bool x.nr)∧w5.cell? ⟨bn,on+j*3+1,none⟩=some (.int .i64 x.nm)∧w5.cell? ⟨bn,on+j*3+2,none⟩=some (.int .i64 x.na))∧Hid (Below w1.heap.size w1 w5)) from by assumption).2.out)
      have HS5:=Lib.hid hs5
      clear hs5 hb5 e0 e1 e2 e3 e4 e5 e6 e7 e8 e9 e10 t0 t1 t2 m0 HK HD HT
      rename_i hrest
      clear hrest
      generalize hnf:x.nf=nf at *
      go_wp2_with fail
      go_loopg [5,7,26] nf.length (fun m s5 _ s26 wx=>∃ k:Nat,k+m=nf.length∧s26=.int .i64 k∧Own w5.heap.size w5 wx s5 ((nf.take k).map (· / 2)))
      case atStart=>exact ⟨0,by omega,rfl,by simpa using Own.nil w5 _ (Nat.le_refl _)⟩
      case round =>
        obtain ⟨k,hk,rfl,hO⟩:=hrel
        generalize gk=m at *
        by_cases hlt:k<nf.length
        · obtain ⟨f,hf⟩:=some_of_lt hlt
          have hltI:(k:Int)<(nf.length:Int):=by omega
          have hk0:(0:Int)≤(k:Int):=by omega
          have hkb:(k:Int)≤1000:=by have:=HQ.out.2.2;omega
          obtain ⟨b6,o6,hS6,_,hc6⟩:=(HS5.out.own hO).at hf
          have m6:=hc6 k f hf
          have hlo:((nf.take k).map (· / 2)).length≤1000000:=by simp;omega
          have HX:=Lib.hid (show (nf.take (k+1)).map (· / 2)=(nf.take k).map (· / 2)++[f / 2] by rw [take_some hf];simp)
          subst hS6
          clear hc6 hf
          go_wp2_with (first | (go_at_call 164;refine (tvar_any _ _).mono ?_;rintro e w' ⟨rfl,rfl⟩) | (at_builtin;refine wpl_one rfl _ _ rfl rfl hO rfl hlo ?_;intro v' w' hO2 hW))
          go_roundg (m - 1)
          case measure=>omega
          case rel=>exact ⟨k+1,by omega,by first | rfl | simp,by rw [HX.out];exact hO2⟩
        · have hltn:¬ ((k:Int)<(nf.length:Int)):=by omega
          have HX:=Lib.hid (show (nf.take k).map (· / 2)=nats (belowOf n.nodes v) by rw [HQ.out.1,halves_map HQ.out.2.1,List.take_of_length_le (by omega)])
          have HO:=Lib.hid hO
          clear hO
          go_wp2_with fail
          go_ret
          exact Left.highL (w1:=w5) ⟨_,rfl,HX.out ▸ HO.out⟩ HE.out
def tCells (x:PNode):List Value:=[.bool x.nr,.int .i64 x.nm,.int .i64 x.na]
structure OwnT (B:Nat) (w0 w:World) (v:Value) (D:List PNode):Prop where
  row:w.ownsRow B 165 3 v D.length (D.flatMap tCells)
  below:Below B w0 w
  size:B≤w.heap.size
theorem OwnT.lt {B:Nat} {w0 w:World} {v:Value} {D:List PNode} (h:OwnT B w0 w v D):∀ k,v.ownBlock=some k→B≤k∧k<w.heap.size:=fun k hk=>h.row.lt k hk
theorem OwnT.call {B:Nat} {w0 w w':World} {v:Value} {D:List PNode} (h:OwnT B w0 w v D) (hb:Below w.heap.size w w'):OwnT B w0 w' v D:=by
  refine ⟨h.row.kept (row:=none) ⟨hb.os,hb.tape,hb.output,hb.size,fun k hk _=>hb.block k hk⟩ ?_,h.below.trans (hb.mono h.size),Nat.le_trans h.size hb.size⟩
  cases hv:v.ownBlock with
  | none=>exact .inl rfl
  | some k=>exact .inr (by simp)
theorem OwnT.alloc {B:Nat} {w0 w:World} {v:Value} {D:List PNode} (h:OwnT B w0 w v D) (o:Obj):OwnT B w0 (w.alloc o) v D:=h.call ((Below.refl _ w).alloc (Nat.le_refl _) o)
theorem OwnT.set {B:Nat} {w0 w:World} {v u:Value} {D:List PNode} {p j:Nat} (h:OwnT B w0 w v D) (hp:B≤p) (hne:v.ownBlock≠some p):OwnT B w0 (w.setCell ⟨p,j,none⟩ u) v D :=
  ⟨h.row.kept (grown_set w ⟨p,j,none⟩ u) (.inr hne),h.below.setCell hp u,by have:=h.size;simp [World.setCell];omega⟩
theorem OwnT.form {B:Nat} {w0 w:World} {v:Value} {D:List PNode} (h:OwnT B w0 w v D):∃ A c,v=.slice A D.length c∧Row w.heap.size 3 (TNodeAt w) A D∧D.length≤c∧c≤9223372036854775807:=by
  rcases h.row.2 with ⟨h1,h0⟩ | ⟨g,cap,cur,hv,hb,hg,hnc,hcm,hs,ht⟩
  · have:D=[]:=List.eq_nil_of_length_eq_zero h0
    subst this
    exact ⟨none,0,h1,Row.nil,Nat.le_refl _,by omega⟩
  · refine ⟨_,cap,hv,fun _=>⟨g,0,rfl,lt_of_row hg,fun j x hj=>?_⟩,hnc,by unfold maxLen at hcm;omega⟩
    have hrow:=h.row
    rw [hv] at hrow
    have hjl:=lt_of_some hj
    have hc:∀ i u,i<3→(tCells x)[i]?=some u→w.cell? ⟨g,j*3+i,none⟩=some u:=fun i u hi hu=>by
      rw [hrow.cellAt (j*3+i) (by omega),flat_get tCells 3 (fun _=>rfl) D j i x hj hi,hu]
    rw [Nat.zero_add]
    exact ⟨hc 0 _ (by omega) rfl,hc 1 _ (by omega) rfl,hc 2 _ (by omega) rfl⟩
theorem tnode_info:(Tryz.prog.info? 165).map (fun i=>(i.zero,i.size,i.bytes))=some (some (.agg #[.bool false,.int .i64 0,.int .i64 0]),3,24):=by kernel_rfl
theorem run_tnode {w w0:World} {B:Nat} {v:Value} {D:List PNode} (hown:OwnT B w0 w v D) (x:PNode) (ty:TypeId) (hb1:D.length≤1000000) :
    ∃ v' w',(Builtin.append_ #[100,100] ty #[v,.slice (some ⟨w.heap.size,0,none⟩) 1 1]).run Tryz.prog (w.alloc (.cells (tCells x).toArray 165))=.ok v' w'∧OwnT B w0 w' v' (D++[x])∧Went (w.alloc (.cells (tCells x).toArray 165)) v v' w':=by
  obtain ⟨i0,hi,hz0,hz1,hz2⟩:=info_parts tnode_info
  have hO:=hown.alloc (.cells (tCells x).toArray 165)
  obtain ⟨v',w',hr,g2,g3,_,g5⟩:=run_append_own_at (P:=Tryz.prog) (w.alloc (.cells (tCells x).toArray 165)) B 100 ty 165 i0 _ 3 24 Tryz.underlying100 hi hz0 hz1 hz2 rfl (by decide)
    v D.length (D.flatMap tCells) hO.row ⟨w.heap.size,0,none⟩ 1 1 (tCells x) rfl
    (fun j u hj=>by
      rw [show ((⟨w.heap.size,0,none⟩:Addr).add j)=⟨w.heap.size,0+j,none⟩ from Addr.add_lit _ _ _,cell_of_row _ w.heap.size (0+j) _ _ _ (heap_alloc_new w _),Nat.zero_add,List.getElem?_toArray]
      exact hj)
    (fun u hu=>by simp only [tCells,List.mem_cons,List.not_mem_nil,or_false] at hu;rcases hu with rfl | rfl | rfl <;> rfl) (by unfold maxLen;omega) (by omega) hO.size
  refine ⟨v',w',hr,⟨?_,hO.below.grown g3 hO.size (fun k hk=>(hO.lt k hk).1),Nat.le_trans hO.size g3.size⟩,g3,g5⟩
  rw [List.length_append,List.flatMap_append]
  simpa using g2
structure Draft (B:Nat) (w0 w:World) (gb db:Nat) (n:PNet) (S:NetS) (p:Value) (D:List PNode) (L:List Int):Prop where
  box:w.heap[gb]?=some (.cells #[.int .i64 n.vars,.slice S.i n.inputs.length S.ic,.slice S.l n.latches.length S.lc,.slice S.o n.outs.length S.oc,.slice S.b n.bads.length S.bc,.slice S.c n.cons.length S.cc,.slice S.m n.mems.length S.mc,.slice S.a n.ands.length S.ac,p,.slice (some ⟨db,0,none⟩) L.length L.length] 102 (0,0))
  own:OwnT B w0 w p D
  ints:Ints w db L
  ne1:p.ownBlock≠some gb
  ne2:p.ownBlock≠some db
  ne3:gb≠db
  ge1:B≤gb
  ge2:B≤db
theorem Draft.call {B:Nat} {w0 w w':World} {gb db:Nat} {n:PNet} {S:NetS} {p:Value} {D:List PNode} {L:List Int} (h:Draft B w0 w gb db n S p D L) (hb:Below w.heap.size w w'):Draft B w0 w' gb db n S p D L :=
  ⟨(hb.block gb (lt_of_row h.box)).trans h.box,h.own.call hb,h.ints.same (hb.block db h.ints.lt),h.ne1,h.ne2,h.ne3,h.ge1,h.ge2⟩
theorem Draft.cell {B:Nat} {w0 w:World} {gb db:Nat} {n:PNet} {S:NetS} {p:Value} {D:List PNode} {L:List Int} (h:Draft B w0 w gb db n S p D L) {j:Nat} {u:Value} (hj:(#[.int .i64 n.vars,.slice S.i n.inputs.length S.ic,.slice S.l n.latches.length S.lc,.slice S.o n.outs.length S.oc,.slice S.b n.bads.length S.bc,.slice S.c n.cons.length S.cc,.slice S.m n.mems.length S.mc,.slice S.a n.ands.length S.ac,p,.slice (some ⟨db,0,none⟩) L.length L.length]:Array Value)[j]?=some u):w.cell? ⟨gb,j,none⟩=some u:=by
  rw [cell_of_row w gb j _ _ (0,0) h.box]
  exact hj
theorem Draft.put {B:Nat} {w0 w:World} {gb db:Nat} {n:PNet} {S:NetS} {p:Value} {D:List PNode} {L:List Int} (h:Draft B w0 w gb db n S p D L) (j:Nat) (k:Int):Draft B w0 (w.setCell ⟨db,j,none⟩ (.int .i64 k)) gb db n S p D (L.set j k):=by
  refine ⟨(heap_setCell_other _ _ _ _ h.ne3).trans ?_,h.own.set h.ge2 h.ne2,h.ints.set j k,h.ne1,h.ne2,h.ne3,h.ge1,h.ge2⟩
  rw [List.length_set]
  exact h.box
section
variable {P:Program} {ops:Array Oper} {o:Oper} {act:Act} {Q:Exit→Act→World→Prop}
theorem step_tnode (hP:P=Tryz.prog) {w w0:World} {B g:Nat} {v:Value} {D:List PNode} {K:Act→World→Prop} {E:Prop} (hgd:o.guard=none) (s y:Operand) (ho:o.op=.call { callee:=.builtin .append,args:=#[s,y],argTypes:=#[100,100] })
    (hs:act.eval s=v) (hown:OwnT B w0 w v D) (x:PNode) (hx:act.eval y=.slice (some ⟨g,0,none⟩) 1 1) (hg:g=w.heap.size) (hb1:D.length≤1000000)
    (h:∀ v' w',OwnT B w0 w' v' (D++[x])→Went (w.alloc (.cells (tCells x).toArray 165)) v v' w'→K (act.put o.dst v') w') :
    if Region.wanted o (yielded ops act.tmps)=true then Oper.wp P o act (w.alloc (.cells (tCells x).toArray 165)) K Q else E:=by
  subst hg
  subst hP
  have hw:Region.wanted o (yielded ops act.tmps)=true:=by simp [Region.wanted,hgd]
  rw [if_pos hw]
  obtain ⟨v',w',hr,h3,h4⟩:=run_tnode hown x o.type hb1
  unfold Oper.wp execOp
  simp only [ho,resolve,invoke,builtin,Sem.run_bind,Sem.run_pure,Result.andThen_ok,List.map_toArray,List.map_cons,List.map_nil,hs,hx,hr]
  exact h v' w' h3 h4
end
theorem draft_done {B:Nat} {w0 w w':World} {gb db:Nat} {n:PNet} {S:NetS} {v v':Value} {D:List PNode} {L L':List Int} {x:PNode} (h:Draft B w0 w gb db n S v D (putAll L L' D.length)) {l:List Int} (e:L'=l) (hO:OwnT B w0 w' v' (D++[x])) (hW:Went (w.drew.alloc (.cells (tCells x).toArray 165)) v v' w') :
    Draft B w0 (w'.setCell ⟨gb,8,none⟩ v') gb db n S v' (D++[x]) (putAll L l D.length):=by
  subst e
  have hg:gb<(w.drew.alloc (.cells (tCells x).toArray 165)).heap.size:=by have:=lt_of_row h.box;simp;omega
  have hd:db<(w.drew.alloc (.cells (tCells x).toArray 165)).heap.size:=by have:=h.ints.lt;simp;omega
  obtain ⟨g1,g2,_⟩:=hW.other hg h.ne1
  obtain ⟨d1,d2,_⟩:=hW.other hd h.ne2
  have b:=g1.trans (alloc_old h.box)
  have i:=h.ints.same (w':=w') (d1.trans (Below.heap_alloc w.drew _ db h.ints.lt))
  exact ⟨heap_setCell_same w' gb 8 _ _ v' b,hO.set h.ge1 g2,i.same (heap_setCell_other _ _ _ _ (fun e=>h.ne3 e.symm)),g2,d2,h.ne3,h.ge1,h.ge2⟩
set_option maxRecDepth 100000 in
set_option maxHeartbeats 4000000 in
theorem add_any (n:PNet) (S:NetS) (B:Nat) (w0 w:World) (gb db:Nat) (p:Value) (D:List PNode) (L:List Int) (x:PNode) (h:Draft B w0 w gb db n S p D L) (hn:NetAt w B S n) (hx:x∈n.nodes) (hm:n.modest) (ht:∀ m∈n.mems,m.told) (hF:∀ m∈n.mems,m.Fit)
    (hD:D.length≤1000) (hv:∀ u∈x.nv,1≤u∧u<(L.length:Int)) (hxl:x.nv.length≤1000) :
    Calls Tryz.prog 111 #[.pointer (some ⟨gb,0,none⟩),.agg #[.bool x.nr,.int .i64 x.nm,.int .i64 x.na]] w fun e w'=>∃ p',e=.returned (.tuple #[])∧Draft B w0 w' gb db n S p' (D++[x]) (putAll L x.nv D.length):=by
  have hbx:=below_box w #[.bool x.nr,.int .i64 x.nm,.int .i64 x.na] 165
  have hd:=h.call hbx
  have tb:=tBox_new w x 165
  have hN:=NetAt.later hn (hbx.mono h.own.size) (Nat.le_trans h.own.size hbx.size)
  obtain ⟨A,c,rfl,hrow,hcl,hcm⟩:=h.own.form
  have hgl:=lt_of_row hd.box
  obtain ⟨t0,t1,t2⟩:=tb
  have hnl:w.heap.size<(w.alloc (.cells #[.bool x.nr,.int .i64 x.nm,.int .i64 x.na] 165)).heap.size:=by simp
  generalize hw1:w.alloc (.cells #[.bool x.nr,.int .i64 x.nm,.int .i64 x.na] 165)=w1 at *
  have e0:=hd.cell (j:=0) rfl
  have e1:=hd.cell (j:=1) rfl
  have e2:=hd.cell (j:=2) rfl
  have e3:=hd.cell (j:=3) rfl
  have e4:=hd.cell (j:=4) rfl
  have e5:=hd.cell (j:=5) rfl
  have e6:=hd.cell (j:=6) rfl
  have e7:=hd.cell (j:=7) rfl
  have e8:=hd.cell (j:=8) rfl
  have e9:=hd.cell (j:=9) rfl
  have HK:=Lib.hid fun (W:World) (hW:Below w1.heap.size w1 W)=>show ((W.cell? ⟨gb,0,none⟩=some (.int .i64 n.vars)∧W.cell? ⟨gb,1,none⟩=some (.slice S.i n.inputs.length S.ic)∧W.cell? ⟨gb,2,none⟩=some (.slice S.l n.latches.length S.lc)∧W.cell? ⟨gb,3,none⟩=some (.slice S.o n.outs.length S.oc)∧W.cell? ⟨gb,4,none⟩=some (.slice S.b n.bads.length S.bc)∧W.cell? ⟨gb,5,none⟩=some (.slice S.c n.cons.length S.cc)∧W.cell? ⟨gb,6,none⟩=some (.slice S.m n.mems.length S.mc)∧W.cell? ⟨gb,7,none⟩=some (.slice S.a n.ands.length S.ac)∧W.cell? ⟨gb,8,none⟩=some (.slice A D.length c)∧W.cell? ⟨gb,9,none⟩=some (.slice (some ⟨db,0,none⟩) L.length L.length)∧W.cell? ⟨w.heap.size,0,none⟩=some (.bool x.nr)∧W.cell? ⟨w.heap.size,1,none⟩=some (.int .i64 x.nm)∧W.cell? ⟨w.heap.size,2,none⟩=some (.int .i64 x.na))∧Hid (Below w1.heap.size w1 W)) from
    ⟨⟨(hW.cell (p:=⟨gb,0,none⟩) hgl).trans e0,(hW.cell (p:=⟨gb,1,none⟩) hgl).trans e1,(hW.cell (p:=⟨gb,2,none⟩) hgl).trans e2,(hW.cell (p:=⟨gb,3,none⟩) hgl).trans e3,(hW.cell (p:=⟨gb,4,none⟩) hgl).trans e4,(hW.cell (p:=⟨gb,5,none⟩) hgl).trans e5,(hW.cell (p:=⟨gb,6,none⟩) hgl).trans e6,(hW.cell (p:=⟨gb,7,none⟩) hgl).trans e7,(hW.cell (p:=⟨gb,8,none⟩) hgl).trans e8,(hW.cell (p:=⟨gb,9,none⟩) hgl).trans e9,(hW.cell (p:=⟨w.heap.size,0,none⟩) hnl).trans t0,(hW.cell (p:=⟨w.heap.size,1,none⟩) hnl).trans t1,(hW.cell (p:=⟨w.heap.size,2,none⟩) hnl).trans t2⟩,Lib.hid hW⟩
  have HV:=Lib.hid fun (W:World) (hW:((W.cell? ⟨gb,0,none⟩=some (.int .i64 n.vars)∧W.cell? ⟨gb,1,none⟩=some (.slice S.i n.inputs.length S.ic)∧W.cell? ⟨gb,2,none⟩=some (.slice S.l n.latches.length S.lc)∧W.cell? ⟨gb,3,none⟩=some (.slice S.o n.outs.length S.oc)∧W.cell? ⟨gb,4,none⟩=some (.slice S.b n.bads.length S.bc)∧W.cell? ⟨gb,5,none⟩=some (.slice S.c n.cons.length S.cc)∧W.cell? ⟨gb,6,none⟩=some (.slice S.m n.mems.length S.mc)∧W.cell? ⟨gb,7,none⟩=some (.slice S.a n.ands.length S.ac)∧W.cell? ⟨gb,8,none⟩=some (.slice A D.length c)∧W.cell? ⟨gb,9,none⟩=some (.slice (some ⟨db,0,none⟩) L.length L.length)∧W.cell? ⟨w.heap.size,0,none⟩=some (.bool x.nr)∧W.cell? ⟨w.heap.size,1,none⟩=some (.int .i64 x.nm)∧W.cell? ⟨w.heap.size,2,none⟩=some (.int .i64 x.na))∧Hid (Below w1.heap.size w1 W)))=>variables_any n S (.slice A D.length c) (.slice (some ⟨db,0,none⟩) L.length L.length) W x (NetAt.later hN hW.2.out hW.2.out.size) hx hm ht hF
  have HT:=Lib.hid fun (W V':World) (hW:((W.cell? ⟨gb,0,none⟩=some (.int .i64 n.vars)∧W.cell? ⟨gb,1,none⟩=some (.slice S.i n.inputs.length S.ic)∧W.cell? ⟨gb,2,none⟩=some (.slice S.l n.latches.length S.lc)∧W.cell? ⟨gb,3,none⟩=some (.slice S.o n.outs.length S.oc)∧W.cell? ⟨gb,4,none⟩=some (.slice S.b n.bads.length S.bc)∧W.cell? ⟨gb,5,none⟩=some (.slice S.c n.cons.length S.cc)∧W.cell? ⟨gb,6,none⟩=some (.slice S.m n.mems.length S.mc)∧W.cell? ⟨gb,7,none⟩=some (.slice S.a n.ands.length S.ac)∧W.cell? ⟨gb,8,none⟩=some (.slice A D.length c)∧W.cell? ⟨gb,9,none⟩=some (.slice (some ⟨db,0,none⟩) L.length L.length)∧W.cell? ⟨w.heap.size,0,none⟩=some (.bool x.nr)∧W.cell? ⟨w.heap.size,1,none⟩=some (.int .i64 x.nm)∧W.cell? ⟨w.heap.size,2,none⟩=some (.int .i64 x.na))∧Hid (Below w1.heap.size w1 W))) (hV:Below W.heap.size W V')=>HK.out V' (below_on hW.2.out hV)
  have hgw:=lt_of_row h.box
  have hdw:=h.ints.lt
  have HD:=Lib.hid (And.intro hd (And.intro hD (And.intro hv (And.intro hxl (And.intro hgw hdw)))))
  clear hgw hdw
  clear h hn hx hm ht hF hD hv hxl hbx hd hN hrow
  go_enter Tryz.func111,Tryz.ntmps111
  go_wp2_with fail
  clear hw1
  go_region_held3 (fun W=>((W.cell? ⟨gb,0,none⟩=some (.int .i64 n.vars)∧W.cell? ⟨gb,1,none⟩=some (.slice S.i n.inputs.length S.ic)∧W.cell? ⟨gb,2,none⟩=some (.slice S.l n.latches.length S.lc)∧W.cell? ⟨gb,3,none⟩=some (.slice S.o n.outs.length S.oc)∧W.cell? ⟨gb,4,none⟩=some (.slice S.b n.bads.length S.bc)∧W.cell? ⟨gb,5,none⟩=some (.slice S.c n.cons.length S.cc)∧W.cell? ⟨gb,6,none⟩=some (.slice S.m n.mems.length S.mc)∧W.cell? ⟨gb,7,none⟩=some (.slice S.a n.ands.length S.ac)∧W.cell? ⟨gb,8,none⟩=some (.slice A D.length c)∧W.cell? ⟨gb,9,none⟩=some (.slice (some ⟨db,0,none⟩) L.length L.length)∧W.cell? ⟨w.heap.size,0,none⟩=some (.bool x.nr)∧W.cell? ⟨w.heap.size,1,none⟩=some (.int .i64 x.nm)∧W.cell? ⟨w.heap.size,2,none⟩=some (.int .i64 x.na))∧Hid (Below w1.heap.size w1 W))) (first | exact HK.out _ (Below.refl _ _).drew | exact HT.out _ _ (by assumption) (by assumption) | go_keep)
    (first
      | (go_at_call 161;refine (HV.out _ (by assumption)).mono ?_;rintro e w5 ⟨A5,c5,rfl,hH5,hs5,hb5⟩)
      | fail)
  all_goals
    have hb6:Below w1.heap.size w1 w5:=(show ((w5.cell? ⟨gb,0,none⟩=some (.int .i64 n.vars)∧w5.cell? ⟨gb,1,none⟩=some (.slice S.i n.inputs.length S.ic)∧w5.cell? ⟨gb,2,none⟩=some (.slice S.l n.latches.length S.lc)∧w5.cell? ⟨gb,3,none⟩=some (.slice S.o n.outs.length S.oc)∧w5.cell? ⟨gb,4,none⟩=some (.slice S.b n.bads.length S.bc)∧w5.cell? ⟨gb,5,none⟩=some (.slice S.c n.cons.length S.cc)∧w5.cell? ⟨gb,6,none⟩=some (.slice S.m n.mems.length S.mc)∧w5.cell? ⟨gb,7,none⟩=some (.slice S.a n.ands.length S.ac)∧w5.cell? ⟨gb,8,none⟩=some (.slice A D.length c)∧w5.cell? ⟨gb,9,none⟩=some (.slice (some ⟨db,0,none⟩) L.length L.length)∧w5.cell? ⟨w.heap.size,0,none⟩=some (.bool x.nr)∧w5.cell? ⟨w.heap.size,1,none⟩=some (.int .i64 x.nm)∧w5.cell? ⟨w.heap.size,2,none⟩=some (.int .i64 x.na))∧Hid (Below w1.heap.size w1 w5)) from by assumption).2.out
    have hm5:=(show ((w5.cell? ⟨gb,0,none⟩=some (.int .i64 n.vars)∧w5.cell? ⟨gb,1,none⟩=some (.slice S.i n.inputs.length S.ic)∧w5.cell? ⟨gb,2,none⟩=some (.slice S.l n.latches.length S.lc)∧w5.cell? ⟨gb,3,none⟩=some (.slice S.o n.outs.length S.oc)∧w5.cell? ⟨gb,4,none⟩=some (.slice S.b n.bads.length S.bc)∧w5.cell? ⟨gb,5,none⟩=some (.slice S.c n.cons.length S.cc)∧w5.cell? ⟨gb,6,none⟩=some (.slice S.m n.mems.length S.mc)∧w5.cell? ⟨gb,7,none⟩=some (.slice S.a n.ands.length S.ac)∧w5.cell? ⟨gb,8,none⟩=some (.slice A D.length c)∧w5.cell? ⟨gb,9,none⟩=some (.slice (some ⟨db,0,none⟩) L.length L.length)∧w5.cell? ⟨w.heap.size,0,none⟩=some (.bool x.nr)∧w5.cell? ⟨w.heap.size,1,none⟩=some (.int .i64 x.nm)∧w5.cell? ⟨w.heap.size,2,none⟩=some (.int .i64 x.na))∧Hid (Below w1.heap.size w1 w5)) from by assumption).1
    have HS0:=Lib.hid (show Draft B w0 w5 gb db n S (.slice A D.length c) D (putAll L (x.nv.take 0) D.length)∧High w5 w1.heap.size A5 x.nv∧TBox w5 w.heap.size x from ⟨HD.out.1.call hb6,hH5,⟨hm5.2.2.2.2.2.2.2.2.2.2.1,hm5.2.2.2.2.2.2.2.2.2.2.2.1,hm5.2.2.2.2.2.2.2.2.2.2.2.2⟩⟩)
    clear hb6 hm5 hH5 hs5 hb5 e0 e1 e2 e3 e4 e5 e6 e7 e8 e9 t0 t1 t2 HK HV HT
    rename_i hrest
    clear hrest
    go_wp2_with fail
    go_loopg [5,12] x.nv.length (fun m _ s12 wx=>∃ k:Nat,k+m=x.nv.length∧s12=.int .i64 k∧Aside (Draft B w0 wx gb db n S (.slice A D.length c) D (putAll L (x.nv.take k) D.length)∧High wx w1.heap.size A5 x.nv∧TBox wx w.heap.size x))
    case atStart=>exact ⟨0,by omega,rfl,HS0.out⟩
    case round =>
      clear HS0
      obtain ⟨k,hk,rfl,HS⟩:=hrel
      generalize gk=m at *
      have e8:=HS.out.1.cell (j:=8) rfl
      have hlen:(putAll L (x.nv.take k) (D.length:Int)).length=L.length:=putAll_len _ _ _
      by_cases hlt:k<x.nv.length
      · obtain ⟨u,hu⟩:=some_of_lt hlt
        have hltI:(k:Int)<(x.nv.length:Int):=by omega
        have hk0:(0:Int)≤(k:Int):=by omega
        have hkb:(k:Int)≤1000:=by have:=HD.out.2.2.2.1;omega
        obtain ⟨b6,o6,hS6,_,hc6⟩:=HS.out.2.1.at hu
        have m6:=hc6 k u hu
        have e9:=HS.out.1.cell (j:=9) (u:=.slice (some ⟨db,0,none⟩) L.length L.length) (by rw [← hlen];rfl)
        obtain ⟨hu1,hu2⟩:=HD.out.2.2.1 u (mem_of_some hu)
        have hu0:0≤u:=by omega
        obtain ⟨l,hl⟩:=some_of_lt (show u.toNat<(putAll L (x.nv.take k) (D.length:Int)).length by omega)
        have m7:=HS.out.1.ints.cell hl
        have f7:=HS.out.1.ints.free u.toNat
        have HX:=Lib.hid hu
        subst hS6
        clear hc6 hu hl hlen
        go_wp2_with fail
        go_region
        all_goals
          go_wp2_with fail
          have HQ:=Lib.hid (show Draft B w0 (wr.setCell ⟨db,u.toNat,none⟩ (.int .i64 (D.length:Int))).drew gb db n S (.slice A D.length c) D (putAll L (x.nv.take (k+1)) D.length)∧High (wr.setCell ⟨db,u.toNat,none⟩ (.int .i64 (D.length:Int))).drew w1.heap.size (some ⟨b6,o6,none⟩) x.nv∧TBox (wr.setCell ⟨db,u.toNat,none⟩ (.int .i64 (D.length:Int))).drew w.heap.size x from by
            have hdl:=HD.out.2.2.2.2.2
            refine ⟨?_,?_,?_⟩
            · rw [take_some HX.out,putAll_snoc]
              exact (HS.out.1.put u.toNat D.length).call (Below.refl _ _).drew
            · exact HS.out.2.1.keeps ((Keeps.set (lo:=0) (hi:=w1.heap.size) wr (a:=⟨db,u.toNat,none⟩) (.int .i64 (D.length:Int)) (Nat.zero_le _) (by show db<w1.heap.size;omega)).trans (.of_below (Below.refl _ _).drew))
            · have hk2:∀ i,(wr.setCell ⟨db,u.toNat,none⟩ (.int .i64 (D.length:Int))).drew.cell? ⟨w.heap.size,i,none⟩=wr.cell? ⟨w.heap.size,i,none⟩:=fun i=>World.cell?_of_block (a:=⟨w.heap.size,i,none⟩) (heap_setCell_other wr ⟨db,u.toNat,none⟩ w.heap.size _ (by show w.heap.size≠db;omega))
              exact ⟨(hk2 0).trans HS.out.2.2.t0,(hk2 1).trans HS.out.2.2.t1,(hk2 2).trans HS.out.2.2.t2⟩)
          clear HS
          go_roundg (m - 1)
          case measure=>omega
          case rel=>exact ⟨k+1,by omega,by first | rfl | simp,HQ.out⟩
      · have hltn:¬ ((k:Int)<(x.nv.length:Int)):=by omega
        obtain ⟨t0,t1,t2⟩:=HS.out.2.2
        have HL:=Lib.hid (show x.nv.take k=x.nv from List.take_of_length_le (by omega))
        have HO:=Lib.hid (HS.out.1.own.call (Below.refl wr.heap.size wr).drew)
        have HLN:=Lib.hid (show D.length≤1000000 by have:=HD.out.2.1;omega)
        have HGB:=Lib.hid (show gb<(wr.drew.alloc (.cells (tCells x).toArray 165)).heap.size∧(Value.slice A D.length c).ownBlock≠some gb∧(wr.drew.alloc (.cells (tCells x).toArray 165)).heap[gb]?=_ from ⟨by have:=lt_of_row HS.out.1.box;simp;omega,HS.out.1.ne1,alloc_old HS.out.1.box⟩)
        clear hlen
        have hgr:=lt_of_row HS.out.1.box
        go_wp2_with fail
        refine wp_region_held_drew (S:=fun _=>True) (by kernel_rfl) trivial (fun hHeld=>?_)
        refine wpAnyH_take (i:=0) (oi:=⟨_,_,_,_,_,_⟩) (v:=?_) rfl (by kernel_rfl) (by kernel_rfl) (by kernel_rfl) (fun _ _ _ h=>h) (Or.inl ⟨by rfl,?_⟩) (by assumption) ?_
        rotate_left
        · intro W hSw
          go_simp <;> with_reducible rfl
        try simp only [Act.put,List.setIfInBounds_toArray,List.set_cons_zero,List.set_cons_succ]
        refine wpAnyH_take (i:=1) (oi:=⟨_,_,_,_,_,_⟩) (v:=?_) rfl (by kernel_rfl) (by kernel_rfl) (by kernel_rfl) (fun _ _ _ h=>h) (Or.inl ⟨by rfl,?_⟩) (by assumption) ?_
        rotate_left
        · intro W hSw
          go_simp <;> with_reducible rfl
        try simp only [Act.put,List.setIfInBounds_toArray,List.set_cons_zero,List.set_cons_succ]
        refine wpAnyH_take (i:=2) (oi:=⟨_,_,_,_,_,_⟩) (v:=?_) rfl (by kernel_rfl) (by kernel_rfl) (by kernel_rfl) (fun _ _ _ h=>h) (Or.inl ⟨by rfl,?_⟩) (by assumption) ?_
        rotate_left
        · intro W hSw
          go_simp <;> with_reducible rfl
        try simp only [Act.put,List.setIfInBounds_toArray,List.set_cons_zero,List.set_cons_succ]
        refine wpAnyH_take (i:=3) (oi:=⟨_,_,_,_,_,_⟩) (v:=?_) rfl (by kernel_rfl) (by kernel_rfl) (by kernel_rfl) (fun _ _ _ h=>h) (Or.inl ⟨by rfl,?_⟩) (by assumption) ?_
        rotate_left
        · intro W hSw
          go_simp <;> with_reducible rfl
        try simp only [Act.put,List.setIfInBounds_toArray,List.set_cons_zero,List.set_cons_succ]
        refine wpAnyH_ready (rs:=[4,5]) (by kernel_rfl) (by simp) ?_
        refine AllReadyH.cons (o:=⟨_,_,_,_,_,_⟩) rfl (fun K hK=>?_) ?_
        · have HK:=Lib.hid hK
          clear hK
          go_simp
          refine HK.out.out _ _ trivial (fun _=>?_)
          clear HK K
          try simp only [Act.put,List.setIfInBounds_toArray,List.set_cons_zero,List.set_cons_succ]
          refine wpAnyH_ready (rs:=[5]) (by kernel_rfl) (by simp) ?_
          refine AllReadyH.cons (o:=⟨_,_,_,_,_,_⟩) rfl (fun K hK=>?_) AllReadyH.nil
          have HK:=Lib.hid hK
          clear hK
          go_simp
          refine HK.out.out _ _ trivial (fun _=>?_)
          clear HK K
          try simp only [Act.put,List.setIfInBounds_toArray,List.set_cons_zero,List.set_cons_succ]
          refine wpAnyH_ready (rs:=[6]) (by kernel_rfl) (by simp) ?_
          refine AllReadyH.cons (o:=⟨_,_,_,_,_,_⟩) rfl (fun K hK=>?_) AllReadyH.nil
          have HK:=Lib.hid hK
          clear hK
          go_simp
          refine HK.out.out _ _ trivial (fun _=>?_)
          clear HK K
          try simp only [Act.put,List.setIfInBounds_toArray,List.set_cons_zero,List.set_cons_succ]
          refine wpAnyH_ready (rs:=[7]) (by kernel_rfl) (by simp) ?_
          refine AllReadyH.cons (o:=⟨_,_,_,_,_,_⟩) rfl (fun K hK=>?_) AllReadyH.nil
          have HK:=Lib.hid hK
          clear hK
          refine step_tnode rfl (w:=wr.drew) (w0:=w0) (B:=B) (v:=.slice A D.length c) (D:=D) (g:=wr.heap.size) (by rfl) (.tmp 32) (.tmp 34) (by rfl) (by rfl) HO.out x (by rfl) (by rfl) HLN.out ?_
          intro p' w' hO2 hW
          have HN:=Lib.hid (And.intro hO2 hW)
          have k8:=(hW.other HGB.out.1 HGB.out.2.1).1
          have c8:w'.cell? ⟨gb,8,none⟩=some (.slice A D.length c):=by rw [cell_of_row w' gb 8 _ _ _ (k8.trans HGB.out.2.2)];rfl
          have f8:w'.frozen? ⟨gb,8,none⟩=false:=frozen_of_row w' gb 8 _ _ (k8.trans HGB.out.2.2)
          clear hO2 hW k8
          obtain ⟨A',c',rfl,_,_⟩:=HN.out.1.form
          refine HK.out.out _ _ trivial (fun _=>?_)
          clear HK K
          try simp only [Act.put,List.setIfInBounds_toArray,List.set_cons_zero,List.set_cons_succ]
          refine wpAnyH_ready (rs:=[8]) (by kernel_rfl) (by simp) ?_
          refine AllReadyH.cons (o:=⟨_,_,_,_,_,_⟩) rfl (fun K hK=>?_) AllReadyH.nil
          have HK:=Lib.hid hK
          clear hK
          go_simp
          refine HK.out.out _ _ trivial (fun _=>?_)
          clear HK K
          try simp only [Act.put,List.setIfInBounds_toArray,List.set_cons_zero,List.set_cons_succ]
          refine wpAnyH_ready (rs:=[9]) (by kernel_rfl) (by simp) ?_
          refine AllReadyH.cons (o:=⟨_,_,_,_,_,_⟩) rfl (fun K hK=>?_) AllReadyH.nil
          have HK:=Lib.hid hK
          clear hK
          go_simp
          refine HK.out.out _ _ trivial (fun _=>?_)
          clear HK K
          try simp only [Act.put,List.setIfInBounds_toArray,List.set_cons_zero,List.set_cons_succ]
          refine wpAnyH_ready (rs:=[10]) (by kernel_rfl) (by simp) ?_
          refine AllReadyH.cons (o:=⟨_,_,_,_,_,_⟩) rfl (fun K hK=>?_) AllReadyH.nil
          have HK:=Lib.hid hK
          clear hK
          go_simp
          refine HK.out.out _ _ trivial (fun _=>?_)
          clear HK K
          try simp only [Act.put,List.setIfInBounds_toArray,List.set_cons_zero,List.set_cons_succ]
          refine wpAnyH_done (by kernel_rfl) ?_ _
          go_end0
          have hl1:(D++[x]).length=D.length+1:=by simp
          rw [hl1] at HN
          exact ⟨_,rfl,draft_done HS.out.1 HL.out HN.out.1 HN.out.2⟩
        refine AllReadyH.cons (o:=⟨_,_,_,_,_,_⟩) rfl (fun K hK=>?_) AllReadyH.nil
        have HK:=Lib.hid hK
        clear hK
        go_simp
        refine HK.out.out _ _ trivial (fun _=>?_)
        clear HK K
        try simp only [Act.put,List.setIfInBounds_toArray,List.set_cons_zero,List.set_cons_succ]
        refine wpAnyH_ready (rs:=[4,6]) (by kernel_rfl) (by simp) ?_
        refine AllReadyH.cons (o:=⟨_,_,_,_,_,_⟩) rfl (fun K hK=>?_) ?_
        · have HK:=Lib.hid hK
          clear hK
          go_simp
          refine HK.out.out _ _ trivial (fun _=>?_)
          clear HK K
          try simp only [Act.put,List.setIfInBounds_toArray,List.set_cons_zero,List.set_cons_succ]
          refine wpAnyH_ready (rs:=[6]) (by kernel_rfl) (by simp) ?_
          refine AllReadyH.cons (o:=⟨_,_,_,_,_,_⟩) rfl (fun K hK=>?_) AllReadyH.nil
          have HK:=Lib.hid hK
          clear hK
          go_simp
          refine HK.out.out _ _ trivial (fun _=>?_)
          clear HK K
          try simp only [Act.put,List.setIfInBounds_toArray,List.set_cons_zero,List.set_cons_succ]
          refine wpAnyH_ready (rs:=[7]) (by kernel_rfl) (by simp) ?_
          refine AllReadyH.cons (o:=⟨_,_,_,_,_,_⟩) rfl (fun K hK=>?_) AllReadyH.nil
          have HK:=Lib.hid hK
          clear hK
          refine step_tnode rfl (w:=wr.drew) (w0:=w0) (B:=B) (v:=.slice A D.length c) (D:=D) (g:=wr.heap.size) (by rfl) (.tmp 32) (.tmp 34) (by rfl) (by rfl) HO.out x (by rfl) (by rfl) HLN.out ?_
          intro p' w' hO2 hW
          have HN:=Lib.hid (And.intro hO2 hW)
          have k8:=(hW.other HGB.out.1 HGB.out.2.1).1
          have c8:w'.cell? ⟨gb,8,none⟩=some (.slice A D.length c):=by rw [cell_of_row w' gb 8 _ _ _ (k8.trans HGB.out.2.2)];rfl
          have f8:w'.frozen? ⟨gb,8,none⟩=false:=frozen_of_row w' gb 8 _ _ (k8.trans HGB.out.2.2)
          clear hO2 hW k8
          obtain ⟨A',c',rfl,_,_⟩:=HN.out.1.form
          refine HK.out.out _ _ trivial (fun _=>?_)
          clear HK K
          try simp only [Act.put,List.setIfInBounds_toArray,List.set_cons_zero,List.set_cons_succ]
          refine wpAnyH_ready (rs:=[8]) (by kernel_rfl) (by simp) ?_
          refine AllReadyH.cons (o:=⟨_,_,_,_,_,_⟩) rfl (fun K hK=>?_) AllReadyH.nil
          have HK:=Lib.hid hK
          clear hK
          go_simp
          refine HK.out.out _ _ trivial (fun _=>?_)
          clear HK K
          try simp only [Act.put,List.setIfInBounds_toArray,List.set_cons_zero,List.set_cons_succ]
          refine wpAnyH_ready (rs:=[9]) (by kernel_rfl) (by simp) ?_
          refine AllReadyH.cons (o:=⟨_,_,_,_,_,_⟩) rfl (fun K hK=>?_) AllReadyH.nil
          have HK:=Lib.hid hK
          clear hK
          go_simp
          refine HK.out.out _ _ trivial (fun _=>?_)
          clear HK K
          try simp only [Act.put,List.setIfInBounds_toArray,List.set_cons_zero,List.set_cons_succ]
          refine wpAnyH_ready (rs:=[10]) (by kernel_rfl) (by simp) ?_
          refine AllReadyH.cons (o:=⟨_,_,_,_,_,_⟩) rfl (fun K hK=>?_) AllReadyH.nil
          have HK:=Lib.hid hK
          clear hK
          go_simp
          refine HK.out.out _ _ trivial (fun _=>?_)
          clear HK K
          try simp only [Act.put,List.setIfInBounds_toArray,List.set_cons_zero,List.set_cons_succ]
          refine wpAnyH_done (by kernel_rfl) ?_ _
          go_end0
          have hl1:(D++[x]).length=D.length+1:=by simp
          rw [hl1] at HN
          exact ⟨_,rfl,draft_done HS.out.1 HL.out HN.out.1 HN.out.2⟩
        refine AllReadyH.cons (o:=⟨_,_,_,_,_,_⟩) rfl (fun K hK=>?_) AllReadyH.nil
        have HK:=Lib.hid hK
        clear hK
        go_simp
        refine HK.out.out _ _ trivial (fun _=>?_)
        clear HK K
        try simp only [Act.put,List.setIfInBounds_toArray,List.set_cons_zero,List.set_cons_succ]
        refine wpAnyH_ready (rs:=[4]) (by kernel_rfl) (by simp) ?_
        refine AllReadyH.cons (o:=⟨_,_,_,_,_,_⟩) rfl (fun K hK=>?_) AllReadyH.nil
        have HK:=Lib.hid hK
        clear hK
        go_simp
        refine HK.out.out _ _ trivial (fun _=>?_)
        clear HK K
        try simp only [Act.put,List.setIfInBounds_toArray,List.set_cons_zero,List.set_cons_succ]
        refine wpAnyH_ready (rs:=[7]) (by kernel_rfl) (by simp) ?_
        refine AllReadyH.cons (o:=⟨_,_,_,_,_,_⟩) rfl (fun K hK=>?_) AllReadyH.nil
        have HK:=Lib.hid hK
        clear hK
        refine step_tnode rfl (w:=wr.drew) (w0:=w0) (B:=B) (v:=.slice A D.length c) (D:=D) (g:=wr.heap.size) (by rfl) (.tmp 32) (.tmp 34) (by rfl) (by rfl) HO.out x (by rfl) (by rfl) HLN.out ?_
        intro p' w' hO2 hW
        have HN:=Lib.hid (And.intro hO2 hW)
        have k8:=(hW.other HGB.out.1 HGB.out.2.1).1
        have c8:w'.cell? ⟨gb,8,none⟩=some (.slice A D.length c):=by rw [cell_of_row w' gb 8 _ _ _ (k8.trans HGB.out.2.2)];rfl
        have f8:w'.frozen? ⟨gb,8,none⟩=false:=frozen_of_row w' gb 8 _ _ (k8.trans HGB.out.2.2)
        clear hO2 hW k8
        obtain ⟨A',c',rfl,_,_⟩:=HN.out.1.form
        refine HK.out.out _ _ trivial (fun _=>?_)
        clear HK K
        try simp only [Act.put,List.setIfInBounds_toArray,List.set_cons_zero,List.set_cons_succ]
        refine wpAnyH_ready (rs:=[8]) (by kernel_rfl) (by simp) ?_
        refine AllReadyH.cons (o:=⟨_,_,_,_,_,_⟩) rfl (fun K hK=>?_) AllReadyH.nil
        have HK:=Lib.hid hK
        clear hK
        go_simp
        refine HK.out.out _ _ trivial (fun _=>?_)
        clear HK K
        try simp only [Act.put,List.setIfInBounds_toArray,List.set_cons_zero,List.set_cons_succ]
        refine wpAnyH_ready (rs:=[9]) (by kernel_rfl) (by simp) ?_
        refine AllReadyH.cons (o:=⟨_,_,_,_,_,_⟩) rfl (fun K hK=>?_) AllReadyH.nil
        have HK:=Lib.hid hK
        clear hK
        go_simp
        refine HK.out.out _ _ trivial (fun _=>?_)
        clear HK K
        try simp only [Act.put,List.setIfInBounds_toArray,List.set_cons_zero,List.set_cons_succ]
        refine wpAnyH_ready (rs:=[10]) (by kernel_rfl) (by simp) ?_
        refine AllReadyH.cons (o:=⟨_,_,_,_,_,_⟩) rfl (fun K hK=>?_) AllReadyH.nil
        have HK:=Lib.hid hK
        clear hK
        go_simp
        refine HK.out.out _ _ trivial (fun _=>?_)
        clear HK K
        try simp only [Act.put,List.setIfInBounds_toArray,List.set_cons_zero,List.set_cons_succ]
        refine wpAnyH_done (by kernel_rfl) ?_ _
        go_end0
        have hl1:(D++[x]).length=D.length+1:=by simp
        rw [hl1] at HN
        exact ⟨_,rfl,draft_done HS.out.1 HL.out HN.out.1 HN.out.2⟩
def dfill:Nat→List PNode→List Int→List Int
  | _,[],L=>L
  | k,x::D,L=>dfill (k+1) D (putAll L x.nv k)
theorem dfill_snoc (x:PNode):∀ (D:List PNode) (k:Nat) (L:List Int),dfill k (D++[x]) L=putAll (dfill k D L) x.nv ((k+D.length:Nat):Int)
  | [],k,L=>by simp [dfill]
  | y::D,k,L=>by
    show dfill (k+1) (D++[x]) _=_
    rw [dfill_snoc x D (k+1)]
    show putAll (dfill (k+1) D _) x.nv _=putAll (dfill (k+1) D _) x.nv _
    congr 1
    simp
    omega
theorem dfill_len:∀ (D:List PNode) (k:Nat) (L:List Int),(dfill k D L).length=L.length
  | [],_,_=>rfl
  | x::D,k,L=>by
    show (dfill (k+1) D _).length=_
    rw [dfill_len D,putAll_len]
theorem dfill_at {i:Nat}:∀ (D:List PNode) (k:Nat) (L:List Int),i<L.length →
    ((∀ x∈D,∀ u∈x.nv,u.toNat≠i)∧at0 (dfill k D L) i=at0 L i)∨(∃ (j:Nat) (x:PNode),D[j]?=some x∧(∃ u∈x.nv,u.toNat=i)∧at0 (dfill k D L) i=((k+j:Nat):Int))
  | [],k,L,_=>.inl ⟨by simp,rfl⟩
  | x::D,k,L,hi=>by
    rcases dfill_at D (k+1) (putAll L x.nv k) (by rw [putAll_len];exact hi) with ⟨h1,h2⟩ | ⟨j,y,h1,h2,h3⟩
    · by_cases hx:∃ u∈x.nv,u.toNat=i
      · refine .inr ⟨0,x,rfl,hx,?_⟩
        show at0 (dfill (k+1) D _) i=_
        rw [h2,at0_put,if_pos ⟨hx,hi⟩]
        simp
      · refine .inl ⟨fun y hy u hu e=>?_,?_⟩
        · rcases List.mem_cons.1 hy with rfl | hy
          · exact hx ⟨u,hu,e⟩
          · exact h1 y hy u hu e
        · show at0 (dfill (k+1) D _) i=_
          rw [h2,at0_put,if_neg (fun h=>hx h.1)]
    · refine .inr ⟨j+1,y,h1,h2,?_⟩
      show at0 (dfill (k+1) D _) i=_
      rw [h3]
      congr 1
      omega
theorem below_some {D:List PNode} {V:Nat} (hG:Good6 V D) {x:PNode} (hx:x∈D) {v:Nat} {u:Int} (hu:u∈x.nv) (e:u.toNat=v):belowOf D v=x.nf.map fun f=>(f / 2).toNat:=by
  unfold belowOf
  cases hf:D.find? (fun x=>x.nv.any fun u=>u.toNat == v) with
  | none =>
    have:=List.find?_eq_none.1 hf x hx
    simp at this
    exact absurd e (this u hu)
  | some y =>
    have h1:=List.find?_some hf
    rw [List.any_eq_true] at h1
    obtain ⟨u2,hu2,e2⟩:=h1
    have e3:u2.toNat=v:=by simpa using e2
    have:=owner hG (List.mem_of_find?_eq_some hf) hx hu2 hu (e3.trans e.symm)
    rw [this]
theorem below_none {D:List PNode} {v:Nat} (h:∀ x∈D,∀ u∈x.nv,u.toNat≠v):belowOf D v=[]:=by
  unfold belowOf
  cases hf:D.find? (fun x=>x.nv.any fun u=>u.toNat == v) with
  | none=>rfl
  | some y =>
    have h1:=List.find?_some hf
    rw [List.any_eq_true] at h1
    obtain ⟨u2,hu2,e2⟩:=h1
    have e3:u2.toNat=v:=by simpa using e2
    exact absurd e3 (h y (List.mem_of_find?_eq_some hf) u2 hu2)
theorem tells_of {D:List PNode} {V:Nat} (hG:Good6 V D):Tells D V (dfill 0 D (List.replicate (V+1) (-1))):=by
  have hl:(dfill 0 D (List.replicate (V+1) (-1))).length=V+1:=by rw [dfill_len,List.length_replicate]
  refine ⟨hl,fun v hv=>?_⟩
  have hg:=at0_lt (L:=dfill 0 D (List.replicate (V+1) (-1))) (i:=v) (by omega)
  have h1:at0 (List.replicate (V+1) (-1)) v=-1:=by
    unfold at0
    rw [List.getD_eq_getElem?_getD,List.getElem?_replicate,if_pos (by omega)]
    rfl
  rcases dfill_at (i:=v) D 0 (List.replicate (V+1) (-1)) (by simp;omega) with ⟨h2,h3⟩ | ⟨j,x,h2,⟨u,hu,e⟩,h3⟩
  · exact .inl ⟨by rw [hg,h3,h1],below_none h2⟩
  · exact .inr ⟨j,x,by rw [hg,h3,Nat.zero_add],h2,below_some hG (mem_of_some h2) hu e⟩
theorem below_le {D:List PNode} {V:Nat} (hG:Good6 V D) (v:Nat):(∀ x∈belowOf D v,x≤V)∧(belowOf D v).length≤1000:=by
  unfold belowOf
  cases hf:D.find? (fun x=>x.nv.any fun u=>u.toNat == v) with
  | none=>exact ⟨by simp,by simp⟩
  | some y =>
    have hy:=List.mem_of_find?_eq_some hf
    refine ⟨fun x hx=>?_,by simpa using (hG.lens y hy).1⟩
    obtain ⟨f,hf2,rfl⟩:=List.mem_map.1 hx
    have:=hG.lits y hy f hf2
    omega
end Go.Proofs.YtldnepogjnahfaaGreatDoor
