/- The range over parts by contract: memories' own lines (conditions: the parser lies in memory; at most 400000 bytes; at most 1000000 parts; the function that reads a part keeps to its contract); The range over parts by contract: ports that read (conditions: the parser lies in memory; at most 400000 bytes; at most 1000000 parts; the function that reads a part keeps to its contract); The range over parts by contract: ports that write (conditions: the parser lies in memory; at most 400000 bytes; at most 1000000 parts; the function that reads a part keeps to its contract). -/
import Derived.RangeFuncNested
import Derived.RangeFuncBound
import Derived.RangeFuncCalls
import Derived.RangeFuncLeaves
import Derived.Shelf.Abstract
import Derived.Shelf.RegionOpen
import Derived.WalkKit
import Derived.OwnWalkIn
import Derived.TacticsInMore
import Derived.LoopNIn
import Derived.LoopIn
import Derived.Sort.LoopGhostIn
import Derived.Test.YtldnepogjnahfaaGreatDoorVPx
set_option linter.unusedVariables false
namespace Go.Proofs.YtldnepogjnahfaaGreatDoor
open Go.ChangeShapes Go.WideShapes Go.RowKit Go.Shelf
attribute [local go_sem] Oper.semAt_some
def Readsmemory (p r g:Nat) (m:Ext) (V:Int) (f:Nat) (a:Array Value) (X:World→Prop) (wf:Ps→PShape × Ps):Prop :=
  ∀ (W:World) (N:NC) (t:Ps),t.e=none→PAt 1 p r g m V N W t→X W→Calls Tryz.prog f a W fun e w'=>∃ x,(wf t).1=x∧∃ A A2,e=.returned (.agg #[.int .i64 x.sa,.int .i64 x.sw,.bool x.sn,.slice A x.sr.toNat x.sr.toNat,.slice A2 x.sx.toNat x.sx.toNat])∧PAt 1 p r g m V N w' (wf t).2∧Kept3 p r g W w'
set_option maxRecDepth 100000 in
set_option maxHeartbeats 8000000 in
theorem each_memory {κ:Type} (m0:Nat) (h1m:1≤m0) {p r g:Nat} {m:Ext} {V:Int} (wf:Ps→PShape × Ps) (nx:Ps × κ→PShape→Ps × κ) (cb pb wb lb qb cnt:Nat) (hcnt:cnt≤1000000) (s0:Ps × κ) (w:World)
    (ha:(cb≠p∧cb≠r∧cb≠g)∧(pb≠p∧pb≠r∧pb≠g)∧(wb≠p∧wb≠r∧wb≠g)) (ct:κ→Nat) (hct:∀ s x,ct (nx s x).2=ct s.2+1) (hct0:ct s0.2=0) (X:World→Prop) (hX:∀ A B,X A→Kept3 p r g A B→X B)
    (hrd:Readsmemory p r g m V 184 #[.pointer (some ⟨lb,0,none⟩),.pointer (some ⟨qb,0,none⟩)] X wf) :
    SeqW (α:=PShape) Fence.wide m0 Tryz.prog 221 #[.pointer (some ⟨cb,0,none⟩),.pointer (some ⟨pb,0,none⟩),.pointer (some ⟨wb,0,none⟩)]
      (LKnow p r g m V cb pb wb cnt 79 (.func (.func 184) #[] #[.pointer (some ⟨lb,0,none⟩),.pointer (some ⟨qb,0,none⟩)]) X) (LSt p r g m V) (fun s x v A0=>(s.1.e=none∧ct s.2<cnt)∧(∃ t:Ps,t.e=none∧wf t=(x,s.1))∧∃ A A2,v=.agg #[.int .i64 x.sa,.int .i64 x.sw,.bool x.sn,.slice A x.sr.toNat x.sr.toNat,.slice A2 x.sx.toNat x.sx.toNat]) nx (fun s=>s=eachF wf nx cnt s0) s0 w:=fun l J W hW hJK hJS hJY h0=>by
  obtain ⟨hP0,hC0,hX0⟩:=hJK _ _ h0
  obtain ⟨cc,cp,cw⟩:=hC0.cells
  have HJ:=Lib.hid (And.intro hJK (And.intro hJS hJY))
  have HRD:=Lib.hid (And.intro hrd hX)
  clear hP0 hC0 hX0 hJK hJS hJY hrd hX
  refine callsIn_of_wp Tryz.func221 rfl trivial ?_ rfl
  simp only [Tryz.ntmps221,List.size_toArray,List.length_cons,List.length_nil,Nat.reduceAdd,Nat.reduceSub,Array.replicate_succ,Array.replicate_zero,List.push_toArray,List.append_toArray,List.nil_append,List.cons_append]
  gi_wp2
  clear cc cp cw
  gi_loopg [8] cnt (fun m' s8 wx=>∃ (k:Nat) (s:Ps × κ),k+m'=cnt∧s8=.int .i64 k∧J s wx∧Aside (eachF wf nx m' s=eachF wf nx cnt s0∧ct s.2=k))
  case atStart=>exact ⟨0,s0,by omega,rfl,h0,rfl,hct0⟩
  case round =>
    clear h0
    obtain ⟨k,⟨s,c⟩,hk,rfl,hJs,HL⟩:=hrel
    generalize gk=m' at *
    obtain ⟨⟨N,hP⟩,hC,hXW⟩:=HJ.out.1 _ _ hJs
    dsimp only at hP
    obtain ⟨cc,cp,cw⟩:=hC.cells
    obtain ⟨ev,hE,d0,d1,d9,df⟩:=hP.cells
    by_cases hlt:k<cnt
    · have hltI:(k:Int)<(cnt:Int):=by omega
      obtain ⟨q,rfl⟩:∃ q,m'=q+1:=⟨m' - 1,by omega⟩
      cases he:s.e with
      | some y =>
        rw [he] at hE
        obtain ⟨bb,rfl⟩:=hE.form
        have HF:=Lib.hid (show (s,c)=eachF wf nx cnt s0 by rw [← HL.out.1];exact (eachF_bad (by simp [he]) _).symm)
        clear hP hC hXW hE d0 d1 df cc cw HL
        gi_wp2
        refine bodyPost_ret (results_none rfl _ _ _) rfl ?_
        first | exact ⟨⟨_,rfl⟩,_,HF.out,hJs⟩ | exact ⟨⟨_,rfl⟩,HF.out ▸ hJs⟩ | exact HF.out ▸ hJs
      | none =>
        rw [he] at hE
        cases hE
        have HP:=Lib.hid (hP.fresh he)
        have HC:=Lib.hid hC
        have HE:=Lib.hid he
        have HA:=Lib.hid (Sc.at_any r s.l s.i wr hP.rd)
        have HW:=Lib.hid (HRD.out.1 wr N s he HP.out hXW)
        obtain ⟨⟨x,s2⟩,e1⟩:∃ y,wf s=y:=⟨_,rfl⟩
        rw [e1] at HW
        dsimp only at HW
        have HLS:=Lib.hid (fun (h:s2.e.isSome=true)=>eachF_stop (wf:=wf) (nx:=nx) (s:=(s,c)) HE.out e1 h q)
        have HLN:=Lib.hid (fun (h:s2.e=none)=>eachF_next (wf:=wf) (nx:=nx) (s:=(s,c)) HE.out e1 h q)
        have HJ0:=Lib.hid hJs
        have HTold:=Lib.hid (show ∃ t:Ps,t.e=none∧wf t=(x,s2) from ⟨s,he,e1⟩)
        clear hP hC hXW d1 df e1 he hJs
        gi_wp2_with (first
          | (refine ⟨trivial,?_⟩;gi_at_call 168;refine (callsIn_wide.2 HA.out).mono ?_;rintro e w0 ⟨rfl,rfl⟩)
          | (refine ⟨trivial,?_⟩;gi_at_call 184;refine (callsIn_wide.2 HW.out).mono ?_;rintro e w1 ⟨_,rfl,A,A2,rfl,hP1,hK1⟩;have r0:(w1.alloc (.cells #[.int .i64 x.sa,.int .i64 x.sw,.bool x.sn,.slice A x.sr.toNat x.sr.toNat,.slice A2 x.sx.toNat x.sx.toNat] 54)).heap[w1.heap.size]?=some (.cells #[.int .i64 x.sa,.int .i64 x.sw,.bool x.sn,.slice A x.sr.toNat x.sr.toNat,.slice A2 x.sx.toNat x.sx.toNat] 54 (0,0)):=heap_alloc_new w1 _;have b0:Below w1.heap.size w1 (w1.alloc (.cells #[.int .i64 x.sa,.int .i64 x.sw,.bool x.sn,.slice A x.sr.toNat x.sr.toNat,.slice A2 x.sx.toNat x.sx.toNat] 54)):=(Below.refl _ w1).alloc (Nat.le_refl _) _;have HNE:=Lib.hid (show w1.heap.size≠p from by have:=hP1.lt;omega);have hP2:=hP1.below b0;have hK2:=hK1.trans (Kept3.of_below (p:=p) (r:=r) (g:=g) b0);have HT2:=Lib.hid r0;clear hP1 hK1 r0 b0 ;obtain ⟨cc2,cp2,cw2⟩:=(HC.out.kept hK2 ha).cells;obtain ⟨ev2,hE2,x0,-,x9,xf⟩:=hP2.cells;have xf9:=xf 9;have HP2:=Lib.hid (And.intro hP2 (And.intro hK2 hE2));clear hP2 hK2 hE2 xf cc cp cw))
        generalize hw2:w1.alloc (.cells #[.int .i64 x.sa,.int .i64 x.sw,.bool x.sn,.slice A x.sr.toNat x.sr.toNat,.slice A2 x.sx.toNat x.sx.toNat] 54)=w2 at *
        clear hw2
        clear cc2 cw2 x0 d0
        have HPD:=Lib.hid (HP2.out.1.below ((Below.refl _ w2).drew))
        have HKD:=Lib.hid (HP2.out.2.1.drew)
        have HCW:=Lib.hid (fun (W:World) (hb:Below w2.drew.heap.size w2.drew W)=>show W.cell? ⟨pb,0,none⟩=some (.pointer (some ⟨p,0,none⟩))∧(∃ ev,W.cell? ⟨p,9,none⟩=some ev)∧W.frozen? ⟨p,9,none⟩=false from by
          obtain ⟨-,cp,-⟩:=((HC.out.kept HKD.out ha).kept (Kept3.of_below (p:=p) (r:=r) (g:=g) hb) ha).cells
          obtain ⟨ev3,-,-,-,h10,hf⟩:=(HPD.out.below hb).cells
          exact ⟨cp,⟨ev3,h10⟩,hf 9⟩)
        cases he2:s2.e with
        | none =>
          have hE2:=HP2.out.2.2
          rw [he2] at hE2
          cases hE2
          have HWR:=Lib.hid (Fa.Wrap_nil (s.i:Int) w2.drew HPD.out.laid)
          have HE2:=Lib.hid he2
          clear he2
          gi_region_with (first
            | (refine ⟨trivial,?_⟩;gi_at_call 169;refine (callsIn_wide.2 HWR.out).mono ?_;rintro e w3 ⟨rfl,hb3⟩;obtain ⟨cp3,⟨ev3,x103⟩,xf103⟩:=HCW.out w3 hb3;have HB3:=Lib.hid hb3;clear hb3))
          all_goals
            have hP4:=(HPD.out.below HB3.out).setErr (ev':=.nilIface) (o:=none) rfl
            rw [show ({ s2 with e:=none }:Ps)=s2 from by rw [← HE2.out]] at hP4
            have hK4:=(HKD.out.trans (Kept3.of_below HB3.out)).put 9 .nilIface
            have ht4:(World.setCell w3 ⟨p,9,none⟩ .nilIface).heap[w1.heap.size]?=_:=(heap_setCell_other _ _ _ _ (by show w1.heap.size≠p;exact HNE.out)).trans ((HB3.out.block _ (lt_of_row HT2.out)).trans HT2.out)
            clear cp3 x103 xf103 HB3 cp2 x9 xf9 d9
            generalize World.setCell _ _ _=w4 at hP4 hK4 ht4 ⊢
            have hJ4:=HJ.out.2.1 (s,c) (s2,c) wr w4 HJ0.out ⟨rfl,fun N' h'=>PAt.uniq HP.out h' ▸ hP4.up,hK4⟩
            have t0:w4.cell? ⟨w1.heap.size,0,none⟩=some (.int .i64 x.sa):=by rw [cell_of_row _ _ _ _ _ _ ht4];rfl
            have t1:w4.cell? ⟨w1.heap.size,1,none⟩=some (.int .i64 x.sw):=by rw [cell_of_row _ _ _ _ _ _ ht4];rfl
            have t2:w4.cell? ⟨w1.heap.size,2,none⟩=some (.bool x.sn):=by rw [cell_of_row _ _ _ _ _ _ ht4];rfl
            have t3:w4.cell? ⟨w1.heap.size,3,none⟩=some (.slice A x.sr.toNat x.sr.toNat):=by rw [cell_of_row _ _ _ _ _ _ ht4];rfl
            have t4:w4.cell? ⟨w1.heap.size,4,none⟩=some (.slice A2 x.sx.toNat x.sx.toNat):=by rw [cell_of_row _ _ _ _ _ _ ht4];rfl
            obtain ⟨fn,tmps,assign,body,hy,hR⟩:=HJ.out.2.2 (s2,c) x (.agg #[.int .i64 x.sa,.int .i64 x.sw,.bool x.sn,.slice A x.sr.toNat x.sr.toNat,.slice A2 x.sx.toNat x.sx.toNat]) w4 hJ4 ⟨⟨HE2.out,by show ct c<cnt;have h7:ct c=k:=HL.out.2;omega⟩,HTold.out,A,A2,rfl⟩
            obtain ⟨cc4,cp4,cw4⟩:=(HC.out.kept hK4 ha).cells
            obtain ⟨ev4,hE4,y0,-,y9,-⟩:=hP4.cells
            rw [HE2.out] at hE4
            cases hE4
            clear hJ4 hP4 hK4 cw4 y0 ht4
            gi_wp2
            refine hR.mono ?_
            rintro e w5 ⟨rfl,hJ5⟩
            gi_wp2
            gi_roundg q
            case measure=>omega
            case rel=>exact ⟨k+1,nx (s2,c) x,by omega,by first | rfl | simp,hJ5,by show _=_;rw [← HLN.out HE2.out];exact HL.out.1,by rw [hct];show ct c+1=k+1;have h7:ct c=k:=HL.out.2;omega⟩
        | some y =>
          have hE2:=HP2.out.2.2
          rw [he2] at hE2
          obtain ⟨b2,rfl⟩:=hE2.form
          have HWR:=Lib.hid (wrap_any (s:=s2) (s.i:Int) HPD.out.laid (HP2.out.2.2.keep fun k cs hk=>rfl:Err 1 w2.drew _ s2.e))
          rw [he2] at HWR
          have HE2:=Lib.hid he2
          clear he2 hE2
          gi_region_with (first
            | (refine ⟨trivial,?_⟩;gi_at_call 169;refine (callsIn_wide.2 HWR.out).mono ?_;rintro e w3 ⟨⟨ev3,rfl,hE3⟩,hb3⟩;obtain ⟨b3,rfl⟩:=hE3.form;obtain ⟨cp3,⟨ev3,x103⟩,xf103⟩:=HCW.out w3 hb3;have HB3:=Lib.hid (And.intro hb3 hE3);clear hb3 hE3))
          all_goals
            have hP4:=(HPD.out.below HB3.out.1).up.setErr HB3.out.2
            rw [show ({ s2 with e:=some y }:Ps)=s2 from by rw [← HE2.out]] at hP4
            have hK4:=(HKD.out.trans (Kept3.of_below HB3.out.1)).put 9 (.iface 188 (.pointer (some ⟨b3,0,none⟩)))
            clear cp3 x103 xf103 HB3 cp2 x9 xf9 d9
            generalize World.setCell _ _ _=w4 at hP4 hK4 ⊢
            have hJ4:=HJ.out.2.1 (s,c) (s2,c) wr w4 HJ0.out ⟨rfl,fun N' h'=>PAt.uniq HP.out h' ▸ hP4,hK4⟩
            obtain ⟨cc4,cp4,cw4⟩:=(HC.out.kept hK4 ha).cells
            obtain ⟨ev4,hE4,y0,-,y9,-⟩:=hP4.cells
            rw [HE2.out] at hE4
            obtain ⟨b4,rfl⟩:=hE4.form
            have HF:=Lib.hid (show (s2,c)=eachF wf nx cnt s0 by rw [← HL.out.1];exact (HLS.out (by simp [HE2.out])).symm)
            clear hP4 hK4 cw4 y0 hE4
            gi_wp2
            refine ⟨fun _ h=>(by cases h),?_⟩
            gi_wp2
            refine bodyPost_ret (results_none rfl _ _ _) rfl ?_
            first | exact ⟨⟨_,rfl⟩,_,HF.out,hJ4⟩ | exact ⟨⟨_,rfl⟩,HF.out ▸ hJ4⟩ | exact HF.out ▸ hJ4
    · have hltn:¬ ((k:Int)<(cnt:Int)):=by omega
      obtain rfl:m'=0:=by omega
      have HF:=Lib.hid (show (s,c)=eachF wf nx cnt s0 from HL.out.1)
      clear hP hC hXW hE d0 d1 d9 df cc cp cw HL
      gi_wp2
      refine bodyPost_end (results_none rfl _ _ _) rfl ?_
      first | exact ⟨⟨_,rfl⟩,_,HF.out,hJs⟩ | exact ⟨⟨_,rfl⟩,HF.out ▸ hJs⟩ | exact HF.out ▸ hJs
attribute [local go_sem] Oper.semAt_some
def Readsread (p r g:Nat) (m:Ext) (V:Int) (f:Nat) (a:Array Value) (X:World→Prop) (wf:Ps→PRead × Ps):Prop :=
  ∀ (W:World) (N:NC) (t:Ps),t.e=none→PAt 1 p r g m V N W t→X W→Calls Tryz.prog f a W fun e w'=>∃ x,(wf t).1=x∧∃ A c0,e=.returned (.agg #[.int .i64 x.rv,.slice A x.ra.length c0])∧(LP p r g w' A c0 x.ra)∧PAt 1 p r g m V N w' (wf t).2∧Kept3 p r g W w'
set_option maxRecDepth 100000 in
set_option maxHeartbeats 8000000 in
theorem each_read {κ:Type} (m0:Nat) (h1m:1≤m0) {p r g:Nat} {m:Ext} {V:Int} (wf:Ps→PRead × Ps) (nx:Ps × κ→PRead→Ps × κ) (cb pb wb lb qb cnt:Nat) (hcnt:cnt≤1000000) (s0:Ps × κ) (w:World)
    (ha:(cb≠p∧cb≠r∧cb≠g)∧(pb≠p∧pb≠r∧pb≠g)∧(wb≠p∧wb≠r∧wb≠g)) (ct:κ→Nat) (hct:∀ s x,ct (nx s x).2=ct s.2+1) (hct0:ct s0.2=0) (X:World→Prop) (hX:∀ A B,X A→Kept3 p r g A B→X B)
    (hrd:Readsread p r g m V 224 #[.pointer (some ⟨lb,0,none⟩),.pointer (some ⟨qb,0,none⟩)] X wf) :
    SeqW (α:=PRead) Fence.wide m0 Tryz.prog 249 #[.pointer (some ⟨cb,0,none⟩),.pointer (some ⟨pb,0,none⟩),.pointer (some ⟨wb,0,none⟩)]
      (LKnow p r g m V cb pb wb cnt 225 (.func (.func 224) #[] #[.pointer (some ⟨lb,0,none⟩),.pointer (some ⟨qb,0,none⟩)]) X) (LSt p r g m V) (fun s x v A0=>(s.1.e=none∧ct s.2<cnt)∧∃ A c0,v=.agg #[.int .i64 x.rv,.slice A x.ra.length c0]∧(LP p r g A0 A c0 x.ra)) nx (fun s=>s=eachF wf nx cnt s0) s0 w:=fun l J W hW hJK hJS hJY h0=>by
  obtain ⟨hP0,hC0,hX0⟩:=hJK _ _ h0
  obtain ⟨cc,cp,cw⟩:=hC0.cells
  have HJ:=Lib.hid (And.intro hJK (And.intro hJS hJY))
  have HRD:=Lib.hid (And.intro hrd hX)
  clear hP0 hC0 hX0 hJK hJS hJY hrd hX
  refine callsIn_of_wp Tryz.func249 rfl trivial ?_ rfl
  simp only [Tryz.ntmps249,List.size_toArray,List.length_cons,List.length_nil,Nat.reduceAdd,Nat.reduceSub,Array.replicate_succ,Array.replicate_zero,List.push_toArray,List.append_toArray,List.nil_append,List.cons_append]
  gi_wp2
  clear cc cp cw
  gi_loopg [8] cnt (fun m' s8 wx=>∃ (k:Nat) (s:Ps × κ),k+m'=cnt∧s8=.int .i64 k∧J s wx∧Aside (eachF wf nx m' s=eachF wf nx cnt s0∧ct s.2=k))
  case atStart=>exact ⟨0,s0,by omega,rfl,h0,rfl,hct0⟩
  case round =>
    clear h0
    obtain ⟨k,⟨s,c⟩,hk,rfl,hJs,HL⟩:=hrel
    generalize gk=m' at *
    obtain ⟨⟨N,hP⟩,hC,hXW⟩:=HJ.out.1 _ _ hJs
    dsimp only at hP
    obtain ⟨cc,cp,cw⟩:=hC.cells
    obtain ⟨ev,hE,d0,d1,d9,df⟩:=hP.cells
    by_cases hlt:k<cnt
    · have hltI:(k:Int)<(cnt:Int):=by omega
      obtain ⟨q,rfl⟩:∃ q,m'=q+1:=⟨m' - 1,by omega⟩
      cases he:s.e with
      | some y =>
        rw [he] at hE
        obtain ⟨bb,rfl⟩:=hE.form
        have HF:=Lib.hid (show (s,c)=eachF wf nx cnt s0 by rw [← HL.out.1];exact (eachF_bad (by simp [he]) _).symm)
        clear hP hC hXW hE d0 d1 df cc cw HL
        gi_wp2
        refine bodyPost_ret (results_none rfl _ _ _) rfl ?_
        first | exact ⟨⟨_,rfl⟩,_,HF.out,hJs⟩ | exact ⟨⟨_,rfl⟩,HF.out ▸ hJs⟩ | exact HF.out ▸ hJs
      | none =>
        rw [he] at hE
        cases hE
        have HP:=Lib.hid (hP.fresh he)
        have HC:=Lib.hid hC
        have HE:=Lib.hid he
        have HA:=Lib.hid (Sc.at_any r s.l s.i wr hP.rd)
        have HW:=Lib.hid (HRD.out.1 wr N s he HP.out hXW)
        obtain ⟨⟨x,s2⟩,e1⟩:∃ y,wf s=y:=⟨_,rfl⟩
        rw [e1] at HW
        dsimp only at HW
        have HLS:=Lib.hid (fun (h:s2.e.isSome=true)=>eachF_stop (wf:=wf) (nx:=nx) (s:=(s,c)) HE.out e1 h q)
        have HLN:=Lib.hid (fun (h:s2.e=none)=>eachF_next (wf:=wf) (nx:=nx) (s:=(s,c)) HE.out e1 h q)
        have HJ0:=Lib.hid hJs
        have HTold:=Lib.hid (show ∃ t:Ps,t.e=none∧wf t=(x,s2) from ⟨s,he,e1⟩)
        clear hP hC hXW d1 df e1 he hJs
        gi_wp2_with (first
          | (refine ⟨trivial,?_⟩;gi_at_call 168;refine (callsIn_wide.2 HA.out).mono ?_;rintro e w0 ⟨rfl,rfl⟩)
          | (refine ⟨trivial,?_⟩;gi_at_call 224;refine (callsIn_wide.2 HW.out).mono ?_;rintro e w1 ⟨_,rfl,A,c0,rfl,hLP,hP1,hK1⟩;have r0:(w1.alloc (.cells #[.int .i64 x.rv,.slice A x.ra.length c0] 97)).heap[w1.heap.size]?=some (.cells #[.int .i64 x.rv,.slice A x.ra.length c0] 97 (0,0)):=heap_alloc_new w1 _;have b0:Below w1.heap.size w1 (w1.alloc (.cells #[.int .i64 x.rv,.slice A x.ra.length c0] 97)):=(Below.refl _ w1).alloc (Nat.le_refl _) _;have HNE:=Lib.hid (show w1.heap.size≠p from by have:=hP1.lt;omega);have hP2:=hP1.below b0;have hK2:=hK1.trans (Kept3.of_below (p:=p) (r:=r) (g:=g) b0);have HLP1:=Lib.hid (show LP p r g (w1.alloc (.cells #[.int .i64 x.rv,.slice A x.ra.length c0] 97)) A c0 x.ra from hLP.kept (Kept3.of_below (p:=p) (r:=r) (g:=g) b0));have HT2:=Lib.hid r0;clear hP1 hK1 r0 b0 hLP ;obtain ⟨cc2,cp2,cw2⟩:=(HC.out.kept hK2 ha).cells;obtain ⟨ev2,hE2,x0,-,x9,xf⟩:=hP2.cells;have xf9:=xf 9;have HP2:=Lib.hid (And.intro hP2 (And.intro hK2 hE2));clear hP2 hK2 hE2 xf cc cp cw))
        generalize hw2:w1.alloc (.cells #[.int .i64 x.rv,.slice A x.ra.length c0] 97)=w2 at *
        clear hw2
        clear cc2 cw2 x0 d0
        have HPD:=Lib.hid (HP2.out.1.below ((Below.refl _ w2).drew))
        have HKD:=Lib.hid (HP2.out.2.1.drew)
        have HCW:=Lib.hid (fun (W:World) (hb:Below w2.drew.heap.size w2.drew W)=>show W.cell? ⟨pb,0,none⟩=some (.pointer (some ⟨p,0,none⟩))∧(∃ ev,W.cell? ⟨p,9,none⟩=some ev)∧W.frozen? ⟨p,9,none⟩=false from by
          obtain ⟨-,cp,-⟩:=((HC.out.kept HKD.out ha).kept (Kept3.of_below (p:=p) (r:=r) (g:=g) hb) ha).cells
          obtain ⟨ev3,-,-,-,h10,hf⟩:=(HPD.out.below hb).cells
          exact ⟨cp,⟨ev3,h10⟩,hf 9⟩)
        cases he2:s2.e with
        | none =>
          have hE2:=HP2.out.2.2
          rw [he2] at hE2
          cases hE2
          have HWR:=Lib.hid (Fa.Wrap_nil (s.i:Int) w2.drew HPD.out.laid)
          have HE2:=Lib.hid he2
          clear he2
          gi_region_with (first
            | (refine ⟨trivial,?_⟩;gi_at_call 169;refine (callsIn_wide.2 HWR.out).mono ?_;rintro e w3 ⟨rfl,hb3⟩;obtain ⟨cp3,⟨ev3,x103⟩,xf103⟩:=HCW.out w3 hb3;have HB3:=Lib.hid hb3;clear hb3))
          all_goals
            have hP4:=(HPD.out.below HB3.out).setErr (ev':=.nilIface) (o:=none) rfl
            rw [show ({ s2 with e:=none }:Ps)=s2 from by rw [← HE2.out]] at hP4
            have hK4:=(HKD.out.trans (Kept3.of_below HB3.out)).put 9 .nilIface
            have ht4:(World.setCell w3 ⟨p,9,none⟩ .nilIface).heap[w1.heap.size]?=_:=(heap_setCell_other _ _ _ _ (by show w1.heap.size≠p;exact HNE.out)).trans ((HB3.out.block _ (lt_of_row HT2.out)).trans HT2.out)
            have hLP4:=HLP1.out.kept (((Kept3.refl p r g w2).drew.trans (Kept3.of_below HB3.out)).put 9 .nilIface)
            clear cp3 x103 xf103 HB3 cp2 x9 xf9 d9
            generalize World.setCell _ _ _=w4 at hP4 hK4 ht4 hLP4 ⊢
            have hJ4:=HJ.out.2.1 (s,c) (s2,c) wr w4 HJ0.out ⟨rfl,fun N' h'=>PAt.uniq HP.out h' ▸ hP4.up,hK4⟩
            have t0:w4.cell? ⟨w1.heap.size,0,none⟩=some (.int .i64 x.rv):=by rw [cell_of_row _ _ _ _ _ _ ht4];rfl
            have t1:w4.cell? ⟨w1.heap.size,1,none⟩=some (.slice A x.ra.length c0):=by rw [cell_of_row _ _ _ _ _ _ ht4];rfl
            obtain ⟨fn,tmps,assign,body,hy,hR⟩:=HJ.out.2.2 (s2,c) x (.agg #[.int .i64 x.rv,.slice A x.ra.length c0]) w4 hJ4 ⟨⟨HE2.out,by show ct c<cnt;have h7:ct c=k:=HL.out.2;omega⟩,A,c0,rfl,hLP4⟩
            obtain ⟨cc4,cp4,cw4⟩:=(HC.out.kept hK4 ha).cells
            obtain ⟨ev4,hE4,y0,-,y9,-⟩:=hP4.cells
            rw [HE2.out] at hE4
            cases hE4
            clear hJ4 hP4 hK4 cw4 y0 ht4 hLP4
            gi_wp2
            refine hR.mono ?_
            rintro e w5 ⟨rfl,hJ5⟩
            gi_wp2
            gi_roundg q
            case measure=>omega
            case rel=>exact ⟨k+1,nx (s2,c) x,by omega,by first | rfl | simp,hJ5,by show _=_;rw [← HLN.out HE2.out];exact HL.out.1,by rw [hct];show ct c+1=k+1;have h7:ct c=k:=HL.out.2;omega⟩
        | some y =>
          have hE2:=HP2.out.2.2
          rw [he2] at hE2
          obtain ⟨b2,rfl⟩:=hE2.form
          have HWR:=Lib.hid (wrap_any (s:=s2) (s.i:Int) HPD.out.laid (HP2.out.2.2.keep fun k cs hk=>rfl:Err 1 w2.drew _ s2.e))
          rw [he2] at HWR
          have HE2:=Lib.hid he2
          clear he2 hE2
          gi_region_with (first
            | (refine ⟨trivial,?_⟩;gi_at_call 169;refine (callsIn_wide.2 HWR.out).mono ?_;rintro e w3 ⟨⟨ev3,rfl,hE3⟩,hb3⟩;obtain ⟨b3,rfl⟩:=hE3.form;obtain ⟨cp3,⟨ev3,x103⟩,xf103⟩:=HCW.out w3 hb3;have HB3:=Lib.hid (And.intro hb3 hE3);clear hb3 hE3))
          all_goals
            have hP4:=(HPD.out.below HB3.out.1).up.setErr HB3.out.2
            rw [show ({ s2 with e:=some y }:Ps)=s2 from by rw [← HE2.out]] at hP4
            have hK4:=(HKD.out.trans (Kept3.of_below HB3.out.1)).put 9 (.iface 188 (.pointer (some ⟨b3,0,none⟩)))
            clear cp3 x103 xf103 HB3 cp2 x9 xf9 d9
            generalize World.setCell _ _ _=w4 at hP4 hK4 ⊢
            have hJ4:=HJ.out.2.1 (s,c) (s2,c) wr w4 HJ0.out ⟨rfl,fun N' h'=>PAt.uniq HP.out h' ▸ hP4,hK4⟩
            obtain ⟨cc4,cp4,cw4⟩:=(HC.out.kept hK4 ha).cells
            obtain ⟨ev4,hE4,y0,-,y9,-⟩:=hP4.cells
            rw [HE2.out] at hE4
            obtain ⟨b4,rfl⟩:=hE4.form
            have HF:=Lib.hid (show (s2,c)=eachF wf nx cnt s0 by rw [← HL.out.1];exact (HLS.out (by simp [HE2.out])).symm)
            clear hP4 hK4 cw4 y0 hE4
            gi_wp2
            refine ⟨fun _ h=>(by cases h),?_⟩
            gi_wp2
            refine bodyPost_ret (results_none rfl _ _ _) rfl ?_
            first | exact ⟨⟨_,rfl⟩,_,HF.out,hJ4⟩ | exact ⟨⟨_,rfl⟩,HF.out ▸ hJ4⟩ | exact HF.out ▸ hJ4
    · have hltn:¬ ((k:Int)<(cnt:Int)):=by omega
      obtain rfl:m'=0:=by omega
      have HF:=Lib.hid (show (s,c)=eachF wf nx cnt s0 from HL.out.1)
      clear hP hC hXW hE d0 d1 d9 df cc cp cw HL
      gi_wp2
      refine bodyPost_end (results_none rfl _ _ _) rfl ?_
      first | exact ⟨⟨_,rfl⟩,_,HF.out,hJs⟩ | exact ⟨⟨_,rfl⟩,HF.out ▸ hJs⟩ | exact HF.out ▸ hJs
attribute [local go_sem] Oper.semAt_some
def Readswrite (p r g:Nat) (m:Ext) (V:Int) (f:Nat) (a:Array Value) (X:World→Prop) (wf:Ps→PWrite × Ps):Prop :=
  ∀ (W:World) (N:NC) (t:Ps),t.e=none→PAt 1 p r g m V N W t→X W→Calls Tryz.prog f a W fun e w'=>∃ x,(wf t).1=x∧∃ A c0 A2 c2,e=.returned (.agg #[.int .i64 x.wo,.slice A x.wa.length c0,.slice A2 x.wd.length c2])∧(LP p r g w' A c0 x.wa∧LP p r g w' A2 c2 x.wd)∧PAt 1 p r g m V N w' (wf t).2∧Kept3 p r g W w'
set_option maxRecDepth 100000 in
set_option maxHeartbeats 8000000 in
theorem each_write {κ:Type} (m0:Nat) (h1m:1≤m0) {p r g:Nat} {m:Ext} {V:Int} (wf:Ps→PWrite × Ps) (nx:Ps × κ→PWrite→Ps × κ) (cb pb wb lb qb cnt:Nat) (hcnt:cnt≤1000000) (s0:Ps × κ) (w:World)
    (ha:(cb≠p∧cb≠r∧cb≠g)∧(pb≠p∧pb≠r∧pb≠g)∧(wb≠p∧wb≠r∧wb≠g)) (ct:κ→Nat) (hct:∀ s x,ct (nx s x).2=ct s.2+1) (hct0:ct s0.2=0) (X:World→Prop) (hX:∀ A B,X A→Kept3 p r g A B→X B)
    (hrd:Readswrite p r g m V 227 #[.pointer (some ⟨lb,0,none⟩),.pointer (some ⟨qb,0,none⟩)] X wf) :
    SeqW (α:=PWrite) Fence.wide m0 Tryz.prog 250 #[.pointer (some ⟨cb,0,none⟩),.pointer (some ⟨pb,0,none⟩),.pointer (some ⟨wb,0,none⟩)]
      (LKnow p r g m V cb pb wb cnt 230 (.func (.func 227) #[] #[.pointer (some ⟨lb,0,none⟩),.pointer (some ⟨qb,0,none⟩)]) X) (LSt p r g m V) (fun s x v A0=>(s.1.e=none∧ct s.2<cnt)∧∃ A c0 A2 c2,v=.agg #[.int .i64 x.wo,.slice A x.wa.length c0,.slice A2 x.wd.length c2]∧(LP p r g A0 A c0 x.wa∧LP p r g A0 A2 c2 x.wd)) nx (fun s=>s=eachF wf nx cnt s0) s0 w:=fun l J W hW hJK hJS hJY h0=>by
  obtain ⟨hP0,hC0,hX0⟩:=hJK _ _ h0
  obtain ⟨cc,cp,cw⟩:=hC0.cells
  have HJ:=Lib.hid (And.intro hJK (And.intro hJS hJY))
  have HRD:=Lib.hid (And.intro hrd hX)
  clear hP0 hC0 hX0 hJK hJS hJY hrd hX
  refine callsIn_of_wp Tryz.func250 rfl trivial ?_ rfl
  simp only [Tryz.ntmps250,List.size_toArray,List.length_cons,List.length_nil,Nat.reduceAdd,Nat.reduceSub,Array.replicate_succ,Array.replicate_zero,List.push_toArray,List.append_toArray,List.nil_append,List.cons_append]
  gi_wp2
  clear cc cp cw
  gi_loopg [8] cnt (fun m' s8 wx=>∃ (k:Nat) (s:Ps × κ),k+m'=cnt∧s8=.int .i64 k∧J s wx∧Aside (eachF wf nx m' s=eachF wf nx cnt s0∧ct s.2=k))
  case atStart=>exact ⟨0,s0,by omega,rfl,h0,rfl,hct0⟩
  case round =>
    clear h0
    obtain ⟨k,⟨s,c⟩,hk,rfl,hJs,HL⟩:=hrel
    generalize gk=m' at *
    obtain ⟨⟨N,hP⟩,hC,hXW⟩:=HJ.out.1 _ _ hJs
    dsimp only at hP
    obtain ⟨cc,cp,cw⟩:=hC.cells
    obtain ⟨ev,hE,d0,d1,d9,df⟩:=hP.cells
    by_cases hlt:k<cnt
    · have hltI:(k:Int)<(cnt:Int):=by omega
      obtain ⟨q,rfl⟩:∃ q,m'=q+1:=⟨m' - 1,by omega⟩
      cases he:s.e with
      | some y =>
        rw [he] at hE
        obtain ⟨bb,rfl⟩:=hE.form
        have HF:=Lib.hid (show (s,c)=eachF wf nx cnt s0 by rw [← HL.out.1];exact (eachF_bad (by simp [he]) _).symm)
        clear hP hC hXW hE d0 d1 df cc cw HL
        gi_wp2
        refine bodyPost_ret (results_none rfl _ _ _) rfl ?_
        first | exact ⟨⟨_,rfl⟩,_,HF.out,hJs⟩ | exact ⟨⟨_,rfl⟩,HF.out ▸ hJs⟩ | exact HF.out ▸ hJs
      | none =>
        rw [he] at hE
        cases hE
        have HP:=Lib.hid (hP.fresh he)
        have HC:=Lib.hid hC
        have HE:=Lib.hid he
        have HA:=Lib.hid (Sc.at_any r s.l s.i wr hP.rd)
        have HW:=Lib.hid (HRD.out.1 wr N s he HP.out hXW)
        obtain ⟨⟨x,s2⟩,e1⟩:∃ y,wf s=y:=⟨_,rfl⟩
        rw [e1] at HW
        dsimp only at HW
        have HLS:=Lib.hid (fun (h:s2.e.isSome=true)=>eachF_stop (wf:=wf) (nx:=nx) (s:=(s,c)) HE.out e1 h q)
        have HLN:=Lib.hid (fun (h:s2.e=none)=>eachF_next (wf:=wf) (nx:=nx) (s:=(s,c)) HE.out e1 h q)
        have HJ0:=Lib.hid hJs
        have HTold:=Lib.hid (show ∃ t:Ps,t.e=none∧wf t=(x,s2) from ⟨s,he,e1⟩)
        clear hP hC hXW d1 df e1 he hJs
        gi_wp2_with (first
          | (refine ⟨trivial,?_⟩;gi_at_call 168;refine (callsIn_wide.2 HA.out).mono ?_;rintro e w0 ⟨rfl,rfl⟩)
          | (refine ⟨trivial,?_⟩;gi_at_call 227;refine (callsIn_wide.2 HW.out).mono ?_;rintro e w1 ⟨_,rfl,A,c0,A2,c2,rfl,hLP,hP1,hK1⟩;have r0:(w1.alloc (.cells #[.int .i64 x.wo,.slice A x.wa.length c0,.slice A2 x.wd.length c2] 99)).heap[w1.heap.size]?=some (.cells #[.int .i64 x.wo,.slice A x.wa.length c0,.slice A2 x.wd.length c2] 99 (0,0)):=heap_alloc_new w1 _;have b0:Below w1.heap.size w1 (w1.alloc (.cells #[.int .i64 x.wo,.slice A x.wa.length c0,.slice A2 x.wd.length c2] 99)):=(Below.refl _ w1).alloc (Nat.le_refl _) _;have HNE:=Lib.hid (show w1.heap.size≠p from by have:=hP1.lt;omega);have hP2:=hP1.below b0;have hK2:=hK1.trans (Kept3.of_below (p:=p) (r:=r) (g:=g) b0);have HLP1:=Lib.hid (show LP p r g (w1.alloc (.cells #[.int .i64 x.wo,.slice A x.wa.length c0,.slice A2 x.wd.length c2] 99)) A c0 x.wa∧LP p r g (w1.alloc (.cells #[.int .i64 x.wo,.slice A x.wa.length c0,.slice A2 x.wd.length c2] 99)) A2 c2 x.wd from And.intro (hLP.1.kept (Kept3.of_below (p:=p) (r:=r) (g:=g) b0)) (hLP.2.kept (Kept3.of_below (p:=p) (r:=r) (g:=g) b0)));have HT2:=Lib.hid r0;clear hP1 hK1 r0 b0 hLP ;obtain ⟨cc2,cp2,cw2⟩:=(HC.out.kept hK2 ha).cells;obtain ⟨ev2,hE2,x0,-,x9,xf⟩:=hP2.cells;have xf9:=xf 9;have HP2:=Lib.hid (And.intro hP2 (And.intro hK2 hE2));clear hP2 hK2 hE2 xf cc cp cw))
        generalize hw2:w1.alloc (.cells #[.int .i64 x.wo,.slice A x.wa.length c0,.slice A2 x.wd.length c2] 99)=w2 at *
        clear hw2
        clear cc2 cw2 x0 d0
        have HPD:=Lib.hid (HP2.out.1.below ((Below.refl _ w2).drew))
        have HKD:=Lib.hid (HP2.out.2.1.drew)
        have HCW:=Lib.hid (fun (W:World) (hb:Below w2.drew.heap.size w2.drew W)=>show W.cell? ⟨pb,0,none⟩=some (.pointer (some ⟨p,0,none⟩))∧(∃ ev,W.cell? ⟨p,9,none⟩=some ev)∧W.frozen? ⟨p,9,none⟩=false from by
          obtain ⟨-,cp,-⟩:=((HC.out.kept HKD.out ha).kept (Kept3.of_below (p:=p) (r:=r) (g:=g) hb) ha).cells
          obtain ⟨ev3,-,-,-,h10,hf⟩:=(HPD.out.below hb).cells
          exact ⟨cp,⟨ev3,h10⟩,hf 9⟩)
        cases he2:s2.e with
        | none =>
          have hE2:=HP2.out.2.2
          rw [he2] at hE2
          cases hE2
          have HWR:=Lib.hid (Fa.Wrap_nil (s.i:Int) w2.drew HPD.out.laid)
          have HE2:=Lib.hid he2
          clear he2
          gi_region_with (first
            | (refine ⟨trivial,?_⟩;gi_at_call 169;refine (callsIn_wide.2 HWR.out).mono ?_;rintro e w3 ⟨rfl,hb3⟩;obtain ⟨cp3,⟨ev3,x103⟩,xf103⟩:=HCW.out w3 hb3;have HB3:=Lib.hid hb3;clear hb3))
          all_goals
            have hP4:=(HPD.out.below HB3.out).setErr (ev':=.nilIface) (o:=none) rfl
            rw [show ({ s2 with e:=none }:Ps)=s2 from by rw [← HE2.out]] at hP4
            have hK4:=(HKD.out.trans (Kept3.of_below HB3.out)).put 9 .nilIface
            have ht4:(World.setCell w3 ⟨p,9,none⟩ .nilIface).heap[w1.heap.size]?=_:=(heap_setCell_other _ _ _ _ (by show w1.heap.size≠p;exact HNE.out)).trans ((HB3.out.block _ (lt_of_row HT2.out)).trans HT2.out)
            have hLP4:=And.intro (HLP1.out.1.kept (((Kept3.refl p r g w2).drew.trans (Kept3.of_below HB3.out)).put 9 .nilIface)) (HLP1.out.2.kept (((Kept3.refl p r g w2).drew.trans (Kept3.of_below HB3.out)).put 9 .nilIface))
            clear cp3 x103 xf103 HB3 cp2 x9 xf9 d9
            generalize World.setCell _ _ _=w4 at hP4 hK4 ht4 hLP4 ⊢
            have hJ4:=HJ.out.2.1 (s,c) (s2,c) wr w4 HJ0.out ⟨rfl,fun N' h'=>PAt.uniq HP.out h' ▸ hP4.up,hK4⟩
            have t0:w4.cell? ⟨w1.heap.size,0,none⟩=some (.int .i64 x.wo):=by rw [cell_of_row _ _ _ _ _ _ ht4];rfl
            have t1:w4.cell? ⟨w1.heap.size,1,none⟩=some (.slice A x.wa.length c0):=by rw [cell_of_row _ _ _ _ _ _ ht4];rfl
            have t2:w4.cell? ⟨w1.heap.size,2,none⟩=some (.slice A2 x.wd.length c2):=by rw [cell_of_row _ _ _ _ _ _ ht4];rfl
            obtain ⟨fn,tmps,assign,body,hy,hR⟩:=HJ.out.2.2 (s2,c) x (.agg #[.int .i64 x.wo,.slice A x.wa.length c0,.slice A2 x.wd.length c2]) w4 hJ4 ⟨⟨HE2.out,by show ct c<cnt;have h7:ct c=k:=HL.out.2;omega⟩,A,c0,A2,c2,rfl,hLP4⟩
            obtain ⟨cc4,cp4,cw4⟩:=(HC.out.kept hK4 ha).cells
            obtain ⟨ev4,hE4,y0,-,y9,-⟩:=hP4.cells
            rw [HE2.out] at hE4
            cases hE4
            clear hJ4 hP4 hK4 cw4 y0 ht4 hLP4
            gi_wp2
            refine hR.mono ?_
            rintro e w5 ⟨rfl,hJ5⟩
            gi_wp2
            gi_roundg q
            case measure=>omega
            case rel=>exact ⟨k+1,nx (s2,c) x,by omega,by first | rfl | simp,hJ5,by show _=_;rw [← HLN.out HE2.out];exact HL.out.1,by rw [hct];show ct c+1=k+1;have h7:ct c=k:=HL.out.2;omega⟩
        | some y =>
          have hE2:=HP2.out.2.2
          rw [he2] at hE2
          obtain ⟨b2,rfl⟩:=hE2.form
          have HWR:=Lib.hid (wrap_any (s:=s2) (s.i:Int) HPD.out.laid (HP2.out.2.2.keep fun k cs hk=>rfl:Err 1 w2.drew _ s2.e))
          rw [he2] at HWR
          have HE2:=Lib.hid he2
          clear he2 hE2
          gi_region_with (first
            | (refine ⟨trivial,?_⟩;gi_at_call 169;refine (callsIn_wide.2 HWR.out).mono ?_;rintro e w3 ⟨⟨ev3,rfl,hE3⟩,hb3⟩;obtain ⟨b3,rfl⟩:=hE3.form;obtain ⟨cp3,⟨ev3,x103⟩,xf103⟩:=HCW.out w3 hb3;have HB3:=Lib.hid (And.intro hb3 hE3);clear hb3 hE3))
          all_goals
            have hP4:=(HPD.out.below HB3.out.1).up.setErr HB3.out.2
            rw [show ({ s2 with e:=some y }:Ps)=s2 from by rw [← HE2.out]] at hP4
            have hK4:=(HKD.out.trans (Kept3.of_below HB3.out.1)).put 9 (.iface 188 (.pointer (some ⟨b3,0,none⟩)))
            clear cp3 x103 xf103 HB3 cp2 x9 xf9 d9
            generalize World.setCell _ _ _=w4 at hP4 hK4 ⊢
            have hJ4:=HJ.out.2.1 (s,c) (s2,c) wr w4 HJ0.out ⟨rfl,fun N' h'=>PAt.uniq HP.out h' ▸ hP4,hK4⟩
            obtain ⟨cc4,cp4,cw4⟩:=(HC.out.kept hK4 ha).cells
            obtain ⟨ev4,hE4,y0,-,y9,-⟩:=hP4.cells
            rw [HE2.out] at hE4
            obtain ⟨b4,rfl⟩:=hE4.form
            have HF:=Lib.hid (show (s2,c)=eachF wf nx cnt s0 by rw [← HL.out.1];exact (HLS.out (by simp [HE2.out])).symm)
            clear hP4 hK4 cw4 y0 hE4
            gi_wp2
            refine ⟨fun _ h=>(by cases h),?_⟩
            gi_wp2
            refine bodyPost_ret (results_none rfl _ _ _) rfl ?_
            first | exact ⟨⟨_,rfl⟩,_,HF.out,hJ4⟩ | exact ⟨⟨_,rfl⟩,HF.out ▸ hJ4⟩ | exact HF.out ▸ hJ4
    · have hltn:¬ ((k:Int)<(cnt:Int)):=by omega
      obtain rfl:m'=0:=by omega
      have HF:=Lib.hid (show (s,c)=eachF wf nx cnt s0 from HL.out.1)
      clear hP hC hXW hE d0 d1 d9 df cc cp cw HL
      gi_wp2
      refine bodyPost_end (results_none rfl _ _ _) rfl ?_
      first | exact ⟨⟨_,rfl⟩,_,HF.out,hJs⟩ | exact ⟨⟨_,rfl⟩,HF.out ▸ hJs⟩ | exact HF.out ▸ hJs
end Go.Proofs.YtldnepogjnahfaaGreatDoor
