/- The document's own reader of texts by contracts: Begin (conditions: the bytes can be read; at most 400000 of them); The document's own reader of texts by contracts: End (conditions: the reader lies in memory; at most 400000 bytes; the netlist is such that Check's contract speaks of it); The document's own reader of texts by contracts: what stands while Parse goes (conditions: the bytes can be read; at most 400000 of them); The counts of the first line, as the document's reader reads them: what they are at most; Two plain readings are alike: the same, or at the same fault (of a fault only kind and place count). -/
import Derived.Test.YtldnepogjnahfaaGreatDoorVQ7
import Derived.Test.YtldnepogjnahfaaGreatDoorVTx
import Derived.Deep.RegionHeldLaw
import Derived.Deep.AppendLies
set_option linter.unusedVariables false
namespace Go.Proofs.YtldnepogjnahfaaGreatDoor
open Go.ChangeShapes Go.WideShapes Go.RowKit
def Ps.begin7 (x1 x2:List Int) (s:Ps):Bool × Ps :=
  if (s.want x1).1=0 then (false,(s.want x1).2)
  else if ((s.want x1).2.want x2).1=0 then (true,((s.want x1).2.want x2).2)
  else (false,((s.want x1).2.want x2).2.refuse 3 0)
section
variable {x y g B:Nat} {xs:List Int} {mk:Bool} {V:Int} {w:World} {s:Ps}
theorem want7_step (b:ByteArray) (hb:b.size≤1000) (h:RAt x y g B xs mk V w s) :
    Calls Tryz.prog 80 #[.pointer (some ⟨y,0,none⟩),.string b] w fun e w'=>(∃ a,e=.returned (.tuple #[.int .i64 (s.want (Sc.sbytes b)).1,.int .i64 a]))∧RAt x y g B xs mk V w' (s.want (Sc.sbytes b)).2∧Kept3 x y g w w':=by
  have HW:=Sc.rwant_any y B s.i xs b w h.rf h.ord.1 hb
  rw [← h.eq] at HW
  refine HW.mono ?_
  unfold Sc.two
  rintro e w1 ⟨rfl,hR,hO⟩
  exact ⟨⟨_,rfl⟩,h.go hR hO,Kept3.of_onlyY hO⟩
def madeW (w:World) (a:Option Addr) (n c:Nat):World:=(w.alloc (.cells #[.slice a n c,.int .i64 0] 130)).alloc (.cells #[.pointer (some ⟨w.heap.size,0,none⟩),.int .i64 0,.int .i64 0,.int .i64 0,.slice none 0 0] 75)
theorem begun7 {a:Option Addr} {c:Nat} (hs:Sc.Src w w.heap.size a xs) (hn:xs.length≤400000) (hb:∀ z∈xs,0≤z∧z<256) :
    RAt (w.heap.size+1) w.heap.size (w.heap.size+1) w.heap.size xs false 0 (madeW w a xs.length c) (Ps.begun xs):=by
  have h1:=heap_alloc_new w (.cells #[.slice a xs.length c,.int .i64 0] 130)
  have h2:=heap_alloc_new (w.alloc (.cells #[.slice a xs.length c,.int .i64 0] 130)) (.cells #[.pointer (some ⟨w.heap.size,0,none⟩),.int .i64 0,.int .i64 0,.int .i64 0,.slice none 0 0] 75)
  simp only [World.size_alloc] at h2
  have hbl:Below w.heap.size w (madeW w a xs.length c):=((Below.refl _ w).alloc (Nat.le_refl _) _).alloc (by simp) _
  refine ⟨h2,⟨a,c,(Below.heap_alloc _ _ _ (by simp)).trans h1,hn,Nat.zero_le _,hs.keep (r:=w.heap.size) (fun k hk _=>hbl.block k hk) hbl.size (Nat.le_refl _)⟩,rfl,(fun h=>by cases h),(fun z hz=>by cases hz),hb,⟨Nat.le_refl _,Nat.lt_succ_self _,fun h=>by cases h⟩,by decide⟩
theorem madeW_below (w:World) (a:Option Addr) (n c:Nat):Below w.heap.size w (madeW w a n c):=((Below.refl _ w).alloc (Nat.le_refl _) _).alloc (by simp) _
set_option maxRecDepth 100000 in
set_option maxHeartbeats 2000000 in
theorem begin7_any (b1 b2:ByteArray) (x1 x2:List Int) (hb1:Sc.sbytes (b1++⟨#[32]⟩)=x1) (hb2:Sc.sbytes (b2++⟨#[32]⟩)=x2) (hz1:b1.size≤900) (hz2:b2.size≤900) (a:Option Addr) (c:Nat) (hs:Sc.Src w w.heap.size a xs) (hn:xs.length≤400000) (hb:∀ z∈xs,0≤z∧z<256) :
    Calls Tryz.prog 41 #[.slice a xs.length c,.string b1,.string b2] w fun e w'=>e=.returned (.tuple #[.pointer (some ⟨w.heap.size+1,0,none⟩),.bool ((Ps.begun xs).begin7 x1 x2).1])∧RAt (w.heap.size+1) w.heap.size (w.heap.size+1) w.heap.size xs false 0 w' ((Ps.begun xs).begin7 x1 x2).2∧Below w.heap.size w w':=by
  have hP:=begun7 (c:=c) hs hn hb
  have hs':(Ps.begun xs).begin7 x1 x2=if ((Ps.begun xs).want x1).1=0 then (false,((Ps.begun xs).want x1).2) else if (((Ps.begun xs).want x1).2.want x2).1=0 then (true,(((Ps.begun xs).want x1).2.want x2).2) else (false,(((Ps.begun xs).want x1).2.want x2).2.refuse 3 0):=rfl
  rw [hs']
  have H1:=Lib.hid (hb1 ▸ want7_step (b1++(⟨#[32]⟩:ByteArray)) (by rw [ByteArray.size_append];show b1.size+1≤1000;omega) hP)
  have hq:=hP.cells
  have HB:=Lib.hid (madeW_below w a xs.length c)
  have HB2:=Lib.hid (fun (W:World) (h:Kept3 (w.heap.size+1) w.heap.size (w.heap.size+1) (madeW w a xs.length c) W)=>(madeW_below w a xs.length c).trans (h.below (by have:=(madeW_below w a xs.length c).size;omega) (by omega) (by omega) (by omega)))
  have hs1:¬ 9223372036854775807<b1.size+1:=by omega
  have hs2:¬ 9223372036854775807<b2.size+1:=by omega
  obtain ⟨W0,hW0⟩:∃ W0,W0=madeW w a xs.length c:=⟨_,rfl⟩
  rw [← hW0] at H1 HB2
  clear hs' hs hn hb hb1 hP
  generalize (Ps.begun xs).want x1=A at *
  obtain ⟨k1,s1⟩:=A
  have H2:=Lib.hid (fun (W:World) (h:RAt (w.heap.size+1) w.heap.size (w.heap.size+1) w.heap.size xs false 0 W s1)=>hb2 ▸ want7_step (b2++(⟨#[32]⟩:ByteArray)) (by rw [ByteArray.size_append];show b2.size+1≤1000;omega) h)
  clear hb2
  generalize s1.want x2=A at *
  obtain ⟨k2,s2⟩:=A
  unfold madeW at hW0 hq
  obtain ⟨c0,-⟩:=hq
  subst hW0
  by_cases h1:k1=0
  · subst h1
    rw [if_pos rfl]
    go_enter Tryz.func41,Tryz.ntmps41
    go_wp2_with (first
      | (go_at_call 80;refine H1.out.mono ?_;rintro e w1 ⟨⟨a1,rfl⟩,hP1,hK1⟩))
    go_ret2
    exact ⟨rfl,hP1,HB2.out _ hK1⟩
  · rw [if_neg h1]
    by_cases h2:k2=0
    · subst h2
      rw [if_pos rfl]
      go_enter Tryz.func41,Tryz.ntmps41
      go_wp2_with (first
        | (go_at_call 80;refine H1.out.mono ?_;clear H1;rintro e w1 ⟨⟨a1,rfl⟩,hP1,hK1⟩;have d0:=hP1.cells.1;have HP:=Lib.hid (And.intro hP1 hK1);clear hP1 hK1)
        | (go_at_call 80;refine (H2.out _ HP.out.1).mono ?_;rintro e w2 ⟨⟨a2,rfl⟩,hP2,hK2⟩))
      go_ret2
      exact ⟨rfl,hP2,HB2.out _ (HP.out.2.trans hK2)⟩
    · rw [if_neg h2]
      go_enter Tryz.func41,Tryz.ntmps41
      go_wp2_with (first
        | (go_at_call 80;refine H1.out.mono ?_;clear H1;rintro e w1 ⟨⟨a1,rfl⟩,hP1,hK1⟩;have d0:=hP1.cells.1;have HP:=Lib.hid (And.intro hP1 hK1);clear hP1 hK1)
        | (go_at_call 80;refine (H2.out _ HP.out.1).mono ?_;rintro e w2 ⟨⟨a2,rfl⟩,hP2,hK2⟩;have HP2:=Lib.hid (And.intro hP2 (HP.out.2.trans hK2));clear hP2 hK2)
        | (go_at_call 65;refine (fail_any 3 0 (by decide) HP2.out.1).mono ?_;rintro e w3 ⟨rfl,hP3,hK3⟩))
      go_ret2
      exact ⟨rfl,hP3,HB2.out _ (HP2.out.2.trans hK3)⟩
end
def Ps.tail7 (s:Ps):Ps:=if s.l=[] then s else if (s.want [99,10]).1=0 then (s.want [99,10]).2 else (s.want [99,10]).2.refuse 13 s.i
def Ps.finish7 (chk:Int) (s:Ps):Ps:=match s.e with
  | some _=>s
  | none=>s.tail7.refuse chk s.i
structure E2 (x y g B:Nat) (xs:List Int) (mk:Bool) (V:Int) (S:NetS) (n:PNet) (w0 W:World) (t:Ps):Prop where
  pat:RAt x y g B xs mk V W t
  kept:Kept3 x y g w0 W
  net:NAt x y g W S n
  box:W.heap[w0.heap.size]?=some (.cells #[.int .i64 n.vars,.slice S.i n.inputs.length S.ic,.slice S.l n.latches.length S.lc,.slice S.o n.outs.length S.oc,.slice S.b n.bads.length S.bc,.slice S.c n.cons.length S.cc,.slice S.m n.mems.length S.mc,.slice S.a n.ands.length S.ac] 27 (0,0))
  out:W.heap[w0.heap.size+1]?=some (.cells #[.int .i64 0,.slice none 0 0,.slice none 0 0,.slice none 0 0,.slice none 0 0,.slice none 0 0,.slice none 0 0,.slice none 0 0] 27 (0,0))
section
variable {x y g B:Nat} {xs:List Int} {mk:Bool} {V:Int} {w0 w:World} {s:Ps} {S:NetS} {n:PNet}
theorem E2.call {w':World} {s':Ps} (h:E2 x y g B xs mk V S n w0 w s) (hg:x<w0.heap.size∧y<w0.heap.size∧g<w0.heap.size) (hP:RAt x y g B xs mk V w' s') (hK:Kept3 x y g w w'):E2 x y g B xs mk V S n w0 w' s' :=
  ⟨hP,h.kept.trans hK,h.net.kept hK,(hK.block _ (lt_of_row h.box) (by omega) (by omega) (by omega)).trans h.box,(hK.block _ (lt_of_row h.out) (by omega) (by omega) (by omega)).trans h.out⟩
theorem E2.new (h:RAt x y g B xs mk V w s) (hN:NAt x y g w S n):E2 x y g B xs mk V S n w ((w.alloc (.cells #[.int .i64 n.vars,.slice S.i n.inputs.length S.ic,.slice S.l n.latches.length S.lc,.slice S.o n.outs.length S.oc,.slice S.b n.bads.length S.bc,.slice S.c n.cons.length S.cc,.slice S.m n.mems.length S.mc,.slice S.a n.ands.length S.ac] 27)).alloc (.cells #[.int .i64 0,.slice none 0 0,.slice none 0 0,.slice none 0 0,.slice none 0 0,.slice none 0 0,.slice none 0 0,.slice none 0 0] 27)) s:=by
  have h1:=heap_alloc_new w (.cells #[.int .i64 n.vars,.slice S.i n.inputs.length S.ic,.slice S.l n.latches.length S.lc,.slice S.o n.outs.length S.oc,.slice S.b n.bads.length S.bc,.slice S.c n.cons.length S.cc,.slice S.m n.mems.length S.mc,.slice S.a n.ands.length S.ac] 27)
  have h2:=heap_alloc_new (w.alloc (.cells #[.int .i64 n.vars,.slice S.i n.inputs.length S.ic,.slice S.l n.latches.length S.lc,.slice S.o n.outs.length S.oc,.slice S.b n.bads.length S.bc,.slice S.c n.cons.length S.cc,.slice S.m n.mems.length S.mc,.slice S.a n.ands.length S.ac] 27)) (.cells #[.int .i64 0,.slice none 0 0,.slice none 0 0,.slice none 0 0,.slice none 0 0,.slice none 0 0,.slice none 0 0,.slice none 0 0] 27)
  simp only [World.size_alloc] at h2
  have hb:Below w.heap.size w ((w.alloc (.cells #[.int .i64 n.vars,.slice S.i n.inputs.length S.ic,.slice S.l n.latches.length S.lc,.slice S.o n.outs.length S.oc,.slice S.b n.bads.length S.bc,.slice S.c n.cons.length S.cc,.slice S.m n.mems.length S.mc,.slice S.a n.ands.length S.ac] 27)).alloc (.cells #[.int .i64 0,.slice none 0 0,.slice none 0 0,.slice none 0 0,.slice none 0 0,.slice none 0 0,.slice none 0 0,.slice none 0 0] 27)):=((Below.refl _ w).alloc (Nat.le_refl _) _).alloc (by simp) _
  exact ⟨h.below hb,Kept3.of_below hb,hN.kept (Kept3.of_below hb),(Below.heap_alloc _ _ _ (by simp)).trans h1,h2⟩
theorem sb_c7:Sc.sbytes ⟨#[99,10]⟩=[99,10]:=by decide
theorem drew_row {W:World} {q:Nat} {o:Option Obj} (h:W.heap[q]?=o):W.drew.heap[q]?=o:=h
def EndLeft (x y g:Nat) (w:World) (z:PNet × Int × Int) (e:Ending) (w':World):Prop :=
  ∃ (n:PNet) (S:NetS),n=z.1∧e=.returned (.tuple #[.agg #[.int .i64 n.vars,.slice S.i n.inputs.length S.ic,.slice S.l n.latches.length S.lc,.slice S.o n.outs.length S.oc,.slice S.b n.bads.length S.bc,.slice S.c n.cons.length S.cc,.slice S.m n.mems.length S.mc,.slice S.a n.ands.length S.ac],.int .i64 z.2.1,.int .i64 z.2.2])∧NAt x y g w' S n∧Kept3 x y g w w'
theorem Kept3.eight {A W:World} {q:Nat} (h:Kept3 x y g A W) (hq:A.heap.size≤q) (v0 v1 v2 v3 v4 v5 v6 v7:Value):Kept3 x y g A ((((((((W.setCell ⟨q,0,none⟩ v0).setCell ⟨q,1,none⟩ v1).setCell ⟨q,2,none⟩ v2).setCell ⟨q,3,none⟩ v3).setCell ⟨q,4,none⟩ v4).setCell ⟨q,5,none⟩ v5).setCell ⟨q,6,none⟩ v6).setCell ⟨q,7,none⟩ v7) :=
  (((((((h.setBox hq).setBox hq).setBox hq).setBox hq).setBox hq).setBox hq).setBox hq).setBox hq
set_option maxRecDepth 100000 in
set_option maxHeartbeats 8000000 in
theorem end7_any (h:RAt x y g B xs mk V w s) (hg:g<w.heap.size) (hN:NAt x y g w S n) (hn:s.e=none→n.fits∧n.modest∧n.near) :
    Calls Tryz.prog 49 #[.pointer (some ⟨x,0,none⟩),.agg #[.int .i64 n.vars,.slice S.i n.inputs.length S.ic,.slice S.l n.latches.length S.lc,.slice S.o n.outs.length S.oc,.slice S.b n.bads.length S.bc,.slice S.c n.cons.length S.cc,.slice S.m n.mems.length S.mc,.slice S.a n.ands.length S.ac]] w (EndLeft x y g w (told n (s.finish7 n.check))):=by
  have hgs:x<w.heap.size∧y<w.heap.size∧g<w.heap.size:=⟨h.lt.1,h.lt.2.1,hg⟩
  have hE:=E2.new h hN
  obtain ⟨p0,p1,p2,-,-,p5,-⟩:=hE.pat.cells
  have HG:=Lib.hid hgs
  have hxs:x<w.heap.size:=hgs.1
  cases he:s.e with
  | some z =>
    rw [show told n (s.finish7 n.check)=(n0 0,z.2,z.1) by unfold Ps.finish7;rw [he];unfold told;rw [he]]
    rw [he] at p1 p2
    have hkz:=h.kind z he
    obtain ⟨q1,q2⟩:=z
    have hq1:¬ q1=0:=hkz
    unfold fK at p1
    unfold fA at p2
    dsimp only at p1 p2
    have HE9:=Lib.hid hE
    obtain ⟨⟨c0,c1,c2,c3,c4,c5,c6,c7⟩,hf⟩:=eight_cells hE.out;have f0:=hf 0;have f1:=hf 1;have f2:=hf 2;have f3:=hf 3;have f4:=hf 4;have f5:=hf 5;have f6:=hf 6;have f7:=hf 7;clear hf
    clear h hN hn hE hkz he hgs
    go_enter Tryz.func49,Tryz.ntmps49
    go_wp2_with fail
    go_region
    go_wp2_with fail
    refine bodyPost_ret (results_net rfl _ _ (w.heap.size+1) 27 _ (0,0) _ rfl (drew_row HE9.out.out) Tryz.underlying27 rfl (by kernel_rfl) _ _ rfl rfl) rfl ?_
    exact ⟨n0 0,S0,rfl,rfl,nat_empty x y g _ 0,HE9.out.kept.drew⟩
  | none =>
    rw [he] at p1
    unfold fK at p1
    obtain ⟨hf1,hf2,hf3⟩:=hn he
    obtain ⟨k,hk⟩:∃ k,n.check=k:=⟨_,rfl⟩
    have HC:=Lib.hid (fun (W:World) (h:NAt x y g W S n)=>hk ▸ rcheck6_any n S W h.net hf1 hf2 hf3)
    rw [show s.finish7 n.check=s.tail7.refuse k s.i by unfold Ps.finish7;rw [he,hk]]
    obtain ⟨a,c,b0,-,-⟩:=hE.pat.rf.cells
    have hil:s.l.length=xs.length - s.i:=by rw [h.eq,List.length_drop]
    have hix:s.i≤xs.length:=by obtain ⟨_,_,_,_,h3,_⟩:=h.rf;exact h3
    have hxl:xs.length≤400000:=by obtain ⟨_,_,_,h3,_,_⟩:=h.rf;exact h3
    have HE:=Lib.hid hE
    by_cases hl:s.l=[]
    · rw [show s.tail7=s by unfold Ps.tail7;rw [if_pos hl]]
      have hi:s.i=xs.length:=by rw [hl] at hil;simp at hil;omega
      rw [hi] at p5
      have hsi:((s.i:Nat):Int)=xs.length:=by rw [hi]
      rw [hsi]
      by_cases hk0:k=0
      · subst hk0
        rw [Ps.refuse_ok,show told n s=(n,0,0) by unfold told;rw [he]]
        clear h hN hn hE hgs hil hl hf1 hf2 hf3 hix hi hsi
        go_enter Tryz.func49,Tryz.ntmps49
        go_wp2_with (first
          | (go_at_call 16;refine (HC.out _ HE.out.net).mono ?_;rintro e w3 ⟨rfl,hb3⟩;have hE3:=HE.out.call HG.out (HE.out.pat.below hb3) (Kept3.of_below hb3);have m1:=hE3.pat.cells.2.1;rw [he] at m1;unfold fK at m1;obtain ⟨⟨e0,e1,e2,e3,e4,e5,e6,e7⟩,-⟩:=eight_cells hE3.box;obtain ⟨⟨c0,c1,c2,c3,c4,c5,c6,c7⟩,hf⟩:=eight_cells hE3.out;have f0:=hf 0;have f1:=hf 1;have f2:=hf 2;have f3:=hf 3;have f4:=hf 4;have f5:=hf 5;have f6:=hf 6;have f7:=hf 7;clear hf;have HE9:=Lib.hid hE3;clear hE3))
        refine bodyPost_ret (results_net rfl _ _ (w.heap.size+1) 27 _ (0,0) _ rfl (eight_put HE9.out.out (.int .i64 n.vars) (.slice S.i n.inputs.length S.ic) (.slice S.l n.latches.length S.lc) (.slice S.o n.outs.length S.oc) (.slice S.b n.bads.length S.bc) (.slice S.c n.cons.length S.cc) (.slice S.m n.mems.length S.mc) (.slice S.a n.ands.length S.ac)) Tryz.underlying27 rfl (by kernel_rfl) _ _ rfl rfl) rfl ?_
        exact ⟨n,S,rfl,rfl,HE9.out.net.dataN (eight_data HE9.out.out (.int .i64 n.vars) (.slice S.i n.inputs.length S.ic) (.slice S.l n.latches.length S.lc) (.slice S.o n.outs.length S.oc) (.slice S.b n.bads.length S.bc) (.slice S.c n.cons.length S.cc) (.slice S.m n.mems.length S.mc) (.slice S.a n.ands.length S.ac)),HE9.out.kept.eight (Nat.le_succ _) (.int .i64 n.vars) (.slice S.i n.inputs.length S.ic) (.slice S.l n.latches.length S.lc) (.slice S.o n.outs.length S.oc) (.slice S.b n.bads.length S.bc) (.slice S.c n.cons.length S.cc) (.slice S.m n.mems.length S.mc) (.slice S.a n.ands.length S.ac)⟩
      · have he4:(s.refuse k (xs.length:Nat)).e=some (k,((xs.length:Nat):Int)):=by rw [Ps.refuse_none he hk0]
        rw [show told n (s.refuse k (xs.length:Nat))=(n0 0,((xs.length:Nat):Int),k) by unfold told;rw [he4]]
        clear h hN hn hE hgs hil hl hf1 hf2 hf3 hix hi hsi
        go_enter Tryz.func49,Tryz.ntmps49
        go_wp2_with (first
          | (go_at_call 16;refine (HC.out _ HE.out.net).mono ?_;rintro e w3 ⟨rfl,hb3⟩;have hE3:=HE.out.call HG.out (HE.out.pat.below hb3) (Kept3.of_below hb3);have HE3:=Lib.hid hE3;clear hE3)
          | (go_at_call 65;refine (fail_any k xs.length hk0 HE3.out.pat).mono ?_;rintro e w4 ⟨rfl,hP4,hK4⟩;have hE4:=HE3.out.call HG.out hP4 hK4;obtain ⟨-,m1,m2,-,-,-,-⟩:=hE4.pat.cells;rw [he4] at m1 m2;unfold fK at m1;unfold fA at m2;dsimp only at m1 m2;obtain ⟨⟨c0,c1,c2,c3,c4,c5,c6,c7⟩,hf⟩:=eight_cells hE4.out;have f0:=hf 0;have f1:=hf 1;have f2:=hf 2;have f3:=hf 3;have f4:=hf 4;have f5:=hf 5;have f6:=hf 6;have f7:=hf 7;clear hf;have HE9:=Lib.hid hE4;clear hE4))
        go_region
        all_goals go_wp2_with fail
        all_goals
          refine bodyPost_ret (results_net rfl _ _ (w.heap.size+1) 27 _ (0,0) _ rfl (drew_row (eight_put HE9.out.out (.int .i64 0) (.slice none 0 0) (.slice none 0 0) (.slice none 0 0) (.slice none 0 0) (.slice none 0 0) (.slice none 0 0) (.slice none 0 0))) Tryz.underlying27 rfl (by kernel_rfl) _ _ rfl rfl) rfl ?_
          exact ⟨n0 0,S0,rfl,rfl,nat_empty x y g _ 0,((HE9.out.kept.eight (Nat.le_succ _) (.int .i64 0) (.slice none 0 0) (.slice none 0 0) (.slice none 0 0) (.slice none 0 0) (.slice none 0 0) (.slice none 0 0) (.slice none 0 0))).drew⟩
    · have hlt:((s.i:Nat):Int)<((xs.length:Nat):Int):=by
        have:0<s.l.length:=List.length_pos_iff.2 hl
        omega
      obtain ⟨⟨kw,t⟩,e1⟩:∃ X,s.want [99,10]=X:=⟨_,rfl⟩
      have hte:t.e=none:=by
        have h0:(s.want [99,10]).2.e=s.e:=rfl
        rw [e1,he] at h0
        exact h0
      have HW:=Lib.hid (e1 ▸ sb_c7 ▸ want7_step ⟨#[99,10]⟩ (by decide) hE.pat)
      have ht7:s.tail7=if kw=0 then t else t.refuse 13 s.i:=by unfold Ps.tail7;rw [if_neg hl,e1]
      rw [ht7]
      obtain ⟨i,hi⟩:∃ i:Int,((s.i:Nat):Int)=i:=⟨_,rfl⟩
      rw [hi] at p5 hlt ⊢
      dsimp only at HW
      clear e1 ht7 h hN hn hE hgs hil hl hf1 hf2 hf3 hix hi he
      by_cases hw0:kw=0
      · subst hw0
        rw [if_pos rfl]
        by_cases hk0:k=0
        · subst hk0
          rw [Ps.refuse_ok,show told n t=(n,0,0) by unfold told;rw [hte]]
          go_enter Tryz.func49,Tryz.ntmps49
          go_wp2_with (first
            | (go_at_call 80;refine HW.out.mono ?_;rintro e w1 ⟨⟨a1,rfl⟩,hP1,hK1⟩;have hE1:=HE.out.call HG.out hP1 hK1;clear hP1 hK1 HW;have m0:=hE1.pat.cells.2.1;rw [hte] at m0;unfold fK at m0;obtain ⟨⟨g0,g1,g2,g3,g4,g5,g6,g7⟩,-⟩:=eight_cells hE1.box;have HE1:=Lib.hid hE1;clear hE1)
            | (go_at_call 16;refine (HC.out _ HE1.out.net).mono ?_;rintro e w3 ⟨rfl,hb3⟩;have hE3:=HE1.out.call HG.out (HE1.out.pat.below hb3) (Kept3.of_below hb3);have m1:=hE3.pat.cells.2.1;rw [hte] at m1;unfold fK at m1;obtain ⟨⟨e0,e1,e2,e3,e4,e5,e6,e7⟩,-⟩:=eight_cells hE3.box;obtain ⟨⟨c0,c1,c2,c3,c4,c5,c6,c7⟩,hf⟩:=eight_cells hE3.out;have f0:=hf 0;have f1:=hf 1;have f2:=hf 2;have f3:=hf 3;have f4:=hf 4;have f5:=hf 5;have f6:=hf 6;have f7:=hf 7;clear hf;have HE9:=Lib.hid hE3;clear hE3))
          refine bodyPost_ret (results_net rfl _ _ (w.heap.size+1) 27 _ (0,0) _ rfl (eight_put HE9.out.out (.int .i64 n.vars) (.slice S.i n.inputs.length S.ic) (.slice S.l n.latches.length S.lc) (.slice S.o n.outs.length S.oc) (.slice S.b n.bads.length S.bc) (.slice S.c n.cons.length S.cc) (.slice S.m n.mems.length S.mc) (.slice S.a n.ands.length S.ac)) Tryz.underlying27 rfl (by kernel_rfl) _ _ rfl rfl) rfl ?_
          exact ⟨n,S,rfl,rfl,HE9.out.net.dataN (eight_data HE9.out.out (.int .i64 n.vars) (.slice S.i n.inputs.length S.ic) (.slice S.l n.latches.length S.lc) (.slice S.o n.outs.length S.oc) (.slice S.b n.bads.length S.bc) (.slice S.c n.cons.length S.cc) (.slice S.m n.mems.length S.mc) (.slice S.a n.ands.length S.ac)),HE9.out.kept.eight (Nat.le_succ _) (.int .i64 n.vars) (.slice S.i n.inputs.length S.ic) (.slice S.l n.latches.length S.lc) (.slice S.o n.outs.length S.oc) (.slice S.b n.bads.length S.bc) (.slice S.c n.cons.length S.cc) (.slice S.m n.mems.length S.mc) (.slice S.a n.ands.length S.ac)⟩
        · have he4:(t.refuse k i).e=some (k,i):=by rw [Ps.refuse_none hte hk0]
          rw [show told n (t.refuse k i)=(n0 0,i,k) by unfold told;rw [he4]]
          go_enter Tryz.func49,Tryz.ntmps49
          go_wp2_with (first
            | (go_at_call 80;refine HW.out.mono ?_;rintro e w1 ⟨⟨a1,rfl⟩,hP1,hK1⟩;have hE1:=HE.out.call HG.out hP1 hK1;clear hP1 hK1 HW;have m0:=hE1.pat.cells.2.1;rw [hte] at m0;unfold fK at m0;obtain ⟨⟨g0,g1,g2,g3,g4,g5,g6,g7⟩,-⟩:=eight_cells hE1.box;have HE1:=Lib.hid hE1;clear hE1)
            | (go_at_call 16;refine (HC.out _ HE1.out.net).mono ?_;rintro e w3 ⟨rfl,hb3⟩;have hE3:=HE1.out.call HG.out (HE1.out.pat.below hb3) (Kept3.of_below hb3);have m3:=hE3.pat.cells.2.1;rw [hte] at m3;unfold fK at m3;have HE3:=Lib.hid hE3;clear hE3)
            | (go_at_call 65;refine (fail_any k i hk0 HE3.out.pat).mono ?_;rintro e w4 ⟨rfl,hP4,hK4⟩;have hE4:=HE3.out.call HG.out hP4 hK4;obtain ⟨-,m1,m2,-,-,-,-⟩:=hE4.pat.cells;rw [he4] at m1 m2;unfold fK at m1;unfold fA at m2;dsimp only at m1 m2;obtain ⟨⟨c0,c1,c2,c3,c4,c5,c6,c7⟩,hf⟩:=eight_cells hE4.out;have f0:=hf 0;have f1:=hf 1;have f2:=hf 2;have f3:=hf 3;have f4:=hf 4;have f5:=hf 5;have f6:=hf 6;have f7:=hf 7;clear hf;have HE9:=Lib.hid hE4;clear hE4))
          go_region
          all_goals go_wp2_with fail
          all_goals
            refine bodyPost_ret (results_net rfl _ _ (w.heap.size+1) 27 _ (0,0) _ rfl (drew_row (eight_put HE9.out.out (.int .i64 0) (.slice none 0 0) (.slice none 0 0) (.slice none 0 0) (.slice none 0 0) (.slice none 0 0) (.slice none 0 0) (.slice none 0 0))) Tryz.underlying27 rfl (by kernel_rfl) _ _ rfl rfl) rfl ?_
            exact ⟨n0 0,S0,rfl,rfl,nat_empty x y g _ 0,((HE9.out.kept.eight (Nat.le_succ _) (.int .i64 0) (.slice none 0 0) (.slice none 0 0) (.slice none 0 0) (.slice none 0 0) (.slice none 0 0) (.slice none 0 0) (.slice none 0 0))).drew⟩
      · rw [if_neg hw0]
        have he4:(t.refuse 13 i).e=some (13,i):=by rw [Ps.refuse_none hte (by decide)]
        rw [show (t.refuse 13 i).refuse k i=t.refuse 13 i from Ps.refuse_some he4 _ _,show told n (t.refuse 13 i)=(n0 0,i,13) by unfold told;rw [he4]]
        go_enter Tryz.func49,Tryz.ntmps49
        go_wp2_with (first
          | (go_at_call 80;refine HW.out.mono ?_;rintro e w1 ⟨⟨a1,rfl⟩,hP1,hK1⟩;have hE1:=HE.out.call HG.out hP1 hK1;clear hP1 hK1 HW;have HE1:=Lib.hid hE1;clear hE1)
          | (go_at_call 65;refine (fail_any 13 i (by decide) HE1.out.pat).mono ?_;rintro e w4 ⟨rfl,hP4,hK4⟩;have hE4:=HE1.out.call HG.out hP4 hK4;obtain ⟨-,m1,m2,-,-,-,-⟩:=hE4.pat.cells;rw [he4] at m1 m2;unfold fK at m1;unfold fA at m2;dsimp only at m1 m2;obtain ⟨⟨c0,c1,c2,c3,c4,c5,c6,c7⟩,hf⟩:=eight_cells hE4.out;have f0:=hf 0;have f1:=hf 1;have f2:=hf 2;have f3:=hf 3;have f4:=hf 4;have f5:=hf 5;have f6:=hf 6;have f7:=hf 7;clear hf;have HE9:=Lib.hid hE4;clear hE4))
        go_region
        all_goals go_wp2_with fail
        all_goals
          refine bodyPost_ret (results_net rfl _ _ (w.heap.size+1) 27 _ (0,0) _ rfl (drew_row (eight_put HE9.out.out (.int .i64 0) (.slice none 0 0) (.slice none 0 0) (.slice none 0 0) (.slice none 0 0) (.slice none 0 0) (.slice none 0 0) (.slice none 0 0))) Tryz.underlying27 rfl (by kernel_rfl) _ _ rfl rfl) rfl ?_
          exact ⟨n0 0,S0,rfl,rfl,nat_empty x y g _ 0,((HE9.out.kept.eight (Nat.le_succ _) (.int .i64 0) (.slice none 0 0) (.slice none 0 0) (.slice none 0 0) (.slice none 0 0) (.slice none 0 0) (.slice none 0 0) (.slice none 0 0))).drew⟩
end
def nrow (V:Int) (N:NC):Array Value:=#[.int .i64 V,N.c1,N.c2,N.c3,N.c4,N.c5,N.c6,N.c7]
structure PQ (x y g B:Nat) (xs:List Int) (V:Int) (rb cb nb:Nat) (f:Nat→Int) (w0:World) (N:NC) (W:World) (t:Ps):Prop where
  pat:RAt x y g B xs true V W t
  below:Below w0.heap.size w0 W
  out:W.heap[rb]?=some (.cells #[.int .i64 0,.slice none 0 0,.slice none 0 0,.slice none 0 0,.slice none 0 0,.slice none 0 0,.slice none 0 0,.slice none 0 0] 27 (0,0))
  cnt:W.heap[cb]?=some (.cells (cv f) 71 (0,0))
  net:W.heap[nb]?=some (.cells (nrow V N) 27 (0,0))
  ord:w0.heap.size≤rb∧rb<y∧y<x∧x<g∧g<cb∧cb<nb
section
variable {x y g B:Nat} {xs:List Int} {V:Int} {rb cb nb:Nat} {f:Nat→Int} {w0 W:World} {N:NC} {t:Ps}
theorem PQ.lt (h:PQ x y g B xs V rb cb nb f w0 N W t):nb<W.heap.size:=lt_of_row h.net
theorem PQ.stay {W':World} {t':Ps} (h:PQ x y g B xs V rb cb nb f w0 N W t) (hP:RAt x y g B xs true V W' t') (hs:W.heap.size≤W'.heap.size) (hos:W'.os=W.os∧W'.tape=W.tape∧W'.output=W.output) (hb:∀ k,k≤nb→k≠x→k≠y→k≠g→W'.heap[k]?=W.heap[k]?):PQ x y g B xs V rb cb nb f w0 N W' t':=by
  obtain ⟨o1,o2,o3,o4,o5,o6⟩:=h.ord
  have hlt:=h.lt
  exact ⟨hP,⟨hos.1.trans h.below.os,hos.2.1.trans h.below.tape,hos.2.2.trans h.below.output,Nat.le_trans h.below.size hs,fun k hk=>(hb k (by omega) (by omega) (by omega) (by omega)).trans (h.below.block k hk)⟩,(hb rb (by omega) (by omega) (by omega) (by omega)).trans h.out,(hb cb (by omega) (by omega) (by omega) (by omega)).trans h.cnt,(hb nb (by omega) (by omega) (by omega) (by omega)).trans h.net,h.ord⟩
theorem PQ.call {W':World} {t':Ps} (h:PQ x y g B xs V rb cb nb f w0 N W t) (hP:RAt x y g B xs true V W' t') (hK:Kept3 x y g W W'):PQ x y g B xs V rb cb nb f w0 N W' t' :=
  h.stay hP hK.size ⟨hK.os,hK.tape,hK.output⟩ fun k hk h1 h2 h3=>hK.block k (by have:=h.lt;omega) h1 h2 h3
theorem PQ.later {W':World} (h:PQ x y g B xs V rb cb nb f w0 N W t) (hb:Below W.heap.size W W'):PQ x y g B xs V rb cb nb f w0 N W' t :=
  h.call (h.pat.below hb) (Kept3.of_below hb)
theorem PQ.drew (h:PQ x y g B xs V rb cb nb f w0 N W t):PQ x y g B xs V rb cb nb f w0 N W.drew t:=h.later (Below.refl _ W).drew
theorem PQ.alloc (h:PQ x y g B xs V rb cb nb f w0 N W t) (o:Obj):PQ x y g B xs V rb cb nb f w0 N (W.alloc o) t:=h.later ((Below.refl _ W).alloc (Nat.le_refl _) o)
theorem PQ.grown {W':World} {base e size n:Nat} {v:Value} {zs:List Value} (h:PQ x y g B xs V rb cb nb f w0 N W t) (ho:W.ownsRow base e size v n zs) (hb:nb<base) (hg:W.grownBy W' v.ownBlock) (hos:W'.os=W.os∧W'.tape=W.tape∧W'.output=W.output):PQ x y g B xs V rb cb nb f w0 N W' t:=by
  obtain ⟨o1,o2,o3,o4,o5,o6⟩:=h.ord
  exact h.stay (h.pat.grown ho ⟨by omega,fun _=>by omega⟩ hg) hg.size hos fun k hk _ _ _=>hg.block k (by have:=h.lt;omega) fun e'=>by have:=(ho.lt k e'.symm).1;omega
theorem PQ.ncell (h:PQ x y g B xs V rb cb nb f w0 N W t) {j:Nat} {v:Value} (hj:(nrow V N)[j]?=some v):W.cell? ⟨nb,j,none⟩=some v:=(cell_of_row _ _ _ _ _ _ h.net).trans hj
theorem PQ.nfree (h:PQ x y g B xs V rb cb nb f w0 N W t) (j:Nat):W.frozen? ⟨nb,j,none⟩=false:=frozen_of_row _ _ _ _ _ h.net
theorem PQ.ccell (h:PQ x y g B xs V rb cb nb f w0 N W t) (j:Nat) (hj:j<8):W.cell? ⟨cb,j,none⟩=some (.int .i64 (f j)):=(cell_of_row _ _ _ _ _ _ h.cnt).trans (cv_get f j hj)
theorem PQ.put {N':NC} (h:PQ x y g B xs V rb cb nb f w0 N W t) (j:Nat) (v:Value) (hN:(nrow V N).setIfInBounds j v=nrow V N'):PQ x y g B xs V rb cb nb f w0 N' (W.setCell ⟨nb,j,none⟩ v) t:=by
  obtain ⟨o1,o2,o3,o4,o5,o6⟩:=h.ord
  have hB:=h.pat.ord.1
  have ho:∀ k,k≠nb→(W.setCell ⟨nb,j,none⟩ v).heap[k]?=W.heap[k]?:=fun k hk=>heap_setCell_other _ _ _ _ (by simpa using hk)
  refine ⟨h.pat.setBox ⟨by omega,fun _=>by omega⟩,h.below.setCell (p:=⟨nb,j,none⟩) (by show w0.heap.size≤nb;omega) v,(ho rb (by omega)).trans h.out,(ho cb (by omega)).trans h.cnt,?_,h.ord⟩
  rw [← hN]
  exact heap_setCell_same W nb j _ _ v h.net
end
def Ps.inputQ (V:Int) (s:Ps):Int × Ps:=((s.definition V 1).1,(s.definition V 1).2.expect [10])
def Ps.latchQ (V:Int) (s:Ps):PLatch × Ps:=Ps.ln (fun t=>t.latchV V (s.definition V 1).1) ((s.definition V 1).2.expect [32])
def Ps.andQ (V:Int) (s:Ps):PAnd × Ps :=
  let d:=s.definition V 1
  let l:=d.2.litsQ V 2
  (⟨d.1,l.1.getD 0 0,l.1.getD 1 0⟩,l.2.expect [10])
theorem countsQ_in:∀ (m k:Nat) (a:(Nat→Int) × Ps),(∀ j,0≤a.1 j∧a.1 j≤lim j)→∀ j,0≤(countsQ m k a).1 j∧(countsQ m k a).1 j≤lim j
  | 0,k,a,h=>h
  | m+1,k,a,h=>by
    show ∀ j,0≤(if a.2.e.isSome then a else countsQ m (k+1) (a.2.countQ k a.1)).1 j∧(if a.2.e.isSome then a else countsQ m (k+1) (a.2.countQ k a.1)).1 j≤lim j
    split
    · exact h
    · exact countsQ_in m (k+1) _ (Ps.countQ_in h)
theorem counts7_in (mems:Bool) (s:Ps):∀ j,0≤(s.counts7 mems).1 j∧(s.counts7 mems).1 j≤lim j :=
  countsQ_in _ 0 _ (fun j=>⟨Int.le_refl 0,(lim_in j).1⟩)
theorem countsQ_none:∀ (m k:Nat) (a:(Nat→Int) × Ps),(countsQ m k a).2.e=none→a.2.e=none
  | 0,k,a,h=>h
  | m+1,k,a,h=>by
    cases he:a.2.e with
    | none=>rfl
    | some z =>
      rw [countsQ_bad (by simp [he])] at h
      rw [he] at h
      cases h
theorem countsQ_keep:∀ (m k:Nat) (a:(Nat→Int) × Ps) (j:Nat),j<k→(countsQ m k a).1 j=a.1 j
  | 0,k,a,j,hj=>rfl
  | m+1,k,a,j,hj=>by
    show (if a.2.e.isSome then a else countsQ m (k+1) (a.2.countQ k a.1)).1 j=a.1 j
    split
    · rfl
    · rw [countsQ_keep m (k+1) _ j (by omega)]
      show upd a.1 k _ j=a.1 j
      unfold upd
      rw [if_neg (by omega)]
theorem countsQ_six:∀ (m k:Nat) (a:(Nat→Int) × Ps),k≤6→7≤k+m→(countsQ m k a).2.e=none→(countsQ m k a).1 3+(countsQ m k a).1 5+(countsQ m k a).1 6≤1000
  | 0,k,a,hk,hm,h=>by omega
  | m+1,k,a,hk,hm,h=>by
    obtain ⟨f,s⟩:=a
    have he:s.e=none:=countsQ_none _ _ _ h
    rw [countsQ_go he] at h ⊢
    by_cases h6:k=6
    · subst h6
      have h2:=countsQ_none _ _ _ h
      rw [countsQ_keep m _ _ 3 (by decide),countsQ_keep m _ _ 5 (by decide),countsQ_keep m _ _ 6 (by decide)]
      unfold Ps.countQ at h2 ⊢
      dsimp only at h2 ⊢
      split at h2
      · exact absurd h2 (Ps.refuse_none_in (by decide))
      · rename_i hc
        exact Int.not_lt.1 (fun hh=>hc (.inl ⟨rfl,h2,hh⟩))
    · exact countsQ_six m (k+1) _ (by omega) (by omega) h
theorem counts7_small {mems:Bool} {s:Ps} (h:(s.counts7 mems).2.e=none):(s.counts7 mems).1 3+(s.counts7 mems).1 5+(s.counts7 mems).1 6≤1000 :=
  countsQ_six _ 0 _ (by decide) (by cases mems <;> decide) (Ps.expect_none h)
theorem Ps.definition_none {V:Int} {cnt:Nat} {s:Ps} (h:(s.definition V cnt).2.e=none):s.e=none:=by
  unfold Ps.definition at h
  split at h
  · exact absurd h (Ps.refuse_none_in (by decide))
  · split at h
    · exact absurd h (Ps.refuse_none_in (by decide))
    · exact Ps.within_none (show (s.literal V).2.e=none from h)
theorem Ps.start_none {v:Int} {s:Ps} (h:(s.start v).2.e=none):s.e=none:=by
  unfold Ps.start at h
  split at h
  · exact Ps.within_none h
  · split at h
    · exact Ps.within_none (show s.anyNumber.2.e=none from h)
    · exact absurd h (Ps.refuse_none_in (by decide))
theorem lineQ_none {V:Int} {t:Ps} (h:(Ps.ln (fun t:Ps=>t.literal V) t).2.e=none):t.e=none:=Ps.within_none (show (t.literal V).2.e=none from Ps.expect_none h)
theorem latchQ_none {V:Int} {t:Ps} (h:(Ps.latchQ V t).2.e=none):t.e=none:=by
  have h1:((((((t.definition V 1).2.expect [32]).literal V).2.expect [32]).start (t.definition V 1).1).2).e=none:=Ps.expect_none h
  exact Ps.definition_none (Ps.expect_none (Ps.within_none (Ps.expect_none (Ps.start_none h1))))
theorem inputQ_none {V:Int} {t:Ps} (h:(Ps.inputQ V t).2.e=none):t.e=none:=Ps.definition_none (Ps.expect_none h)
def Sim (s t:Ps):Prop:=s=t∨(s.e=t.e∧s.e≠none)
theorem Sim.refl (s:Ps):Sim s s:=.inl rfl
theorem Sim.fault {s t:Ps} (h:Sim s t):s.e=t.e:=by
  rcases h with rfl | h
  · rfl
  · exact h.1
theorem Sim.same {s t:Ps} (h:Sim s t) (he:s.e=none):s=t:=by
  rcases h with h | h
  · exact h
  · exact absurd he h.2
def Holds (F:Ps→Ps):Prop:=∀ s:Ps,s.e≠none→F s=s
theorem Sim.two {F G:Ps→Ps} (hF:Holds F) (hG:Holds G) (hFG:∀ s:Ps,s.e=none→Sim (F s) (G s)) {s t:Ps} (h:Sim s t):Sim (F s) (G t):=by
  cases he:s.e with
  | none=>obtain rfl:=h.same he;exact hFG s he
  | some z =>
    have h1:s.e≠none:=by rw [he];simp
    have h2:t.e≠none:=by rw [← h.fault];exact h1
    rw [hF s h1,hG t h2]
    exact h
theorem Holds.comp {F G:Ps→Ps} (hF:Holds F) (hG:Holds G):Holds (fun s=>G (F s)):=fun s h=>by
  show G (F s)=s
  rw [hF s h,hG s h]
theorem holds_expect (b:List Int):Holds (fun s=>s.expect b):=fun s h=>by
  show s.expect b=s
  unfold Ps.expect
  cases he:s.e with
  | none=>exact absurd he h
  | some z=>rfl
theorem within_bad {s:Ps} (h:s.e≠none) (lo hi k:Int):s.within lo hi k=(0,s):=by
  unfold Ps.within
  cases he:s.e with
  | none=>exact absurd he h
  | some z=>rfl
theorem holds_refuse (k a:Int):Holds (fun s=>s.refuse k a):=fun s h=>by
  show s.refuse k a=s
  cases he:s.e with
  | none=>exact absurd he h
  | some z=>exact Ps.refuse_some he k a
theorem definition_bad {s:Ps} (h:s.e≠none) (V:Int) (cnt:Nat):s.definition V cnt=(0,s):=by
  unfold Ps.definition Ps.literal
  rw [within_bad h,if_pos (.inl (show (0:Int) / 2=0 from by decide))]
  show (0,s.refuse 5 s.i)=(0,s)
  rw [show s.refuse 5 s.i=s from holds_refuse 5 s.i s h]
theorem big_val {l:List Int} {most:Int} {k:Nat} (hd:∀ j,j<k+1→Sc.isDig (l.getD j 0)=true):Sc.big (Sc.val l k) (l.getD k 0 - 48) most=false↔Sc.val l (k+1)≤most:=by
  have h0:=Sc.val_pos l k (fun j hj=>hd j (by omega))
  have h1:=Sc.isDig_lo (hd k (by omega))
  unfold Sc.big
  show _↔Sc.val l k*10+(l.getD k 0 - 48)≤most
  generalize Sc.val l k=v at *
  generalize l.getD k 0=d at *
  rw [Bool.or_eq_false_iff,decide_eq_false_iff_not,decide_eq_false_iff_not]
  omega
theorem val_mono {l:List Int} {n:Nat} (hd:∀ j,j<n→Sc.isDig (l.getD j 0)=true):∀ k,k≤n→Sc.val l k≤Sc.val l n:=by
  induction n with
  | zero=>intro k hk;obtain rfl:k=0:=(by omega);exact Int.le_refl _
  | succ n ih =>
    intro k hk
    by_cases e:k=n+1
    · subst e;exact Int.le_refl _
    · have h1:=ih (fun j hj=>hd j (by omega)) k (by omega)
      have h0:=Sc.val_pos l n (fun j hj=>hd j (by omega))
      have h2:=Sc.isDig_lo (hd n (by omega))
      show Sc.val l k≤Sc.val l n*10+(l.getD n 0 - 48)
      omega
theorem good_iff {l:List Int} {most:Int} (h1:1≤Sc.digs l):Sc.good l most=true↔Sc.val l (Sc.digs l)≤most:=by
  have hd:=digs_at l
  constructor
  · intro h
    unfold Sc.good at h
    rw [List.all_eq_true] at h
    have h2:=h (Sc.digs l - 1) (List.mem_range.2 (by omega))
    have h3:Sc.big (Sc.val l (Sc.digs l - 1)) (l.getD (Sc.digs l - 1) 0 - 48) most=false:=by simpa using h2
    have h4:=(big_val (fun j hj=>hd j (by omega))).1 h3
    rwa [show Sc.digs l - 1+1=Sc.digs l by omega] at h4
  · intro h
    refine Sc.good_true l most fun k hk=>(big_val (fun j hj=>hd j (by omega))).2 ?_
    exact Int.le_trans (val_mono hd (k+1) (by omega)) h
theorem sim_flag (s:Ps):Sim (s.num 1).2 (s.within 0 1 4).2∧(s.num 1).1.1=(s.within 0 1 4).1:=by
  cases he:s.e with
  | some z =>
    rw [within_bad (by rw [he];simp)]
    unfold Ps.num
    rw [he]
    exact ⟨.inl rfl,rfl⟩
  | none =>
    unfold Ps.num Ps.within
    rw [he]
    dsimp only
    by_cases h0:s.l=[]
    · simp [Sc.numA,Sc.numN,h0,Sim.refl]
    · by_cases h1:Sc.isDig (s.l.getD 0 0)=false
      · simp only [Sc.numA,Sc.numN,if_neg h0,if_pos h1]
        exact ⟨.inl rfl,rfl⟩
      · have hd:1≤Sc.digs s.l:=by
          cases hl:s.l with
          | nil=>exact absurd hl h0
          | cons x xs =>
            rw [hl] at h1
            have hx:Sc.isDig x=true:=by simpa using h1
            unfold Sc.digs
            rw [List.takeWhile_cons,if_pos hx]
            simp
        have hv0:0≤Sc.val s.l (Sc.digs s.l):=Sc.val_pos _ _ (digs_at s.l)
        simp only [Sc.numA,Sc.numN,if_neg h0,if_neg h1]
        by_cases hz:(decide (s.l.getD 0 0=48) && decide (2≤Sc.digs s.l))=true
        · have hb:∀ m,Sc.bad s.l m=true:=fun m=>by unfold Sc.bad;rw [hz];rfl
          simp only [hb,if_true]
          exact ⟨.inl rfl,rfl⟩
        · have hb:∀ m,Sc.bad s.l m=!Sc.good s.l m:=fun m=>by unfold Sc.bad;rw [Bool.not_eq_true] at hz;rw [hz];rfl
          by_cases hg:Sc.val s.l (Sc.digs s.l)≤1
          · have g1:Sc.good s.l 1=true:=(good_iff hd).2 hg
            have g2:Sc.good s.l maxN=true:=(good_iff hd).2 (Int.le_trans hg (by decide))
            simp only [hb,g1,g2,Bool.not_true,Bool.false_eq_true,if_false,ne_eq,not_true_eq_false]
            rw [if_neg (by omega),Ps.refuse_ok]
            exact ⟨.inl rfl,rfl⟩
          · have g1:Sc.good s.l 1=false:=by
              cases hq:Sc.good s.l 1 with
              | false=>rfl
              | true=>exact absurd ((good_iff hd).1 hq) hg
            cases g2:Sc.good s.l maxN with
            | false =>
              simp only [hb,g1,g2,Bool.not_false,if_true]
              exact ⟨.inl rfl,rfl⟩
            | true =>
              simp only [hb,g1,g2,Bool.not_false,Bool.not_true,Bool.false_eq_true,if_true,if_false,ne_eq,not_true_eq_false]
              rw [if_pos (.inr (by omega))]
              refine ⟨.inr ⟨?_,?_⟩,rfl⟩
              · rw [Ps.refuse_none (show (s.skip 0).e=none from he) (by decide),Ps.refuse_none (show (s.skip (Sc.digs s.l)).e=none from he) (by decide)]
              · rw [Ps.refuse_none (show (s.skip 0).e=none from he) (by decide)];simp
theorem sim_expect2 (a b:Int) (s:Ps):Sim (s.expect [a,b]) ((s.expect [a]).expect [b]):=by
  refine Sim.two (F:=fun s=>s.expect [a,b]) (G:=fun s=>(s.expect [a]).expect [b]) (holds_expect _) ((holds_expect [a]).comp (holds_expect [b])) (fun s he=>?_) (Sim.refl s)
  obtain ⟨l,i,e,seen⟩:=s
  dsimp only at he
  subst he
  match l with
  | []=>right;simp [Ps.expect,Sc.wantA,Sc.wantN,Sc.mat,Ps.skip,Ps.refuse]
  | x::xs =>
    by_cases hx:x=a
    · subst hx
      match xs with
      | []=>right;simp [Ps.expect,Sc.wantA,Sc.wantN,Sc.mat,Ps.skip,Ps.refuse]
      | y::ys =>
        by_cases hy:y=b
        · subst hy
          left
          simp [Ps.expect,Sc.wantA,Sc.wantN,Sc.mat,Ps.skip,Ps.refuse]
        · right;simp [Ps.expect,Sc.wantA,Sc.wantN,Sc.mat,Ps.skip,Ps.refuse,hy]
    · right;simp [Ps.expect,Sc.wantA,Sc.wantN,Sc.mat,Ps.skip,Ps.refuse,hx]
def SimV {α:Type} (a b:α × Ps):Prop:=a=b∨(a.2.e=b.2.e∧a.2.e≠none)
theorem SimV.refl {α:Type} (a:α × Ps):SimV a a:=.inl rfl
theorem SimV.sim {α:Type} {a b:α × Ps} (h:SimV a b):Sim a.2 b.2:=by
  rcases h with rfl | h
  · exact .inl rfl
  · exact .inr h
theorem SimV.same {α:Type} {a b:α × Ps} (h:SimV a b) (he:a.2.e=none):a=b:=by
  rcases h with h | h
  · exact h
  · exact absurd he h.2
theorem SimV.next {α β:Type} {F G:Ps→β × Ps} (hF:∀ s:Ps,s.e≠none→(F s).2.e=s.e) (hG:∀ s:Ps,s.e≠none→(G s).2.e=s.e) (hFG:∀ s:Ps,s.e=none→SimV (F s) (G s)) {s t:Ps} (h:Sim s t):SimV (F s) (G t):=by
  cases he:s.e with
  | none=>obtain rfl:=h.same he;exact hFG s he
  | some z =>
    have h1:s.e≠none:=by rw [he];simp
    have h2:t.e≠none:=by rw [← h.fault];exact h1
    exact .inr ⟨by rw [hF s h1,hG t h2];exact h.fault,by rw [hF s h1];exact h1⟩
theorem simV_width (hi:Int) (s:Ps):SimV (s.widthQ hi) (s.within 1 hi 9):=by
  cases he:s.e with
  | some z =>
    have h1:s.e≠none:=by rw [he];simp
    rw [within_bad h1]
    unfold Ps.widthQ
    rw [show (s.num maxN)=((0,(s.i:Int)),s) from by unfold Ps.num;rw [he]]
    rw [if_pos (.inl (show (0:Int)<1 by decide))]
    rw [show s.refuse 9 (s.i:Int)=s from holds_refuse 9 s.i s h1]
    exact .inl rfl
  | none =>
    unfold Ps.widthQ Ps.num Ps.within
    rw [he]
    dsimp only
    by_cases h0:(Sc.numA s.l maxN).2=0
    · rw [h0,Ps.refuse_ok,if_neg (show ¬ ((0:Int)≠0) from fun h=>h rfl)]
      by_cases h1:(Sc.numA s.l maxN).1<1∨hi<(Sc.numA s.l maxN).1
      · rw [if_pos h1,if_pos h1]
        refine .inr ⟨rfl,?_⟩
        rw [Ps.refuse_none (show (s.skip (Sc.numN s.l maxN)).e=none from he) (by decide)]
        simp
      · rw [if_neg h1,if_neg h1]
        exact .inl rfl
    · have hz:=numA_zero h0
      rw [if_pos h0,hz,if_pos (.inl (show (0:Int)<1 by decide))]
      have hq:((s.skip (Sc.numN s.l maxN)).refuse (Sc.numA s.l maxN).2 (s.i:Int)).e≠none:=by
        rw [Ps.refuse_none (show (s.skip (Sc.numN s.l maxN)).e=none from he) h0]
        simp
      rw [show ((s.skip (Sc.numN s.l maxN)).refuse (Sc.numA s.l maxN).2 (s.i:Int)).refuse 9 (s.i:Int)=(s.skip (Sc.numN s.l maxN)).refuse (Sc.numA s.l maxN).2 (s.i:Int) from holds_refuse 9 s.i _ hq]
      exact .inl rfl
theorem sim_loop {α:Type} {f g:Ps→α × Ps} (h:∀ s:Ps,s.e=none→SimV (f s) (g s)):∀ (k:Nat) (l:List α) (s t:Ps),Sim s t→SimV (qloop f k (l,s)) ((eachF g push k (t,l)).2,(eachF g push k (t,l)).1)
  | 0,l,s,t,hst=>by
    rcases hst with rfl | hh
    · exact .inl rfl
    · exact .inr hh
  | k+1,l,s,t,hst=>by
    cases he:s.e with
    | some z =>
      have h2:t.e=some z:=by rw [← hst.fault];exact he
      rw [qloop_bad (by simp [he]),eachF_bad (by simp [h2])]
      exact .inr ⟨by show s.e=t.e;exact hst.fault,by show s.e≠none;rw [he];simp⟩
    | none =>
      obtain rfl:=hst.same he
      rw [qloop_go he]
      have hs:=h s he
      cases hg:(g s).2.e with
      | some z =>
        have hf:(f s).2.e=some z:=by rw [hs.sim.fault];exact hg
        rw [qloop_bad (by simp [hf]),eachF_stop (wf:=g) (nx:=push) (s:=(s,l)) he (x:=(g s).1) (s2:=(g s).2) rfl (by simp [hg])]
        exact .inr ⟨by show (f s).2.e=(g s).2.e;rw [hf,hg],by show (f s).2.e≠none;rw [hf];simp⟩
      | none =>
        have hfe:(f s).2.e=none:=by rw [hs.sim.fault];exact hg
        have hfg:=hs.same hfe
        rw [eachF_next (wf:=g) (nx:=push) (s:=(s,l)) he (x:=(g s).1) (s2:=(g s).2) rfl hg,hfg]
        exact sim_loop h k (l++[(g s).1]) (g s).2 (g s).2 (.inl rfl)
end Go.Proofs.YtldnepogjnahfaaGreatDoor
