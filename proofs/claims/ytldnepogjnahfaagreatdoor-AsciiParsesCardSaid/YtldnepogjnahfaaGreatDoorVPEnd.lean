/- The parser's netlist in memory, and the method End by contract (conditions: the parser lies in memory; at most 400000 bytes; the netlist is such that topo.Check's contract speaks of it). -/
import Derived.Test.YtldnepogjnahfaaGreatDoorVCx
import Derived.Test.YtldnepogjnahfaaGreatDoorVPFirst
import Derived.Test.YtldnepogjnahfaaGreatDoorVZH
set_option linter.unusedVariables false
namespace Go.Proofs.YtldnepogjnahfaaGreatDoor
open Go.ChangeShapes Go.WideShapes Go.RowKit
def PMemAt (p r g:Nat) (W:World) (b o:Nat) (m:PMem):Prop :=
  ∃ a c a2 c2,W.cell? ⟨b,o,none⟩=some (.int .i64 m.ma)∧W.cell? ⟨b,o+1,none⟩=some (.int .i64 m.mw)∧W.cell? ⟨b,o+2,none⟩=some (.bool m.mn)∧W.cell? ⟨b,o+3,none⟩=some (.slice a m.mr.length c)∧W.cell? ⟨b,o+4,none⟩=some (.slice a2 m.mx.length c2) ∧
    RP 97 p r g 2 (PReadAt p r g) W a c m.mr∧RP 99 p r g 3 (PWriteAt p r g) W a2 c2 m.mx
theorem mem_stays (p r g:Nat):StaysAt p r g (PMemAt p r g):=fun A B b o x hk hb h=>by
  obtain ⟨a,c,a2,c2,h1,h2,h3,h4,h5,h6,h7⟩:=h
  exact ⟨a,c,a2,c2,(hk.cell hb).trans h1,(hk.cell hb).trans h2,(hk.cell hb).trans h3,(hk.cell hb).trans h4,(hk.cell hb).trans h5,h6.kept (read_stays p r g) hk,h7.kept (write_stays p r g) hk⟩
structure NAt (p r g:Nat) (w:World) (S:NetS) (n:PNet):Prop where
  inputs:RP 3 p r g 1 IntAt w S.i S.ic n.inputs
  latches:RP 48 p r g 3 LatchAt w S.l S.lc n.latches
  outs:RP 3 p r g 1 IntAt w S.o S.oc n.outs
  bads:RP 3 p r g 1 IntAt w S.b S.bc n.bads
  cons:RP 3 p r g 1 IntAt w S.c S.cc n.cons
  mems:RP 54 p r g 5 (PMemAt p r g) w S.m S.mc n.mems
  ands:RP 57 p r g 3 AndAt w S.a S.ac n.ands
theorem NAt.kept {p r g:Nat} {w w':World} {S:NetS} {n:PNet} (h:NAt p r g w S n) (hk:Kept3 p r g w w'):NAt p r g w' S n :=
  ⟨h.inputs.kept (int_stays p r g) hk,h.latches.kept (latch_stays p r g) hk,h.outs.kept (int_stays p r g) hk,h.bads.kept (int_stays p r g) hk,h.cons.kept (int_stays p r g) hk,h.mems.kept (mem_stays p r g) hk,h.ands.kept (and_stays p r g) hk⟩
def NCof (S:NetS) (n:PNet):NC:=⟨.slice S.i n.inputs.length S.ic,.slice S.l n.latches.length S.lc,.slice S.o n.outs.length S.oc,.slice S.b n.bads.length S.bc,.slice S.c n.cons.length S.cc,.slice S.m n.mems.length S.mc,.slice S.a n.ands.length S.ac⟩
theorem RP.src {p r g c:Nat} {w:World} {a:Option Addr} {l:List Int} (h:RP 3 p r g 1 IntAt w a c l):Src w w.heap.size a l:=fun hn=>by
  obtain ⟨b,o,e,⟨⟨cs,h0⟩,hb⟩,hc⟩:=h.1 hn
  refine ⟨b,o,e,lt_of_row h0,fun j x hj=>?_⟩
  have:=hc j x hj
  rwa [Nat.mul_one] at this
theorem RP.row {α:Type} {T:TypeId} {p r g k c:Nat} {At:World→Nat→Nat→α→Prop} {At':Nat→Nat→α→Prop} {w:World} {a:Option Addr} {l:List α} (h:RP T p r g k At w a c l) (hAt:∀ b o x,At w b o x→At' b o x):Row w.heap.size k At' a l:=fun hn=>by
  obtain ⟨b,o,e,⟨⟨cs,h0⟩,hb⟩,hc⟩:=h.1 hn
  exact ⟨b,o,e,lt_of_row h0,fun j x hj=>hAt _ _ _ (hc j x hj)⟩
theorem LP.src {p r g c:Nat} {w:World} {a:Option Addr} {l:List Int} (h:LP p r g w a c l):Src w w.heap.size a l:=fun hn=>by
  obtain ⟨b,o,e,⟨⟨cs,h0⟩,hb⟩,hc⟩:=h.1 hn
  exact ⟨b,o,e,lt_of_row h0,hc⟩
theorem PReadAt.told {p r g:Nat} {w:World} {b o:Nat} {x:PRead} (h:PReadAt p r g w b o x):ReadAt w w.heap.size b o x:=by
  obtain ⟨a,c,h1,h2,h3⟩:=h
  exact ⟨a,c,h1,h2,h3.src,h3.2⟩
theorem PWriteAt.told {p r g:Nat} {w:World} {b o:Nat} {x:PWrite} (h:PWriteAt p r g w b o x):WriteAt w w.heap.size b o x:=by
  obtain ⟨a,c,a2,c2,h1,h2,h3,h4,h5⟩:=h
  exact ⟨a,c,a2,c2,h1,h2,h3,h4.src,h5.src,h4.2.1,h4.2.2,h5.2.1,h5.2.2⟩
theorem PMemAt.told {p r g:Nat} {w:World} {b o:Nat} {x:PMem} (h:PMemAt p r g w b o x):MemAt w w.heap.size b o x:=by
  obtain ⟨a,c,a2,c2,h1,h2,h3,h4,h5,h6,h7⟩:=h
  exact ⟨a,c,a2,c2,h1,h2,h3,h4,h5,h6.row (fun b o x h=>h.told),h7.row (fun b o x h=>h.told),h6.2.1,h6.2.2,h7.2.1,h7.2.2⟩
theorem NAt.net {p r g:Nat} {w:World} {S:NetS} {n:PNet} (h:NAt p r g w S n):NetAt w w.heap.size S n :=
  ⟨h.inputs.src,h.latches.row (fun b o x h=>h),h.outs.src,h.bads.src,h.cons.src,h.mems.row (fun b o x h=>h.told),h.ands.row (fun b o x h=>h),
    ⟨h.inputs.2.1,h.latches.2.1,h.outs.2.1,h.bads.2.1,h.cons.2.1,h.mems.2.1,h.ands.2.1⟩,⟨h.inputs.2.2,h.latches.2.2,h.outs.2.2,h.bads.2.2,h.cons.2.2,h.mems.2.2,h.ands.2.2⟩⟩
def Ps.tail (s:Ps):Ps:=if (s.want [99,10]).1≠0∧0<(s.want [99,10]).2.l.length then (s.want [99,10]).2.refuse 13 s.i else (s.want [99,10]).2
def Ps.finish (chk:Int) (s:Ps):Ps:=if s.e.isSome then s else s.tail.refuse chk s.i
def PNet.checks (n:PNet):Prop:=n.fits∧n.modest∧n.near∧n.nodes.length≤900
section
variable {p r g:Nat} {m:Ext} {w:World} {s:Ps} {S:NetS} {n:PNet}
theorem PAt.net {dep:Nat} (h:PAt dep p r g m n.vars (NCof S n) w s):w.cell? ⟨p,1,none⟩=some (.int .i64 n.vars)∧w.cell? ⟨p,2,none⟩=some (.slice S.i n.inputs.length S.ic)∧w.cell? ⟨p,3,none⟩=some (.slice S.l n.latches.length S.lc)∧w.cell? ⟨p,4,none⟩=some (.slice S.o n.outs.length S.oc)∧w.cell? ⟨p,5,none⟩=some (.slice S.b n.bads.length S.bc)∧w.cell? ⟨p,6,none⟩=some (.slice S.c n.cons.length S.cc)∧w.cell? ⟨p,7,none⟩=some (.slice S.m n.mems.length S.mc)∧w.cell? ⟨p,8,none⟩=some (.slice S.a n.ands.length S.ac):=by
  obtain ⟨ev,h1,_⟩:=h.row
  refine ⟨?_,?_,?_,?_,?_,?_,?_,?_⟩
  all_goals rw [cell_of_row _ _ _ _ _ _ h1];rfl
theorem check_step (hn:n.checks) (hN:NAt p r g w S n):Calls Tryz.prog 26 #[.agg #[.int .i64 n.vars,.slice S.i n.inputs.length S.ic,.slice S.l n.latches.length S.lc,.slice S.o n.outs.length S.oc,.slice S.b n.bads.length S.bc,.slice S.c n.cons.length S.cc,.slice S.m n.mems.length S.mc,.slice S.a n.ands.length S.ac]] w fun e w'=>e=.returned (.int .i64 n.check)∧Below w.heap.size w w' :=
  check_any n S w hN.net hn.1 hn.2.1 hn.2.2.1 hn.2.2.2
set_option maxRecDepth 100000 in
set_option maxHeartbeats 4000000 in
theorem end_any (hn:s.e=none→n.checks) (hN:NAt p r g w S n) (h:PAt 2 p r g m n.vars (NCof S n) w s) :
    Calls Tryz.prog 135 #[.pointer (some ⟨p,0,none⟩)] w (PStep 2 p r g m n.vars (NCof S n) w (.tuple #[]) (s.finish n.check)):=by
  obtain ⟨ev,hE,c0,c1,c9,cf⟩:=h.cells
  have H:=Lib.hid h
  have HN:=Lib.hid hN
  cases he:s.e with
  | some x =>
    rw [he] at hE
    obtain ⟨b,rfl⟩:=hE.form
    rw [show s.finish n.check=s by unfold Ps.finish;rw [if_pos (by simp [he])]]
    clear h hE c0 c1 cf he hn hN
    go_enter Tryz.func135,Tryz.ntmps135
    go_wp2
    go_end0
    exact ⟨rfl,H.out,Kept3.refl _ _ _ _⟩
  | none =>
    have hch:=Lib.hid (hn he)
    rw [he] at hE
    cases hE
    rw [show s.finish n.check=s.tail.refuse n.check s.i by unfold Ps.finish;rw [if_neg (by simp [he])]]
    have HA:=Lib.hid (Sc.at_any r s.l s.i w h.rd)
    have HW:=Lib.hid (sb_c ▸ want_step ⟨#[99,10]⟩ (by decide) h)
    have ht:s.tail=if (s.want [99,10]).1≠0∧0<(s.want [99,10]).2.l.length then (s.want [99,10]).2.refuse 13 s.i else (s.want [99,10]).2:=rfl
    rw [ht]
    clear h c1 cf he hn hN ht
    generalize s.want [99,10]=X at *
    obtain ⟨k,s1⟩:=X
    have HC:=Lib.hid (fun (W:World) (h:PAt 2 p r g m n.vars (NCof S n) W s1)=>h.cells)
    have HLf:=Lib.hid (fun (W:World) (h:PAt 2 p r g m n.vars (NCof S n) W s1)=>Sc.left_any r s1.l s1.i W h.rd)
    by_cases h1:k=0
    · subst h1
      rw [if_neg (by simp)]
      go_enter Tryz.func135,Tryz.ntmps135
      go_wp2_with (first
        | (go_at_call 168;refine HA.out.mono ?_;rintro e w0 ⟨rfl,rfl⟩)
        | (go_at_call 170;refine HW.out.mono ?_;rintro e w1 ⟨⟨a1,rfl⟩,hP1,hK1⟩;have HP1:=Lib.hid (And.intro hP1 hK1);obtain ⟨ev1,-,d0,-,-,-⟩:=hP1.cells;obtain ⟨t1,t2,t3,t4,t5,t6,t7,t8⟩:=hP1.net;clear hP1 hK1)
        | (go_at_call 26;refine (check_step hch.out (HN.out.kept HP1.out.2)).mono ?_;rintro e w3 ⟨rfl,hb⟩;have HP3:=Lib.hid (And.intro (HP1.out.1.below hb) (Kept3.of_below (p:=p) (r:=r) (g:=g) hb));clear hb)
        | (go_at_call 149;refine (refuse_any _ _ HP3.out.1 (by omega)).mono ?_;rintro e w4 ⟨rfl,hP4,hK4⟩))
      go_end0
      exact ⟨rfl,hP4,(HP1.out.2.trans HP3.out.2).trans hK4⟩
    · by_cases h2:0<s1.l.length
      · rw [if_pos ⟨h1,h2⟩]
        have h2I:(0:Int)<(s1.l.length:Int):=by omega
        go_enter Tryz.func135,Tryz.ntmps135
        go_wp2_with (first
          | (go_at_call 168;refine HA.out.mono ?_;rintro e w0 ⟨rfl,rfl⟩)
          | (go_at_call 170;refine HW.out.mono ?_;rintro e w1 ⟨⟨a1,rfl⟩,hP1,hK1⟩;have HP1:=Lib.hid (And.intro hP1 hK1);obtain ⟨ev1,-,d0,-,-,-⟩:=hP1.cells;clear hP1 hK1)
          | (go_at_call 195;refine (HLf.out _ HP1.out.1).mono ?_;rintro e w0 ⟨rfl,rfl⟩)
          | (go_at_call 149;have h2J:=h2I;clear h2I;refine (refuse_any 13 _ HP1.out.1 (by omega)).mono ?_;rintro e w2 ⟨rfl,hP2,hK2⟩;have HP2:=Lib.hid (And.intro hP2 hK2);obtain ⟨t1,t2,t3,t4,t5,t6,t7,t8⟩:=hP2.net;clear hP2 hK2)
          | (go_at_call 26;refine (check_step hch.out (HN.out.kept (HP1.out.2.trans HP2.out.2))).mono ?_;rintro e w3 ⟨rfl,hb⟩;have HP3:=Lib.hid (And.intro (HP2.out.1.below hb) (Kept3.of_below (p:=p) (r:=r) (g:=g) hb));clear hb)
          | (go_at_call 149;refine (refuse_any _ _ HP3.out.1 (by omega)).mono ?_;rintro e w4 ⟨rfl,hP4,hK4⟩))
        go_end0
        exact ⟨rfl,hP4,((HP1.out.2.trans HP2.out.2).trans HP3.out.2).trans hK4⟩
      · rw [if_neg (by rintro ⟨_,h⟩;exact h2 h)]
        have h2I:(s1.l.length:Int)=0:=by omega
        have HZ:=Lib.hid h2I
        go_enter Tryz.func135,Tryz.ntmps135
        go_wp2_with (first
          | (go_at_call 168;refine HA.out.mono ?_;rintro e w0 ⟨rfl,rfl⟩)
          | (go_at_call 170;refine HW.out.mono ?_;rintro e w1 ⟨⟨a1,rfl⟩,hP1,hK1⟩;have HP1:=Lib.hid (And.intro hP1 hK1);obtain ⟨ev1,-,d0,-,-,-⟩:=hP1.cells;obtain ⟨t1,t2,t3,t4,t5,t6,t7,t8⟩:=hP1.net;clear hP1 hK1)
          | (go_at_call 195;refine (HLf.out _ HP1.out.1).mono ?_;rintro e w0 ⟨rfl,rfl⟩;rw [HZ.out])
          | (go_at_call 26;refine (check_step hch.out (HN.out.kept HP1.out.2)).mono ?_;rintro e w3 ⟨rfl,hb⟩;have HP3:=Lib.hid (And.intro (HP1.out.1.below hb) (Kept3.of_below (p:=p) (r:=r) (g:=g) hb));clear hb)
          | (go_at_call 149;refine (refuse_any _ _ HP3.out.1 (by omega)).mono ?_;rintro e w4 ⟨rfl,hP4,hK4⟩))
        go_end0
        exact ⟨rfl,hP4,(HP1.out.2.trans HP3.out.2).trans hK4⟩
end
end Go.Proofs.YtldnepogjnahfaaGreatDoor
