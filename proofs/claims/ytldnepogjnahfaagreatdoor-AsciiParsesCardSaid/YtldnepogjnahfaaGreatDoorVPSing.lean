/- The parser's method Singles by contract: the lines of one literal each (conditions: the parser lies in memory; at most 400000 bytes; at most 1000000 lines of each kind). -/
import Derived.Test.YtldnepogjnahfaaGreatDoorVPRest0
set_option linter.unusedVariables false
namespace Go.Proofs.YtldnepogjnahfaaGreatDoor
open Go.ChangeShapes Go.WideShapes Go.RowKit
section
variable {p r g b:Nat} {m:Ext} {w:World} {s:Ps} {S:NetS} {n:PNet} {cs:Array Value} {W:World}
structure SN (p r g b:Nat) (m:Ext) (w:World) (cs:Array Value) (S:NetS) (n:PNet) (W:World) (s:Ps):Prop where
  pat:PAt 2 p r g m n.vars (NCof S n) W s
  net:NAt p r g W S n
  kept:Kept3 p r g w W
  cb:W.heap[b]?=some (.cells cs 124 (0,0))
  old:p<b∧r<b∧g<b
theorem SN.step {W':World} {s':Ps} (h:SN p r g b m w cs S n W s) (hP:PAt 2 p r g m n.vars (NCof S n) W' s') (hK:Kept3 p r g W W'):SN p r g b m w cs S n W' s':=by
  have ho:=h.old
  exact ⟨hP,h.net.kept hK,h.kept.trans hK,(hK.block _ (lt_of_row h.cb) (by omega) (by omega) (by omega)).trans h.cb,h.old⟩
theorem SN.below {W':World} (h:SN p r g b m w cs S n W s) (hb:Below W.heap.size W W'):SN p r g b m w cs S n W' s:=h.step (h.pat.below hb) (Kept3.of_below hb)
theorem SN.reads (h:SN p r g b m w cs S n W s) {k:Nat} {c:Int} (hc:cs[k]?=some (.int .i64 c)):W.cell? ⟨b,k,none⟩=some (.int .i64 c):=by
  rw [cell_of_row _ _ _ _ _ _ h.cb];exact hc
theorem SN.setP {S':NetS} {n':PNet} {j:Nat} {v:Value} (h:SN p r g b m w cs S n W s) (hv:n'.vars=n.vars) (hN:∀ ev,(prow r n.vars (NCof S n) ev).setIfInBounds j v=prow r n.vars (NCof S' n') ev) (hnet:NAt p r g W S' n'):SN p r g b m w cs S' n' (W.setCell ⟨p,j,none⟩ v) s:=by
  have ho:=h.old
  have hK:Kept3 p r g W (W.setCell ⟨p,j,none⟩ v):=(Kept3.refl p r g W).put j v
  have hot:∀ k,k≠p→(W.setCell ⟨p,j,none⟩ v).heap[k]?=W.heap[k]?:=fun k hk=>heap_setCell_other _ _ _ _ (by simpa using hk)
  refine ⟨?_,hnet.kept hK,h.kept.trans hK,(hot _ (by omega)).trans h.cb,h.old⟩
  rw [hv]
  exact h.pat.setN hN
theorem SN.outs {A:Option Addr} {c:Nat} {l:List Int} (h:SN p r g b m w cs S n W s) (hR:RP 3 p r g 1 IntAt W A c l):SN p r g b m w cs { S with o:=A,oc:=c } { n with outs:=l } (W.setCell ⟨p,4,none⟩ (.slice A l.length c)) s :=
  h.setP rfl (fun _=>rfl) ⟨h.net.inputs,h.net.latches,hR,h.net.bads,h.net.cons,h.net.mems,h.net.ands⟩
theorem SN.bads {A:Option Addr} {c:Nat} {l:List Int} (h:SN p r g b m w cs S n W s) (hR:RP 3 p r g 1 IntAt W A c l):SN p r g b m w cs { S with b:=A,bc:=c } { n with bads:=l } (W.setCell ⟨p,5,none⟩ (.slice A l.length c)) s :=
  h.setP rfl (fun _=>rfl) ⟨h.net.inputs,h.net.latches,h.net.outs,hR,h.net.cons,h.net.mems,h.net.ands⟩
theorem SN.cons {A:Option Addr} {c:Nat} {l:List Int} (h:SN p r g b m w cs S n W s) (hR:RP 3 p r g 1 IntAt W A c l):SN p r g b m w cs { S with c:=A,cc:=c } { n with cons:=l } (W.setCell ⟨p,6,none⟩ (.slice A l.length c)) s :=
  h.setP rfl (fun _=>rfl) ⟨h.net.inputs,h.net.latches,h.net.outs,h.net.bads,hR,h.net.mems,h.net.ands⟩
theorem SN.pcell (h:SN p r g b m w cs S n W s) (j:Nat) (hj:j<10):(∃ v,W.cell? ⟨p,j,none⟩=some v)∧W.frozen? ⟨p,j,none⟩=false:=by
  obtain ⟨ev,h1,_⟩:=h.pat.row
  refine ⟨?_,frozen_of_row _ _ _ _ _ h1⟩
  rw [cell_of_row _ _ _ _ _ _ h1]
  exact ⟨_,Array.getElem?_eq_getElem (by simpa [prow] using hj)⟩
theorem singles_begin (c:PCounts) (h:PAt 2 p r g m n.vars (NCof S n) w s) (hn:NAt p r g w S n):SN p r g w.heap.size m w (countsV c) S n (w.alloc (.cells (countsV c) 124)) s:=by
  have hl:=h.lt
  have hg:=h.glt
  have hb:Below w.heap.size w (w.alloc (.cells (countsV c) 124)):=(Below.refl _ w).alloc (Nat.le_refl _) _
  exact ⟨h.below hb,hn.kept (Kept3.of_below hb),Kept3.of_below hb,heap_alloc_new w _,hl.1,hl.2,hg⟩
theorem apart5 {p r g b z:Nat} (h:b≤z) (ho:p<b∧r<b∧g<b):((z+3≠p∧z+3≠r∧z+3≠g)∧(z+2≠p∧z+2≠r∧z+2≠g)∧(z+4≠p∧z+4≠r∧z+4≠g))∧((z+1≠p∧z+1≠r∧z+1≠g)∧(z≠p∧z≠r∧z≠g)):=by omega
theorem coll_literal {V:Int} {N:NC} (cnt z:Nat) (hcnt:cnt≤1000000) (h:PAt 2 p r g m V N w s) (hC:Caught (z+3) (z+2) (z+4) p cnt 134 (.func (.func 176) #[] #[.pointer (some ⟨z+1,0,none⟩),.pointer (some ⟨z,0,none⟩)]) w) (hL:CaughtL (z+1) z p 134 (.func (.func 182) #[.pointer (some ⟨p,0,none⟩)] #[]) w) (hz:∃ b,b≤z∧p<b∧r<b∧g<b) :
    Calls Tryz.prog 97 #[.func (.func 216) #[] #[.pointer (some ⟨z+3,0,none⟩),.pointer (some ⟨z+2,0,none⟩),.pointer (some ⟨z+4,0,none⟩)]] w (CollLeft 3 p r g m V N 1 IntAt w (s.lines (fun t=>t.literal V) cnt)):=by
  obtain ⟨b,hb,ho⟩:=hz
  have ha:=apart5 hb ho
  rw [← Ps.parts_ln]
  exact coll_int hcnt _ (CaughtL (z+1) z p 134 (.func (.func 182) #[.pointer (some ⟨p,0,none⟩)] #[])) (fun A B h hk=>h.kept hk ha.2) (old_caughtL hL.lt ha.2) (line_literal (z+1) z ha.2) h hC hL ha.1
set_option maxRecDepth 100000 in
set_option maxHeartbeats 8000000 in
theorem singles_any (ci cl co ca cb cc cm:Nat) (hc:co≤1000000∧cb≤1000000∧cc≤1000000) {l3 l4 l5:List Int} {s3 s4 s5:Ps} (e3:s.lines (fun t=>t.literal n.vars) co=(l3,s3)) (e4:s3.lines (fun t=>t.literal n.vars) cb=(l4,s4)) (e5:s4.lines (fun t=>t.literal n.vars) cc=(l5,s5)) (h:PAt 2 p r g m n.vars (NCof S n) w s) (hn:NAt p r g w S n) :
    Calls Tryz.prog 127 #[.pointer (some ⟨p,0,none⟩),.agg (countsV ⟨ci,cl,co,ca,cb,cc,cm⟩)] w fun e w'=>e=.returned (.tuple #[])∧∃ A c B d C f,NAt p r g w' { S with o:=A,oc:=c,b:=B,bc:=d,c:=C,cc:=f } { n with outs:=l3,bads:=l4,cons:=l5 }∧PAt 2 p r g m n.vars (NCof { S with o:=A,oc:=c,b:=B,bc:=d,c:=C,cc:=f } { n with outs:=l3,bads:=l4,cons:=l5 }) w' s5∧Kept3 p r g w w':=by
  have HB0:=Lib.hid (singles_begin ⟨ci,cl,co,ca,cb,cc,cm⟩ h hn)
  have q0:=HB0.out.old
  have c0:=HB0.out.reads (k:=2) (c:=co) rfl
  have hge0:=HB0.out.kept.size
  obtain ⟨hc1,hc2,hc3⟩:=hc
  clear h hn
  unfold countsV at *
  have HE3:=Lib.hid e3
  have HE4:=Lib.hid e4
  have HE5:=Lib.hid e5
  clear e3 e4 e5
  go_enter Tryz.func127,Tryz.ntmps127
  go_wp2_with (first
    | (go_at_call 122;have HBx:=HB0;clear HB0;refine (lines_int (p:=p) co _ ⟨_,_,_,rfl⟩ _).mono ?_;rintro e wa0 ⟨z0,hz0,rfl,hC,hL,hb,hsz⟩;have HA0:=Lib.hid (And.intro hC (And.intro hL (HBx.out.below hb)));have HZ0:=Lib.hid (show w.heap.size≤z0 from by rw [← hz0];exact hge0);clear hC hL hb hsz HBx c0 hz0 hge0)
    | (go_at_call 97;have HAx:=HA0;clear HA0;have hc:=coll_literal (V:=n.vars) co z0 (by omega) HAx.out.2.2.pat HAx.out.1 HAx.out.2.1 ⟨_,HZ0.out,q0⟩;rw [HE3.out] at hc;refine hc.mono ?_;clear hc;rintro e wb0 ⟨A0,d0,rfl,hR,hP,hK⟩;have hB:=HAx.out.2.2.step hP hK;obtain ⟨⟨v0,y0⟩,f0⟩:=hB.pcell 4 (by omega);have HB1:=Lib.hid (hB.outs hR);have c1:=HB1.out.reads (k:=4) (c:=cb) rfl;have hge1:=HB1.out.kept.size;clear hR hP hK hB HAx)
    | (go_at_call 122;have HBx:=HB1;clear HB1;refine (lines_int (p:=p) cb _ ⟨_,_,_,rfl⟩ _).mono ?_;rintro e wa1 ⟨z1,hz1,rfl,hC,hL,hb,hsz⟩;have HA1:=Lib.hid (And.intro hC (And.intro hL (HBx.out.below hb)));have HZ1:=Lib.hid (show w.heap.size≤z1 from by rw [← hz1];exact hge1);clear hC hL hb hsz HBx c1 hz1 hge1)
    | (go_at_call 97;have HAx:=HA1;clear HA1;have hc:=coll_literal (V:=n.vars) cb z1 (by omega) HAx.out.2.2.pat HAx.out.1 HAx.out.2.1 ⟨_,HZ1.out,q0⟩;rw [HE4.out] at hc;refine hc.mono ?_;clear hc;rintro e wb1 ⟨A1,d1,rfl,hR,hP,hK⟩;have hB:=HAx.out.2.2.step hP hK;obtain ⟨⟨v1,y1⟩,f1⟩:=hB.pcell 5 (by omega);have HB2:=Lib.hid (hB.bads hR);have c2:=HB2.out.reads (k:=5) (c:=cc) rfl;have hge2:=HB2.out.kept.size;clear hR hP hK hB HAx)
    | (go_at_call 122;have HBx:=HB2;clear HB2;refine (lines_int (p:=p) cc _ ⟨_,_,_,rfl⟩ _).mono ?_;rintro e wa2 ⟨z2,hz2,rfl,hC,hL,hb,hsz⟩;have HA2:=Lib.hid (And.intro hC (And.intro hL (HBx.out.below hb)));have HZ2:=Lib.hid (show w.heap.size≤z2 from by rw [← hz2];exact hge2);clear hC hL hb hsz HBx c2 hz2 hge2)
    | (go_at_call 97;have HAx:=HA2;clear HA2;have hc:=coll_literal (V:=n.vars) cc z2 (by omega) HAx.out.2.2.pat HAx.out.1 HAx.out.2.1 ⟨_,HZ2.out,q0⟩;rw [HE5.out] at hc;refine hc.mono ?_;clear hc;rintro e wb2 ⟨A2,d2,rfl,hR,hP,hK⟩;have hB:=HAx.out.2.2.step hP hK;obtain ⟨⟨v2,y2⟩,f2⟩:=hB.pcell 6 (by omega);have HB3:=Lib.hid (hB.cons hR);clear hR hP hK hB HAx))
  go_end0
  exact ⟨rfl,A0,d0,A1,d1,A2,d2,HB3.out.net,HB3.out.pat,HB3.out.kept⟩
end
end Go.Proofs.YtldnepogjnahfaaGreatDoor
