/- The parser's method rest by contract: all behind the first line (conditions: the parser lies in memory; at most 400000 bytes; at most 1000000 lines of each kind; the netlist is such that topo.Check's contract speaks of it). -/
import Derived.RangeFuncNested
import Derived.RangeFuncBound
import Derived.RangeFuncCalls
import Derived.RangeFuncLeaves
import Derived.OwnWalkIn
import Derived.TacticsInMore
import Derived.LoopNIn
import Derived.LoopIn
import Derived.Deep.RegionHeld3
import Derived.RegionTactic
import Derived.BigRegion
import Derived.Test.YtldnepogjnahfaaGreatDoorVPMems
import Derived.Test.YtldnepogjnahfaaGreatDoorVPSing
import Derived.Test.YtldnepogjnahfaaGreatDoorVRange2
set_option linter.unusedVariables false
namespace Go.Proofs.YtldnepogjnahfaaGreatDoor
open Go.ChangeShapes Go.WideShapes Go.RowKit
set_option linter.unusedSimpArgs false
attribute [local go_sem] Oper.semAt_some
theorem Kept3.late {p r q g:Nat} {a b c:World} (h:Kept3 p r q a b) (k:Kept3 p r g b c) (hg:a.heap.size≤g):Kept3 p r q a c :=
  ⟨k.os.trans h.os,k.tape.trans h.tape,k.output.trans h.output,Nat.le_trans h.size k.size,fun i hi h1 h2 h3=>(k.block i (by have:=h.size;omega) h1 h2 (by omega)).trans (h.block i hi h1 h2 h3)⟩
section
variable {p r g q:Nat} {w:World} {s:Ps}
theorem coll_input {V:Int} {N:NC} (cnt z:Nat) (hcnt:cnt≤1000000) (h:PAt 2 p r g (marksE q p g V) V N w s) (hC:Caught (z+3) (z+2) (z+4) p cnt 134 (.func (.func 176) #[] #[.pointer (some ⟨z+1,0,none⟩),.pointer (some ⟨z,0,none⟩)]) w) (hL:CaughtL (z+1) z p 134 (.func (.func 123) #[.pointer (some ⟨q,0,none⟩)] #[]) w) (hz:∃ b,b≤z∧p<b∧r<b∧g<b) :
    Calls Tryz.prog 97 #[.func (.func 216) #[] #[.pointer (some ⟨z+3,0,none⟩),.pointer (some ⟨z+2,0,none⟩),.pointer (some ⟨z+4,0,none⟩)]] w (CollLeft 3 p r g (marksE q p g V) V N 1 IntAt w (s.lines (fun t=>t.definition V 1) cnt)):=by
  obtain ⟨b,hb,ho⟩:=hz
  have ha:=apart5 hb ho
  rw [← Ps.parts_ln]
  exact coll_int hcnt _ (CaughtL (z+1) z p 134 (.func (.func 123) #[.pointer (some ⟨q,0,none⟩)] #[])) (fun A B h hk=>h.kept hk ha.2) (old_caughtL hL.lt ha.2) (line_input (z+1) z ha.2) h hC hL ha.1
theorem coll_latches {V:Int} {N:NC} (cnt z:Nat) (hcnt:cnt≤1000000) (h:PAt 2 p r g (marksE q p g V) V N w s) (hC:Caught (z+3) (z+2) (z+4) p cnt 178 (.func (.func 180) #[] #[.pointer (some ⟨z+1,0,none⟩),.pointer (some ⟨z,0,none⟩)]) w) (hL:CaughtL (z+1) z p 178 (.func (.func 126) #[.pointer (some ⟨q,0,none⟩)] #[]) w) (hz:∃ b,b≤z∧p<b∧r<b∧g<b) :
    Calls Tryz.prog 124 #[.func (.func 219) #[] #[.pointer (some ⟨z+3,0,none⟩),.pointer (some ⟨z+2,0,none⟩),.pointer (some ⟨z+4,0,none⟩)]] w (CollLeft 48 p r g (marksE q p g V) V N 3 LatchAt w (s.lines (fun t=>t.latch V) cnt)):=by
  obtain ⟨b,hb,ho⟩:=hz
  have ha:=apart5 hb ho
  rw [← Ps.parts_ln]
  exact coll_latch hcnt _ (CaughtL (z+1) z p 178 (.func (.func 126) #[.pointer (some ⟨q,0,none⟩)] #[])) (fun A B h hk=>h.kept hk ha.2) (old_caughtL hL.lt ha.2) (line_latch (z+1) z ha.2) h hC hL ha.1
theorem coll_ands {V:Int} {N:NC} (cnt z:Nat) (hcnt:cnt≤1000000) (h:PAt 2 p r g (marksE q p g V) V N w s) (hC:Caught (z+3) (z+2) (z+4) p cnt 187 (.func (.func 194) #[] #[.pointer (some ⟨z+1,0,none⟩),.pointer (some ⟨z,0,none⟩)]) w) (hL:CaughtL (z+1) z p 187 (.func (.func 134) #[.pointer (some ⟨q,0,none⟩)] #[]) w) (hz:∃ b,b≤z∧p<b∧r<b∧g<b) :
    Calls Tryz.prog 132 #[.func (.func 203) #[] #[.pointer (some ⟨z+3,0,none⟩),.pointer (some ⟨z+2,0,none⟩),.pointer (some ⟨z+4,0,none⟩)]] w (CollLeft 57 p r g (marksE q p g V) V N 3 AndAt w (s.lines (fun t=>t.and V) cnt)):=by
  obtain ⟨b,hb,ho⟩:=hz
  have ha:=apart5 hb ho
  rw [← Ps.parts_ln]
  exact coll_and hcnt _ (CaughtL (z+1) z p 187 (.func (.func 134) #[.pointer (some ⟨q,0,none⟩)] #[])) (fun A B h hk=>h.kept hk ha.2) (old_caughtL hL.lt ha.2) (line_and (z+1) z ha.2) h hC hL ha.1
set_option maxRecDepth 100000 in
set_option maxHeartbeats 16000000 in
theorem rest_any {V:Int} (ci cl co ca cb cc cm:Nat) (hc:ci≤1000000∧cl≤1000000∧co≤1000000∧ca≤1000000∧cb≤1000000∧cc≤1000000∧cm≤1000000) (hG:(s.body V ci cl co ca cb cc cm).2.e=none→(s.body V ci cl co ca cb cc cm).1.checks) (hq:r<p∧p<q) (h:PAt 2 p r q (bareE q p) V (NCof S0 (n0 V)) w s) :
    Calls Tryz.prog 78 #[.pointer (some ⟨q,0,none⟩),.agg (countsV ⟨ci,cl,co,ca,cb,cc,cm⟩)] w fun e w'=>e=.returned (.tuple #[])∧∃ g S,NAt p r g w' S (s.body V ci cl co ca cb cc cm).1∧PAt 2 p r g (marksE q p g V) V (NCof S (s.body V ci cl co ca cb cc cm).1) w' ((s.body V ci cl co ca cb cc cm).2.finish (s.body V ci cl co ca cb cc cm).1.check)∧Kept3 p r q w w':=by
  obtain ⟨hc1,hc2,hc3,hc4,hc5,hc6,hc7⟩:=hc
  have hv:=h.vars
  obtain ⟨z0,z1,z2,z3,z4⟩:=restW_rows w q p (countsV ⟨ci,cl,co,ca,cb,cc,cm⟩)
  have hP0:=h.below z1
  have hlow:=lt_of_row (show w.heap[q]?=some (.cells _ _ _) from h.ext.1)
  have hK0:Kept3 p r q w (restW w q p (countsV ⟨ci,cl,co,ca,cb,cc,cm⟩)):=Kept3.of_below z1
  have hmk:=run_marks V hv.1 (by omega)
  have r0:(restW w q p (countsV ⟨ci,cl,co,ca,cb,cc,cm⟩)).cell? ⟨w.heap.size+1+1,0,none⟩=some (.pointer (some ⟨p,1,none⟩)):=by rw [cell_of_row _ _ _ _ _ _ z4];rfl
  have r1:(restW w q p (countsV ⟨ci,cl,co,ca,cb,cc,cm⟩)).cell? ⟨w.heap.size,0,none⟩=some (.pointer (some ⟨q,0,none⟩)):=by rw [cell_of_row _ _ _ _ _ _ z2];rfl
  obtain ⟨ev0,-,-,r2,-,-⟩:=hP0.cells
  have hx:w.heap[q]?=some (.cells #[.pointer (some ⟨p,0,none⟩),.slice none 0 0] 66 (0,0)):=h.ext.1
  have x0:w.cell? ⟨q,0,none⟩=some (.pointer (some ⟨p,0,none⟩)):=by rw [cell_of_row _ _ _ _ _ _ hx];rfl
  have x1:((w.alloc (.cells #[.pointer (some ⟨q,0,none⟩)] 119)).alloc (.cells (countsV ⟨ci,cl,co,ca,cb,cc,cm⟩) 124)).cell? ⟨q,0,none⟩=some (.pointer (some ⟨p,0,none⟩)):=(World.cell?_of_block (a:=⟨q,0,none⟩) ((Below.heap_alloc _ _ _ (by simp;omega)).trans (Below.heap_alloc _ _ _ hlow))).trans x0
  obtain ⟨m0,m1,-⟩:=RN.made (W:=(restW w q p (countsV ⟨ci,cl,co,ca,cb,cc,cm⟩)).drew) (hP0.below (Below.refl _ _).drew) hq
  obtain ⟨hy1,hy2,hRN,hKN⟩:=rest_made (b:=w.heap.size) (W:=(restW w q p (countsV ⟨ci,cl,co,ca,cb,cc,cm⟩)).drew) (hP0.below (Below.refl _ _).drew) ⟨hq.1,hq.2,hlow⟩ z2 z3 z4 (g:=w.heap.size+3) z0 rfl
  have HY1:=Lib.hid hy1
  have HY2:=Lib.hid hy2
  have HB0:=Lib.hid (show RN p r (w.heap.size+3) q w.heap.size (((restW w q p (countsV ⟨ci,cl,co,ca,cb,cc,cm⟩)).alloc (.cells (madeCells #[.bool false] (V.toNat+1)) 4)).setCell ⟨q,1,none⟩ (.slice (some ⟨w.heap.size+3,0,none⟩) (V.toNat+1) (V.toNat+1))).drew (countsV ⟨ci,cl,co,ca,cb,cc,cm⟩) S0 (n0 V) (((restW w q p (countsV ⟨ci,cl,co,ca,cb,cc,cm⟩)).alloc (.cells (madeCells #[.bool false] (V.toNat+1)) 4)).setCell ⟨q,1,none⟩ (.slice (some ⟨w.heap.size+3,0,none⟩) (V.toNat+1) (V.toNat+1))).drew s∧Kept3 p r q w (((restW w q p (countsV ⟨ci,cl,co,ca,cb,cc,cm⟩)).alloc (.cells (madeCells #[.bool false] (V.toNat+1)) 4)).setCell ⟨q,1,none⟩ (.slice (some ⟨w.heap.size+3,0,none⟩) (V.toNat+1) (V.toNat+1))).drew from ⟨hRN,hK0.drew.trans hKN⟩)
  replace m0:((restW w q p (countsV ⟨ci,cl,co,ca,cb,cc,cm⟩)).alloc (.cells (madeCells #[.bool false] (V.toNat+1)) 4)).drew.cell? ⟨q,1,none⟩=some (.slice none 0 0):=m0
  replace m1:((restW w q p (countsV ⟨ci,cl,co,ca,cb,cc,cm⟩)).alloc (.cells (madeCells #[.bool false] (V.toNat+1)) 4)).drew.frozen? ⟨q,1,none⟩=false:=m1
  have hwr:IntKind.i64.wrap (V+1)=V+1:=by rw [IntKind.wrap_i64];omega
  have hge0:=z0
  clear hP0 hK0 z0 z1 z2 z3 z4 hx x0 hy1 hy2 hRN hKN
  obtain ⟨⟨l1,s1⟩,e1⟩:∃ y,s.lines (fun t=>t.definition V 1) ci=y:=⟨_,rfl⟩
  obtain ⟨⟨l2,s2⟩,e2⟩:∃ y,s1.lines (fun t=>t.latch V) cl=y:=⟨_,rfl⟩
  obtain ⟨⟨l3,s3⟩,e3⟩:∃ y,s2.lines (fun t=>t.literal V) co=y:=⟨_,rfl⟩
  obtain ⟨⟨l4,s4⟩,e4⟩:∃ y,s3.lines (fun t=>t.literal V) cb=y:=⟨_,rfl⟩
  obtain ⟨⟨l5,s5⟩,e5⟩:∃ y,s4.lines (fun t=>t.literal V) cc=y:=⟨_,rfl⟩
  obtain ⟨⟨s6,l6⟩,e6⟩:∃ y,linesF (fun t=>t.memory) (nxM V) cm (s5,[])=y:=⟨_,rfl⟩
  obtain ⟨⟨l7,s7⟩,e7⟩:∃ y,s6.lines (fun t=>t.and V) ca=y:=⟨_,rfl⟩
  have hbody:s.body V ci cl co ca cb cc cm=(⟨V,l1,l2,l3,l4,l5,l6,l7⟩,s7):=by
    unfold Ps.body
    simp only [e1,e2,e3,e4,e5,e6,e7]
  rw [hbody] at hG ⊢
  have HE1:=Lib.hid e1
  have HE2:=Lib.hid e2
  have HE3:=Lib.hid e3
  have HE4:=Lib.hid e4
  have HE5:=Lib.hid e5
  have HE6:=Lib.hid e6
  have HE7:=Lib.hid e7
  have HG:=Lib.hid hG
  clear e1 e2 e3 e4 e5 e6 e7 hbody hG h
  unfold restW countsV at *
  refine (callsIn_wide (n:=6)).1 ?_
  refine callsIn_of_wp_marks Tryz.func78 rfl trivial ?_ rfl
  simp only [Tryz.ntmps78,List.size_toArray,List.length_cons,List.length_nil,Nat.reduceAdd,Nat.reduceSub,Array.replicate_succ,Array.replicate_zero,List.push_toArray,List.append_toArray,List.nil_append,List.cons_append]
  refine wpIn_wide.2 ?_
  go_wp2_with fail
  -- the marks
  go_region_held3 (fun W=>W.cell? ⟨w.heap.size+1+1,0,none⟩=some (.pointer (some ⟨p,1,none⟩))∧W.cell? ⟨w.heap.size,0,none⟩=some (.pointer (some ⟨q,0,none⟩))∧W.cell? ⟨p,1,none⟩=some (.int .i64 V))
    (first | exact ⟨r0,r1,r2⟩ | exact HY1.out | exact HY2.out)
    (first | fail)
  clear HY1 HY2 m0 m1 r0 r1 r2 x1 hwr hmk
  generalize World.drew _=W0 at HB0 ⊢
  have HK0:=Lib.hid HB0.out.2
  have HB0:=Lib.hid HB0.out.1
  have q0:=HB0.out.low
  have qo:=HB0.out.old
  have hgo:w.heap.size+3=w.heap.size+1+1+1:=rfl
  obtain ⟨g,hg⟩:∃ g,g=w.heap.size+3:=⟨_,rfl⟩
  rw [← hg] at HB0 q0 qo
  go_wp2_with fail
  have HD0:=Lib.hid (HB0.out.below ((Below.refl _ W0).drew))
  have HS0:=Lib.hid (HD0.out.reads (k:=0) (c:=ci) rfl)
  clear HB0
  go_region_held3 (fun W=>W.cell? ⟨w.heap.size+1+1,0,none⟩=some (.pointer (some ⟨p,1,none⟩))∧W.cell? ⟨w.heap.size,0,none⟩=some (.pointer (some ⟨q,0,none⟩))∧W.cell? ⟨q,0,none⟩=some (.pointer (some ⟨p,0,none⟩))∧W.cell? ⟨w.heap.size+1,0,none⟩=some (.int .i64 (ci:Nat)))
    (first | exact HS0.out | exact HSA0.out | exact HSB0.out | exact HSC0.out)
    (first
    | (go_at_call 122;refine (lines_int (p:=p) ci _ ⟨_,_,_,rfl⟩ _).mono ?_;rintro e wa0 ⟨z0,hz0,rfl,hC,hL,hb,hsz⟩;have HA0:=Lib.hid (And.intro hC (And.intro hL (HD0.out.below hb)));have HZ0:=Lib.hid (show ∃ b,b≤z0∧p<b∧r<b∧g<b from ⟨z0,Nat.le_refl _,by rw [← hz0];exact ⟨HD0.out.low.1,HD0.out.low.2.1,HD0.out.low.2.2.1⟩⟩);have HSA0:=Lib.hid (HA0.out.2.2.reads (k:=0) (c:=ci) rfl);clear hC hL hb hsz hz0)
    | (go_at_call 97;have hc:=coll_input (V:=V) ci z0 (by omega) HA0.out.2.2.pat HA0.out.1 HA0.out.2.1 HZ0.out;rw [HE1.out] at hc;refine hc.mono ?_;clear hc;rintro e wb0 ⟨A0,c0,rfl,hR,hP,hK⟩;have hB:=HA0.out.2.2.step hP hK;obtain ⟨⟨v0,d0⟩,f0⟩:=hB.pcell 2 (by omega);have HSB0:=Lib.hid (hB.reads (k:=0) (c:=ci) rfl);have HB1:=Lib.hid (hB.inputs hR);have HSC0:=Lib.hid (HB1.out.reads (k:=0) (c:=ci) rfl);clear hR hP hK hB)
    | fail)
  clear HS0 HSA0 HSB0 HSC0 HA0 HD0 HZ0 d0 f0
  generalize World.setCell _ _ _=W1 at HB1 ⊢
  go_wp2_with fail
  have HD1:=Lib.hid (HB1.out.below ((Below.refl _ W1).drew))
  have HS1:=Lib.hid (HD1.out.reads (k:=1) (c:=cl) rfl)
  clear HB1
  go_region_held3 (fun W=>W.cell? ⟨w.heap.size+1+1,0,none⟩=some (.pointer (some ⟨p,1,none⟩))∧W.cell? ⟨w.heap.size,0,none⟩=some (.pointer (some ⟨q,0,none⟩))∧W.cell? ⟨q,0,none⟩=some (.pointer (some ⟨p,0,none⟩))∧W.cell? ⟨w.heap.size+1,1,none⟩=some (.int .i64 (cl:Nat)))
    (first | exact HS1.out | exact HSA1.out | exact HSB1.out | exact HSC1.out)
    (first
    | (go_at_call 125;refine (lines_latch (p:=p) cl _ ⟨_,_,_,rfl⟩ _).mono ?_;rintro e wa1 ⟨z1,hz1,rfl,hC,hL,hb,hsz⟩;have HA1:=Lib.hid (And.intro hC (And.intro hL (HD1.out.below hb)));have HZ1:=Lib.hid (show ∃ b,b≤z1∧p<b∧r<b∧g<b from ⟨z1,Nat.le_refl _,by rw [← hz1];exact ⟨HD1.out.low.1,HD1.out.low.2.1,HD1.out.low.2.2.1⟩⟩);have HSA1:=Lib.hid (HA1.out.2.2.reads (k:=1) (c:=cl) rfl);clear hC hL hb hsz hz1)
    | (go_at_call 124;have hc:=coll_latches (V:=V) cl z1 (by omega) HA1.out.2.2.pat HA1.out.1 HA1.out.2.1 HZ1.out;rw [HE2.out] at hc;refine hc.mono ?_;clear hc;rintro e wb1 ⟨A1,c1,rfl,hR,hP,hK⟩;have hB:=HA1.out.2.2.step hP hK;obtain ⟨⟨v1,d1⟩,f1⟩:=hB.pcell 3 (by omega);have HSB1:=Lib.hid (hB.reads (k:=1) (c:=cl) rfl);have HB2:=Lib.hid (hB.latches hR);have HSC1:=Lib.hid (HB2.out.reads (k:=1) (c:=cl) rfl);clear hR hP hK hB)
    | fail)
  clear HS1 HSA1 HSB1 HSC1 HA1 HD1 HZ1 d1 f1
  generalize World.setCell _ _ _=W2 at HB2 ⊢
  go_wp2_with fail
  have HD2:=Lib.hid (HB2.out.below ((Below.refl _ W2).drew))
  have HSS:=Lib.hid (show (W2.drew.cell? ⟨w.heap.size,0,none⟩=some (.pointer (some ⟨q,0,none⟩))∧W2.drew.cell? ⟨q,0,none⟩=some (.pointer (some ⟨p,0,none⟩)))∧W2.drew.cell? ⟨w.heap.size+1,0,none⟩=some (.int .i64 (ci:Nat))∧W2.drew.cell? ⟨w.heap.size+1,1,none⟩=some (.int .i64 (cl:Nat))∧W2.drew.cell? ⟨w.heap.size+1,2,none⟩=some (.int .i64 (co:Nat))∧W2.drew.cell? ⟨w.heap.size+1,3,none⟩=some (.int .i64 (ca:Nat))∧W2.drew.cell? ⟨w.heap.size+1,4,none⟩=some (.int .i64 (cb:Nat))∧W2.drew.cell? ⟨w.heap.size+1,5,none⟩=some (.int .i64 (cc:Nat))∧W2.drew.cell? ⟨w.heap.size+1,6,none⟩=some (.int .i64 (cm:Nat)) from
    ⟨⟨(HD2.out.reads (k:=0) (c:=ci) rfl).2.1,(HD2.out.reads (k:=0) (c:=ci) rfl).2.2.1⟩,(HD2.out.reads (k:=0) (c:=ci) rfl).2.2.2,(HD2.out.reads (k:=1) (c:=cl) rfl).2.2.2,(HD2.out.reads (k:=2) (c:=co) rfl).2.2.2,(HD2.out.reads (k:=3) (c:=ca) rfl).2.2.2,(HD2.out.reads (k:=4) (c:=cb) rfl).2.2.2,(HD2.out.reads (k:=5) (c:=cc) rfl).2.2.2,(HD2.out.reads (k:=6) (c:=cm) rfl).2.2.2⟩)
  clear HB2
  go_region_held3 (fun W=>(W.cell? ⟨w.heap.size,0,none⟩=some (.pointer (some ⟨q,0,none⟩))∧W.cell? ⟨q,0,none⟩=some (.pointer (some ⟨p,0,none⟩)))∧W.cell? ⟨w.heap.size+1,0,none⟩=some (.int .i64 (ci:Nat))∧W.cell? ⟨w.heap.size+1,1,none⟩=some (.int .i64 (cl:Nat))∧W.cell? ⟨w.heap.size+1,2,none⟩=some (.int .i64 (co:Nat))∧W.cell? ⟨w.heap.size+1,3,none⟩=some (.int .i64 (ca:Nat))∧W.cell? ⟨w.heap.size+1,4,none⟩=some (.int .i64 (cb:Nat))∧W.cell? ⟨w.heap.size+1,5,none⟩=some (.int .i64 (cc:Nat))∧W.cell? ⟨w.heap.size+1,6,none⟩=some (.int .i64 (cm:Nat)))
    (first | exact HSS.out | exact HST.out)
    (first
    | (go_at_call 127;refine (singles_any (n:=⟨V,l1,l2,[],[],[],[],[]⟩) ci cl co ca cb cc cm ⟨hc3,hc5,hc6⟩ HE3.out HE4.out HE5.out HD2.out.pat HD2.out.net).mono ?_;rintro e W5 ⟨rfl,A2,c2,A3,c3,A4,c4,hN,hP,hK⟩;have HB5:=Lib.hid (HD2.out.next (n':=⟨V,l1,l2,l3,l4,l5,[],[]⟩) rfl hP hN hK);have HST:=Lib.hid (show (W5.cell? ⟨w.heap.size,0,none⟩=some (.pointer (some ⟨q,0,none⟩))∧W5.cell? ⟨q,0,none⟩=some (.pointer (some ⟨p,0,none⟩)))∧W5.cell? ⟨w.heap.size+1,0,none⟩=some (.int .i64 (ci:Nat))∧W5.cell? ⟨w.heap.size+1,1,none⟩=some (.int .i64 (cl:Nat))∧W5.cell? ⟨w.heap.size+1,2,none⟩=some (.int .i64 (co:Nat))∧W5.cell? ⟨w.heap.size+1,3,none⟩=some (.int .i64 (ca:Nat))∧W5.cell? ⟨w.heap.size+1,4,none⟩=some (.int .i64 (cb:Nat))∧W5.cell? ⟨w.heap.size+1,5,none⟩=some (.int .i64 (cc:Nat))∧W5.cell? ⟨w.heap.size+1,6,none⟩=some (.int .i64 (cm:Nat)) from ⟨⟨(HB5.out.reads (k:=0) (c:=ci) rfl).2.1,(HB5.out.reads (k:=0) (c:=ci) rfl).2.2.1⟩,(HB5.out.reads (k:=0) (c:=ci) rfl).2.2.2,(HB5.out.reads (k:=1) (c:=cl) rfl).2.2.2,(HB5.out.reads (k:=2) (c:=co) rfl).2.2.2,(HB5.out.reads (k:=3) (c:=ca) rfl).2.2.2,(HB5.out.reads (k:=4) (c:=cb) rfl).2.2.2,(HB5.out.reads (k:=5) (c:=cc) rfl).2.2.2,(HB5.out.reads (k:=6) (c:=cm) rfl).2.2.2⟩);clear hN hP hK)
    | fail)
  clear HSS HST HD2
  go_wp2_with fail
  have HD5:=Lib.hid (HB5.out.below ((Below.refl _ W5).drew))
  have HS5:=Lib.hid (HD5.out.reads (k:=6) (c:=cm) rfl)
  clear HB5
  go_region_held3 (fun W=>W.cell? ⟨w.heap.size+1+1,0,none⟩=some (.pointer (some ⟨p,1,none⟩))∧W.cell? ⟨w.heap.size,0,none⟩=some (.pointer (some ⟨q,0,none⟩))∧W.cell? ⟨q,0,none⟩=some (.pointer (some ⟨p,0,none⟩))∧W.cell? ⟨w.heap.size+1,6,none⟩=some (.int .i64 (cm:Nat)))
    (first | exact HS5.out | exact HSA5.out)
    (first
    | (go_at_call 128;refine (lines_memory (p:=p) cm _ ⟨_,_,_,rfl⟩ _).mono ?_;rintro e w6 ⟨z5,hz5,rfl,hC,hL,hb,hsz⟩;have HA6:=Lib.hid (And.intro hC (And.intro hL (And.intro (HD5.out.below hb) (show True∧w6.heap.size=z5+5∧W0.heap.size≤z5 from ⟨trivial,hsz,by rw [← hz5];exact HD5.out.kept.size⟩))));have HSA5:=Lib.hid (HA6.out.2.2.1.reads (k:=6) (c:=cm) rfl);clear hC hL hb hsz hz5)
    | fail)
  clear HS5 HSA5 HD5
  go_wp2_with fail
  have HO:=Lib.hid (show MemO p r g q w.heap.size W0 w6.heap.size (z5+3) (z5+2) (z5+4) (z5+1) z5 from by
    have h1:=HA6.out.2.2.2
    exact ⟨by omega,by omega,by omega,by omega⟩)
  have HX:=Lib.hid (memX_start (bq:=w6.heap.size) HA6.out.2.2.1 rfl ⟨rfl,rfl⟩ HA6.out.1 HA6.out.2.1)
  have HKW:=Lib.hid HA6.out.2.2.1.kept.size
  refine (wpIn_wide (n:=6)).1 ?_
  refine wp_range_box (p0:=65) 5 rfl (by omega) (gf:=221) rfl trivial (enters_of Tryz.func221 (by kernel_rfl) rfl)
    (each_memory _ (by omega) (Ps.ln (fun t=>t.memory)) (nxM V) _ _ _ (z5+1) z5 cm (by omega) (s5,[]) w6 HO.out.apart List.length (fun s x=>by simp [nxM]) rfl (CaughtL (z5+1) z5 p 79 (.func (.func 129) #[.pointer (some ⟨p,0,none⟩)] #[])) (fun A B h hk=>h.kept hk HO.out.apartL) (line_memory (z5+1) z5 HO.out.apartL)) (Below.refl _ _) (fun s W=>MemX p r g q w.heap.size W0 _ _ _ _ _ _ _ _ _ cm _ _ s W) (memX_own HO.out _ HKW.out)
    (fun s W h=>by obtain ⟨v,ms,h⟩:=h;exact ⟨⟨_,h.pat⟩,h.caught,h.caughtL⟩) (fun s s' A B hA h hs=>memX_step HO.out h hs)
    (fun s s' A B hk hs=>by obtain ⟨⟨N1,h1⟩,_⟩:=hk;exact keeps_step h1 hs.2.2)
    HX.out (fun s x=>x.good∧s.2.length<cm) ?good (fun x c=>∃ A B,c=#[.int .i64 x.sa,.int .i64 x.sw,.bool x.sn,.slice A x.sr.toNat x.sr.toNat,.slice B x.sx.toNat x.sx.toNat]) 54 (fun s vb W=>MemX2 p r g q w.heap.size W0 _ _ _ _ _ _ _ _ _ cm _ _ s vb W) (memX2_own HO.out _ HKW.out) (fun s W c h=>memX_two HO.out c h) ?assign ?body ?done
  case good =>
    rintro s x v W hI ⟨⟨he,hlt⟩,⟨t,ht,h1⟩,_⟩
    exact ⟨Ps.memory_good h1 he,hlt⟩
  case assign =>
    rintro l s x v W K ⟨⟨he,hlt⟩,ht,A,B,rfl⟩ hK
    have HK:=Lib.hid (hK _ ⟨A,B,rfl⟩)
    clear hK ht
    gi_wp2
    exact HK.out
  case body =>
    rintro l ⟨s,xs⟩ x v vb _ W hW hvb hrow ⟨A,B,rfl⟩ ⟨v7,ms,hI,hne⟩ ⟨hx,hlt⟩
    have hml:ms.length≤1000000:=by
      have h1:(ms.map GM.m).length=xs.length:=congrArg _ hI.told
      rw [List.length_map] at h1
      have h2:xs.length<cm:=hlt
      omega
    have HJ:=Lib.hid (hI.turn (W':=W.drew) ⟨Nat.le_refl _,fun _ _ _ _ h=>h⟩ hI.kept.drew)
    have HS:=Lib.hid (HJ.out.round (vb:=vb) (x:=x) (A:=A) (B:=B) hrow)
    have HV:=Lib.hid (And.intro hne (And.intro (Nat.le_trans HKW.out hvb) (show vb<W.drew.heap.size from lt_of_row hrow)))
    have HM:=Lib.hid (And.intro hml (And.intro hx (show w6.heap.size≤W.drew.heap.size from hW)))
    have k7:=HJ.out.reads.2.2.1
    clear hml hI hx hlt hrow hvb hW hne
    refine wpIn_block ?_
    simp only [List.setIfInBounds_toArray,List.set_cons_zero,List.set_cons_succ]
    refine region_inRound (S:=fun W=>W.cell? ⟨w.heap.size+1+1,0,none⟩=some (.pointer (some ⟨p,1,none⟩))∧W.cell? ⟨w.heap.size,0,none⟩=some (.pointer (some ⟨q,0,none⟩))∧W.cell? ⟨q,0,none⟩=some (.pointer (some ⟨p,0,none⟩))∧W.cell? ⟨vb,0,none⟩=some (.int .i64 x.sa)∧W.cell? ⟨vb,1,none⟩=some (.int .i64 x.sw)∧W.cell? ⟨vb,2,none⟩=some (.bool x.sn)∧W.cell? ⟨vb,3,none⟩=some (.slice A x.sr.toNat x.sr.toNat)∧W.cell? ⟨vb,4,none⟩=some (.slice B x.sx.toNat x.sx.toNat)) (by kernel_rfl) (nodefer (by kernel_rfl)) (fun ⟨_,_,h,_⟩=>by cases h) HS.out (fun hHeld=>?_)
    refine wpAnyH_take (i:=0) (oi:=⟨_,_,_,_,_,_⟩) (v:=?_) rfl (by kernel_rfl) (by kernel_rfl) (by kernel_rfl) (fun _ _ _ h=>h) (Or.inl ⟨by rfl,?_⟩) (by assumption) ?_
    rotate_left
    · intro W hSw
      try dsimp only at hSw
      go_simp <;> with_reducible rfl
    try simp only [Act.put,List.setIfInBounds_toArray,List.set_cons_zero,List.set_cons_succ]
    refine wpAnyH_take (i:=1) (oi:=⟨_,_,_,_,_,_⟩) (v:=?_) rfl (by kernel_rfl) (by kernel_rfl) (by kernel_rfl) (fun _ _ _ h=>h) (Or.inl ⟨by rfl,?_⟩) (by assumption) ?_
    rotate_left
    · intro W hSw
      try dsimp only at hSw
      go_simp <;> with_reducible rfl
    try simp only [Act.put,List.setIfInBounds_toArray,List.set_cons_zero,List.set_cons_succ]
    refine wpAnyH_take (i:=2) (oi:=⟨_,_,_,_,_,_⟩) (v:=?_) rfl (by kernel_rfl) (by kernel_rfl) (by kernel_rfl) (fun _ _ _ h=>h) (Or.inl ⟨by rfl,?_⟩) (by assumption) ?_
    rotate_left
    · intro W hSw
      try dsimp only at hSw
      go_simp <;> with_reducible rfl
    try simp only [Act.put,List.setIfInBounds_toArray,List.set_cons_zero,List.set_cons_succ]
    refine wpAnyH_take (i:=3) (oi:=⟨_,_,_,_,_,_⟩) (v:=?_) rfl (by kernel_rfl) (by kernel_rfl) (by kernel_rfl) (fun _ _ _ h=>h) (Or.inl ⟨by rfl,?_⟩) (by assumption) ?_
    rotate_left
    · intro W hSw
      try dsimp only at hSw
      go_simp <;> with_reducible rfl
    try simp only [Act.put,List.setIfInBounds_toArray,List.set_cons_zero,List.set_cons_succ]
    refine wpAnyH_take (i:=5) (oi:=⟨_,_,_,_,_,_⟩) (v:=?_) rfl (by kernel_rfl) (by kernel_rfl) (by kernel_rfl) (fun _ _ _ h=>h) (Or.inl ⟨by rfl,?_⟩) (by assumption) ?_
    rotate_left
    · intro W hSw
      try dsimp only at hSw
      go_simp <;> with_reducible rfl
    try simp only [Act.put,List.setIfInBounds_toArray,List.set_cons_zero,List.set_cons_succ]
    refine wpAnyH_take (i:=6) (oi:=⟨_,_,_,_,_,_⟩) (v:=?_) rfl (by kernel_rfl) (by kernel_rfl) (by kernel_rfl) (fun _ _ _ h=>h) (Or.inl ⟨by rfl,?_⟩) (by assumption) ?_
    rotate_left
    · intro W hSw
      try dsimp only at hSw
      go_simp <;> with_reducible rfl
    try simp only [Act.put,List.setIfInBounds_toArray,List.set_cons_zero,List.set_cons_succ]
    refine wpAnyH_take (i:=7) (oi:=⟨_,_,_,_,_,_⟩) (v:=?_) rfl (by kernel_rfl) (by kernel_rfl) (by kernel_rfl) (fun _ _ _ h=>h) (Or.inl ⟨by rfl,?_⟩) (by assumption) ?_
    rotate_left
    · intro W hSw
      try dsimp only at hSw
      go_simp <;> with_reducible rfl
    try simp only [Act.put,List.setIfInBounds_toArray,List.set_cons_zero,List.set_cons_succ]
    refine wpAnyH_take (i:=8) (oi:=⟨_,_,_,_,_,_⟩) (v:=?_) rfl (by kernel_rfl) (by kernel_rfl) (by kernel_rfl) (fun _ _ _ h=>h) (Or.inl ⟨by rfl,?_⟩) (by assumption) ?_
    rotate_left
    · intro W hSw
      try dsimp only at hSw
      go_simp <;> with_reducible rfl
    try simp only [Act.put,List.setIfInBounds_toArray,List.set_cons_zero,List.set_cons_succ]
    refine wpAnyH_take (i:=9) (oi:=⟨_,_,_,_,_,_⟩) (v:=?_) rfl (by kernel_rfl) (by kernel_rfl) (by kernel_rfl) (fun _ _ _ h=>h) (Or.inl ⟨by rfl,?_⟩) (by assumption) ?_
    rotate_left
    · intro W hSw
      try dsimp only at hSw
      go_simp <;> with_reducible rfl
    try simp only [Act.put,List.setIfInBounds_toArray,List.set_cons_zero,List.set_cons_succ]
    refine wpAnyH_take (i:=10) (oi:=⟨_,_,_,_,_,_⟩) (v:=?_) rfl (by kernel_rfl) (by kernel_rfl) (by kernel_rfl) (fun _ _ _ h=>h) (Or.inl ⟨by rfl,?_⟩) (by assumption) ?_
    rotate_left
    · intro W hSw
      try dsimp only at hSw
      go_simp <;> with_reducible rfl
    try simp only [Act.put,List.setIfInBounds_toArray,List.set_cons_zero,List.set_cons_succ]
    refine wpAnyH_take (i:=11) (oi:=⟨_,_,_,_,_,_⟩) (v:=?_) rfl (by kernel_rfl) (by kernel_rfl) (by kernel_rfl) (fun _ _ _ h=>h) (Or.inl ⟨by rfl,?_⟩) (by assumption) ?_
    rotate_left
    · intro W hSw
      try dsimp only at hSw
      go_simp <;> with_reducible rfl
    try simp only [Act.put,List.setIfInBounds_toArray,List.set_cons_zero,List.set_cons_succ]
    refine wpAnyH_ready (rs:=[4,12]) (by kernel_rfl) (by simp) ?_
    refine AllReadyH.cons (o:=⟨_,_,_,_,_,_⟩) rfl (fun K hK=>?_) ?_
    · have HK:=Lib.hid hK
      clear hK
      go_simp
      refine HK.out.out _ _ HS.out (fun _=>?_)
      clear HK K
      try simp only [Act.put,List.setIfInBounds_toArray,List.set_cons_zero,List.set_cons_succ]
      refine wpAnyH_ready (rs:=[12]) (by kernel_rfl) (by simp) ?_
      refine AllReadyH.cons (o:=⟨_,_,_,_,_,_⟩) rfl (fun K hK=>?_) AllReadyH.nil
      have HK:=Lib.hid hK
      clear hK
      go_simp
      go_at_call 130
      refine (portsA_any (V:=V) x HM.out.2.1 A B HJ.out.pat).mono ?_
      rintro e W1 ⟨A6,c6,B6,d6,rfl,hRX,hP,hK⟩
      have HJ1:=Lib.hid (HJ.out.kept2 HO.out hP hK)
      have HR1:=Lib.hid (show GMAt p r g W1 ⟨(s.ports (fun k t=>t.nextDef V k) V x).1,A6,c6,B6,d6⟩ from hRX)
      have HS1:=Lib.hid (HS.out.kept HO.out HV.out.2 HJ.out hK)
      have HB1:=Lib.hid (show w6.heap.size≤W1.heap.size∧vb<W1.heap.size from by have h1:W.drew.heap.size≤W1.heap.size:=hK.size;have h2:=HV.out.2.2;have h3:=HM.out.2.2;omega)
      have hko:=keeps_step (W:=W.drew) HJ.out.pat hK
      have HKO:=Lib.hid (show KeepsOthers W W1 from ⟨hko.1,hko.2⟩)
      clear hko
      clear k7
      have k7:=HJ1.out.reads.2.2.1
      clear hRX hP hK
      refine HK.out.out _ _ HS1.out (fun _=>?_)
      clear HK K
      try simp only [Act.put,List.setIfInBounds_toArray,List.set_cons_zero,List.set_cons_succ]
      refine wpAnyH_ready (rs:=[13]) (by kernel_rfl) (by simp) ?_
      refine AllReadyH.cons (o:=⟨_,_,_,_,_,_⟩) rfl (fun K hK=>?_) AllReadyH.nil
      have HK:=Lib.hid hK
      clear hK
      go_simp
      have HS2:=Lib.hid (HS1.out.alloc HB1.out.2 HJ1.out (.cells (gmCells ⟨(s.ports (fun k t=>t.nextDef V k) V x).1,A6,c6,B6,d6⟩).toArray 54))
      clear k7
      have k7:=HJ1.out.seven0 (.cells (gmCells ⟨(s.ports (fun k t=>t.nextDef V k) V x).1,A6,c6,B6,d6⟩).toArray 54)
      change (W1.alloc (.cells #[_,_,_,_,_] _)).cell? _=_ at k7
      refine HK.out.out _ _ HS2.out (fun _=>?_)
      clear HK K
      try simp only [Act.put,List.setIfInBounds_toArray,List.set_cons_zero,List.set_cons_succ]
      refine wpAnyH_ready (rs:=[14]) (by kernel_rfl) (by simp) ?_
      refine AllReadyH.cons (o:=⟨_,_,_,_,_,_⟩) rfl (fun K hK=>?_) AllReadyH.nil
      have HK:=Lib.hid hK
      clear hK
      refine step_mem rfl (W:=W1) (b:=W1.heap.size) (v:=v7) (ms:=ms) (by rfl) (.tmp 70) (.tmp 79) (by rfl) (by rfl) HJ1.out.own HB1.out.1 ⟨(s.ports (fun k t=>t.nextDef V k) V x).1,A6,c6,B6,d6⟩ (by rfl) (by rfl) HM.out.1 ?_
      intro v8 W2 hg ho
      have ho1:=ho
      rw [show (ms++[(⟨(s.ports (fun k t=>t.nextDef V k) V x).1,A6,c6,B6,d6⟩:GM)]).length=ms.length+1 by simp] at ho1
      obtain ⟨g8,c8,rfl⟩:=ownsRow_succ ho1
      obtain ⟨k8,f8⟩:=HJ1.out.seven HO.out hg
      have HN:=Lib.hid (And.intro hg ho)
      have HS3:=Lib.hid (HS1.out.grown HO.out HB1.out.1 ⟨HV.out.1,HB1.out.2⟩ HJ1.out hg)
      clear hg ho ho1 k7
      refine HK.out.out _ _ HS3.out (fun _=>?_)
      clear HK K
      try simp only [Act.put,List.setIfInBounds_toArray,List.set_cons_zero,List.set_cons_succ]
      refine wpAnyH_ready (rs:=[15]) (by kernel_rfl) (by simp) ?_
      refine AllReadyH.cons (o:=⟨_,_,_,_,_,_⟩) rfl (fun K hK=>?_) AllReadyH.nil
      have HK:=Lib.hid hK
      clear hK
      go_simp
      refine HK.out.out _ _ HS3.out (fun _=>?_)
      clear HK K
      try simp only [Act.put,List.setIfInBounds_toArray,List.set_cons_zero,List.set_cons_succ]
      refine wpAnyH_ready (rs:=[16]) (by kernel_rfl) (by simp) ?_
      refine AllReadyH.cons (o:=⟨_,_,_,_,_,_⟩) rfl (fun K hK=>?_) AllReadyH.nil
      have HK:=Lib.hid hK
      clear hK
      go_simp
      refine HK.out.out _ _ HS3.out (fun _=>?_)
      clear HK K
      try simp only [Act.put,List.setIfInBounds_toArray,List.set_cons_zero,List.set_cons_succ]
      refine wpAnyH_ready (rs:=[17]) (by kernel_rfl) (by simp) ?_
      refine AllReadyH.cons (o:=⟨_,_,_,_,_,_⟩) rfl (fun K hK=>?_) AllReadyH.nil
      have HK:=Lib.hid hK
      clear hK
      go_simp
      have HS4:=Lib.hid (HS3.out.put (j:=7) (u:=.slice (some ⟨g8,0,none⟩) (ms.length+1) c8) HO.out HV.out.2.1)
      refine HK.out.out _ _ HS4.out (fun _=>?_)
      clear HK K
      try simp only [Act.put,List.setIfInBounds_toArray,List.set_cons_zero,List.set_cons_succ]
      refine wpAnyH_done (by kernel_rfl) ?_ _
      exact ⟨rfl,HKO.out.trans (HJ1.out.keeps HN.out.1),_,_,HJ1.out.push HO.out rfl HB1.out.1 HR1.out HN.out.1 HN.out.2⟩
    refine AllReadyH.cons (o:=⟨_,_,_,_,_,_⟩) rfl (fun K hK=>?_) AllReadyH.nil
    have HK:=Lib.hid hK
    clear hK
    go_simp
    go_at_call 130
    refine (portsA_any (V:=V) x HM.out.2.1 A B HJ.out.pat).mono ?_
    rintro e W1 ⟨A6,c6,B6,d6,rfl,hRX,hP,hK⟩
    have HJ1:=Lib.hid (HJ.out.kept2 HO.out hP hK)
    have HR1:=Lib.hid (show GMAt p r g W1 ⟨(s.ports (fun k t=>t.nextDef V k) V x).1,A6,c6,B6,d6⟩ from hRX)
    have HS1:=Lib.hid (HS.out.kept HO.out HV.out.2 HJ.out hK)
    have HB1:=Lib.hid (show w6.heap.size≤W1.heap.size∧vb<W1.heap.size from by have h1:W.drew.heap.size≤W1.heap.size:=hK.size;have h2:=HV.out.2.2;have h3:=HM.out.2.2;omega)
    have hko:=keeps_step (W:=W.drew) HJ.out.pat hK
    have HKO:=Lib.hid (show KeepsOthers W W1 from ⟨hko.1,hko.2⟩)
    clear hko
    clear k7
    have k7:=HJ1.out.reads.2.2.1
    clear hRX hP hK
    refine HK.out.out _ _ HS1.out (fun _=>?_)
    clear HK K
    try simp only [Act.put,List.setIfInBounds_toArray,List.set_cons_zero,List.set_cons_succ]
    refine wpAnyH_ready (rs:=[4,13]) (by kernel_rfl) (by simp) ?_
    refine AllReadyH.cons (o:=⟨_,_,_,_,_,_⟩) rfl (fun K hK=>?_) ?_
    · have HK:=Lib.hid hK
      clear hK
      go_simp
      refine HK.out.out _ _ HS1.out (fun _=>?_)
      clear HK K
      try simp only [Act.put,List.setIfInBounds_toArray,List.set_cons_zero,List.set_cons_succ]
      refine wpAnyH_ready (rs:=[13]) (by kernel_rfl) (by simp) ?_
      refine AllReadyH.cons (o:=⟨_,_,_,_,_,_⟩) rfl (fun K hK=>?_) AllReadyH.nil
      have HK:=Lib.hid hK
      clear hK
      go_simp
      have HS2:=Lib.hid (HS1.out.alloc HB1.out.2 HJ1.out (.cells (gmCells ⟨(s.ports (fun k t=>t.nextDef V k) V x).1,A6,c6,B6,d6⟩).toArray 54))
      clear k7
      have k7:=HJ1.out.seven0 (.cells (gmCells ⟨(s.ports (fun k t=>t.nextDef V k) V x).1,A6,c6,B6,d6⟩).toArray 54)
      change (W1.alloc (.cells #[_,_,_,_,_] _)).cell? _=_ at k7
      refine HK.out.out _ _ HS2.out (fun _=>?_)
      clear HK K
      try simp only [Act.put,List.setIfInBounds_toArray,List.set_cons_zero,List.set_cons_succ]
      refine wpAnyH_ready (rs:=[14]) (by kernel_rfl) (by simp) ?_
      refine AllReadyH.cons (o:=⟨_,_,_,_,_,_⟩) rfl (fun K hK=>?_) AllReadyH.nil
      have HK:=Lib.hid hK
      clear hK
      refine step_mem rfl (W:=W1) (b:=W1.heap.size) (v:=v7) (ms:=ms) (by rfl) (.tmp 70) (.tmp 79) (by rfl) (by rfl) HJ1.out.own HB1.out.1 ⟨(s.ports (fun k t=>t.nextDef V k) V x).1,A6,c6,B6,d6⟩ (by rfl) (by rfl) HM.out.1 ?_
      intro v8 W2 hg ho
      have ho1:=ho
      rw [show (ms++[(⟨(s.ports (fun k t=>t.nextDef V k) V x).1,A6,c6,B6,d6⟩:GM)]).length=ms.length+1 by simp] at ho1
      obtain ⟨g8,c8,rfl⟩:=ownsRow_succ ho1
      obtain ⟨k8,f8⟩:=HJ1.out.seven HO.out hg
      have HN:=Lib.hid (And.intro hg ho)
      have HS3:=Lib.hid (HS1.out.grown HO.out HB1.out.1 ⟨HV.out.1,HB1.out.2⟩ HJ1.out hg)
      clear hg ho ho1 k7
      refine HK.out.out _ _ HS3.out (fun _=>?_)
      clear HK K
      try simp only [Act.put,List.setIfInBounds_toArray,List.set_cons_zero,List.set_cons_succ]
      refine wpAnyH_ready (rs:=[15]) (by kernel_rfl) (by simp) ?_
      refine AllReadyH.cons (o:=⟨_,_,_,_,_,_⟩) rfl (fun K hK=>?_) AllReadyH.nil
      have HK:=Lib.hid hK
      clear hK
      go_simp
      refine HK.out.out _ _ HS3.out (fun _=>?_)
      clear HK K
      try simp only [Act.put,List.setIfInBounds_toArray,List.set_cons_zero,List.set_cons_succ]
      refine wpAnyH_ready (rs:=[16]) (by kernel_rfl) (by simp) ?_
      refine AllReadyH.cons (o:=⟨_,_,_,_,_,_⟩) rfl (fun K hK=>?_) AllReadyH.nil
      have HK:=Lib.hid hK
      clear hK
      go_simp
      refine HK.out.out _ _ HS3.out (fun _=>?_)
      clear HK K
      try simp only [Act.put,List.setIfInBounds_toArray,List.set_cons_zero,List.set_cons_succ]
      refine wpAnyH_ready (rs:=[17]) (by kernel_rfl) (by simp) ?_
      refine AllReadyH.cons (o:=⟨_,_,_,_,_,_⟩) rfl (fun K hK=>?_) AllReadyH.nil
      have HK:=Lib.hid hK
      clear hK
      go_simp
      have HS4:=Lib.hid (HS3.out.put (j:=7) (u:=.slice (some ⟨g8,0,none⟩) (ms.length+1) c8) HO.out HV.out.2.1)
      refine HK.out.out _ _ HS4.out (fun _=>?_)
      clear HK K
      try simp only [Act.put,List.setIfInBounds_toArray,List.set_cons_zero,List.set_cons_succ]
      refine wpAnyH_done (by kernel_rfl) ?_ _
      exact ⟨rfl,HKO.out.trans (HJ1.out.keeps HN.out.1),_,_,HJ1.out.push HO.out rfl HB1.out.1 HR1.out HN.out.1 HN.out.2⟩
    refine AllReadyH.cons (o:=⟨_,_,_,_,_,_⟩) rfl (fun K hK=>?_) AllReadyH.nil
    have HK:=Lib.hid hK
    clear hK
    go_simp
    have HS2:=Lib.hid (HS1.out.alloc HB1.out.2 HJ1.out (.cells (gmCells ⟨(s.ports (fun k t=>t.nextDef V k) V x).1,A6,c6,B6,d6⟩).toArray 54))
    clear k7
    have k7:=HJ1.out.seven0 (.cells (gmCells ⟨(s.ports (fun k t=>t.nextDef V k) V x).1,A6,c6,B6,d6⟩).toArray 54)
    change (W1.alloc (.cells #[_,_,_,_,_] _)).cell? _=_ at k7
    refine HK.out.out _ _ HS2.out (fun _=>?_)
    clear HK K
    try simp only [Act.put,List.setIfInBounds_toArray,List.set_cons_zero,List.set_cons_succ]
    refine wpAnyH_ready (rs:=[4]) (by kernel_rfl) (by simp) ?_
    refine AllReadyH.cons (o:=⟨_,_,_,_,_,_⟩) rfl (fun K hK=>?_) AllReadyH.nil
    have HK:=Lib.hid hK
    clear hK
    go_simp
    refine HK.out.out _ _ HS2.out (fun _=>?_)
    clear HK K
    try simp only [Act.put,List.setIfInBounds_toArray,List.set_cons_zero,List.set_cons_succ]
    refine wpAnyH_ready (rs:=[14]) (by kernel_rfl) (by simp) ?_
    refine AllReadyH.cons (o:=⟨_,_,_,_,_,_⟩) rfl (fun K hK=>?_) AllReadyH.nil
    have HK:=Lib.hid hK
    clear hK
    refine step_mem rfl (W:=W1) (b:=W1.heap.size) (v:=v7) (ms:=ms) (by rfl) (.tmp 70) (.tmp 79) (by rfl) (by rfl) HJ1.out.own HB1.out.1 ⟨(s.ports (fun k t=>t.nextDef V k) V x).1,A6,c6,B6,d6⟩ (by rfl) (by rfl) HM.out.1 ?_
    intro v8 W2 hg ho
    have ho1:=ho
    rw [show (ms++[(⟨(s.ports (fun k t=>t.nextDef V k) V x).1,A6,c6,B6,d6⟩:GM)]).length=ms.length+1 by simp] at ho1
    obtain ⟨g8,c8,rfl⟩:=ownsRow_succ ho1
    obtain ⟨k8,f8⟩:=HJ1.out.seven HO.out hg
    have HN:=Lib.hid (And.intro hg ho)
    have HS3:=Lib.hid (HS1.out.grown HO.out HB1.out.1 ⟨HV.out.1,HB1.out.2⟩ HJ1.out hg)
    clear hg ho ho1 k7
    refine HK.out.out _ _ HS3.out (fun _=>?_)
    clear HK K
    try simp only [Act.put,List.setIfInBounds_toArray,List.set_cons_zero,List.set_cons_succ]
    refine wpAnyH_ready (rs:=[15]) (by kernel_rfl) (by simp) ?_
    refine AllReadyH.cons (o:=⟨_,_,_,_,_,_⟩) rfl (fun K hK=>?_) AllReadyH.nil
    have HK:=Lib.hid hK
    clear hK
    go_simp
    refine HK.out.out _ _ HS3.out (fun _=>?_)
    clear HK K
    try simp only [Act.put,List.setIfInBounds_toArray,List.set_cons_zero,List.set_cons_succ]
    refine wpAnyH_ready (rs:=[16]) (by kernel_rfl) (by simp) ?_
    refine AllReadyH.cons (o:=⟨_,_,_,_,_,_⟩) rfl (fun K hK=>?_) AllReadyH.nil
    have HK:=Lib.hid hK
    clear hK
    go_simp
    refine HK.out.out _ _ HS3.out (fun _=>?_)
    clear HK K
    try simp only [Act.put,List.setIfInBounds_toArray,List.set_cons_zero,List.set_cons_succ]
    refine wpAnyH_ready (rs:=[17]) (by kernel_rfl) (by simp) ?_
    refine AllReadyH.cons (o:=⟨_,_,_,_,_,_⟩) rfl (fun K hK=>?_) AllReadyH.nil
    have HK:=Lib.hid hK
    clear hK
    go_simp
    have HS4:=Lib.hid (HS3.out.put (j:=7) (u:=.slice (some ⟨g8,0,none⟩) (ms.length+1) c8) HO.out HV.out.2.1)
    refine HK.out.out _ _ HS4.out (fun _=>?_)
    clear HK K
    try simp only [Act.put,List.setIfInBounds_toArray,List.set_cons_zero,List.set_cons_succ]
    refine wpAnyH_done (by kernel_rfl) ?_ _
    exact ⟨rfl,HKO.out.trans (HJ1.out.keeps HN.out.1),_,_,HJ1.out.push HO.out rfl HB1.out.1 HR1.out HN.out.1 HN.out.2⟩
  case done =>
    rintro D sf W6 hD hF hI hK
    subst hF
    rw [linesF_each,HE6.out] at hI
    obtain ⟨A9,c9,hR9⟩:=memX_fin HO.out hI
    have HB6:=Lib.hid (show RN p r g q w.heap.size W0 _ { i:=A0,ic:=c0,l:=A1,lc:=c1,o:=A2,oc:=c2,b:=A3,bc:=c3,c:=A4,cc:=c4,m:=A9,mc:=c9,a:=none,ac:=0 } ⟨V,l1,l2,l3,l4,l5,l6,[]⟩ W6 s6 from hR9)
    have HDF:=Lib.hid (show W6.drew.heap[D]?=some (.deferred (some [])) from hK)
    have HDL:=Lib.hid (show p<D∧r<D∧g<D∧W0.heap.size≤D∧w.heap.size≤D from by have h1:=HKW.out;have h2:=HK0.out.size;omega)
    clear hI hR9 hK hD HX HA6
    go_wp2_with fail
    have HD6:=Lib.hid (HB6.out.below ((Below.refl _ W6).drew))
    have HS6:=Lib.hid (HD6.out.reads (k:=3) (c:=ca) rfl)
    clear HB6
    go_region_held3 (fun W=>W.cell? ⟨w.heap.size+1+1,0,none⟩=some (.pointer (some ⟨p,1,none⟩))∧W.cell? ⟨w.heap.size,0,none⟩=some (.pointer (some ⟨q,0,none⟩))∧W.cell? ⟨q,0,none⟩=some (.pointer (some ⟨p,0,none⟩))∧W.cell? ⟨w.heap.size+1,3,none⟩=some (.int .i64 (ca:Nat)))
      (first | exact HS6.out | exact HSA6.out | exact HSB6.out | exact HSC6.out)
      (first
      | (go_at_call 133;refine (lines_and (p:=p) ca _ ⟨_,_,_,rfl⟩ _).mono ?_;rintro e wa6 ⟨z6,hz6,rfl,hC,hL,hb,hsz⟩;have HA6:=Lib.hid (And.intro hC (And.intro hL (HD6.out.below hb)));have HZ6:=Lib.hid (show ∃ b,b≤z6∧p<b∧r<b∧g<b from ⟨z6,Nat.le_refl _,by rw [← hz6];exact ⟨HD6.out.low.1,HD6.out.low.2.1,HD6.out.low.2.2.1⟩⟩);have HSA6:=Lib.hid (HA6.out.2.2.reads (k:=3) (c:=ca) rfl);have HF1:=Lib.hid ((hb.block D (Array.getElem?_eq_some_iff.1 HDF.out).1).trans HDF.out);clear hC hL hb hsz hz6)
      | (go_at_call 132;have hc:=coll_ands (V:=V) ca z6 (by omega) HA6.out.2.2.pat HA6.out.1 HA6.out.2.1 HZ6.out;rw [HE7.out] at hc;refine hc.mono ?_;clear hc;rintro e wb6 ⟨A6,c6,rfl,hR,hP,hK⟩;have hB:=HA6.out.2.2.step hP hK;obtain ⟨⟨v6,d6⟩,f6⟩:=hB.pcell 8 (by omega);have HSB6:=Lib.hid (hB.reads (k:=3) (c:=ca) rfl);have HB7:=Lib.hid (hB.ands hR);have HSC6:=Lib.hid (HB7.out.reads (k:=3) (c:=ca) rfl);have HF2:=Lib.hid (show (World.setCell wb6 ⟨p,8,none⟩ (.slice A6 l7.length c6)).heap[D]?=some (.deferred (some [])) from (heap_setCell_other _ _ _ _ (by show D≠p;have:=HDL.out;omega)).trans ((hK.block D (Array.getElem?_eq_some_iff.1 HF1.out).1 (by have:=HDL.out;omega) (by have:=HDL.out;omega) (by have:=HDL.out;omega)).trans HF1.out));clear hR hP hK hB)
      | fail)
    clear HS6 HSA6 HSB6 HSC6 HA6 HD6 HZ6 d6 f6
    clear HF1 HDF
    generalize World.setCell _ _ _=W7 at HB7 HF2 ⊢
    obtain ⟨-,y1,y2,-⟩:=HB7.out.reads (k:=0) (c:=ci) rfl
    go_wp2_with (go_at_call 135;refine (end_any (n:=⟨V,l1,l2,l3,l4,l5,l6,l7⟩) HG.out HB7.out.net HB7.out.pat).mono ?_;rintro e w8 ⟨rfl,hP8,hK8⟩;have HF3:=Lib.hid ((hK8.block D (Array.getElem?_eq_some_iff.1 HF2.out).1 (by have:=HDL.out;omega) (by have:=HDL.out;omega) (by have:=HDL.out;omega)).trans HF2.out);have H8:=Lib.hid (And.intro hP8 hK8);clear hP8 hK8 y1 y2)
    refine ⟨by simp,.inl ⟨_,_,rfl,run_takeDeferred HF3.out,?_⟩⟩
    have ht:Turn w8 (w8.putObj D (.deferred none)):=Turn.put HF3.out rfl
    refine ⟨_,by simp [results,Tryz.f78,go_sem],rfl,g,_,(HB7.out.net.kept H8.out.2).turn ht,ht.pat H8.out.1,(HK0.out.late (HB7.out.kept.trans H8.out.2) (by omega)).turned (grownBy_putObj' w8 D _) (fun r e=>by cases e;have:=HDL.out;omega)⟩
end
end Go.Proofs.YtldnepogjnahfaaGreatDoor
