/- The parser's method text by contract (conditions: the parser lies in memory as it is made; at most 400000 bytes; the netlist is such that topo.Check's contract speaks of it). -/
import Derived.RangeFuncNested
import Derived.RangeFuncBound
import Derived.RangeFuncCalls
import Derived.RangeFuncLeaves
import Derived.OwnWalkIn
import Derived.TacticsInMore
import Derived.LoopNIn
import Derived.LoopIn
import Derived.Deep.RegionHeld3
import Derived.Test.YtldnepogjnahfaaGreatDoorVTx
import Derived.Test.YtldnepogjnahfaaGreatDoorVPRest
set_option linter.unusedVariables false
namespace Go.Proofs.YtldnepogjnahfaaGreatDoor
open Go.ChangeShapes Go.WideShapes Go.RowKit
set_option linter.unusedSimpArgs false
attribute [local go_sem] Oper.semAt_some
def Ps.net1 (x:Int × PCounts × Ps):PNet × Ps:=x.2.2.body x.1 x.2.1.ci.toNat x.2.1.cl.toNat x.2.1.co.toNat x.2.1.ca.toNat x.2.1.cb.toNat x.2.1.cc.toNat x.2.1.cm.toNat
structure TextI (p r q:Nat) (w:World) (s0:Ps) (y:Int × PCounts × Ps) (cb pb wb lb mb:Nat) (k:Nat) (W:World):Prop where
  kept:Kept3 p r q w W
  qb:W.heap[w.heap.size]?=some (.cells #[.pointer (some ⟨q,0,none⟩)] 119 (0,0))
  at0:k=0→PAt 1 p r q (bareE q p) 0 (NCof S0 (n0 0)) W s0∧Caught cb pb wb p 1 125 (.func (.func 119) #[] #[.pointer (some ⟨lb,0,none⟩),.pointer (some ⟨mb,0,none⟩)]) W∧CaughtL lb mb p 125 (.func (.func 77) #[.pointer (some ⟨q,0,none⟩)] #[]) W
  at1:k=1→PAt 2 p r q (bareE q p) y.1 (NCof S0 (n0 0)) W y.2.2
  at2:k=2→∃ g S,NAt p r g W S (Ps.net1 y).1∧PAt 2 p r g (marksE q p g y.1) y.1 (NCof S (Ps.net1 y).1) W ((Ps.net1 y).2.finish (Ps.net1 y).1.check)
section
variable {p r q:Nat} {w:World} {s0:Ps} {y:Int × PCounts × Ps} {cb pb wb lb mb:Nat}
theorem TextI.turn {k:Nat} {A W:World} (hs:TextI p r q w s0 y cb pb wb lb mb k A) (ht:Turn A W) (hk:Kept3 p r q w W):TextI p r q w s0 y cb pb wb lb mb k W:=by
  refine ⟨hk,ht.same _ _ _ _ hs.qb,fun h=>⟨ht.pat (hs.at0 h).1,ht.caught (hs.at0 h).2.1,ht.caughtL (hs.at0 h).2.2⟩,fun h=>ht.pat (hs.at1 h),fun h=>?_⟩
  obtain ⟨g,S,h2,h3⟩:=hs.at2 h
  exact ⟨g,S,h2.turn ht,ht.pat h3⟩
theorem textI_own (B:Nat) (hB:w.heap.size≤B):OwnFrom B (TextI p r q w s0 y cb pb wb lb mb):=fun k A W row hs hg hr =>
  hs.turn (Turn.of_grown hg fun r e=>(hr r e).2) (hs.kept.turned hg fun r e=>by have:=(hr r e).1;omega)
theorem textI_step (hl:p<w.heap.size∧r<w.heap.size∧q<w.heap.size) {k k':Nat} {A B:World} (h:TextI p r q w s0 y cb pb wb lb mb k A) (hs:FSt p r q (bareE q p) (NCof S0 (n0 0)) s0 y k k' A B):TextI p r q w s0 y cb pb wb lb mb k' B:=by
  obtain ⟨rfl,rfl,hP,hK⟩:=hs
  exact ⟨h.kept.trans hK,(hK.block _ (lt_of_row h.qb) (by omega) (by omega) (by omega)).trans h.qb,fun e=>by omega,fun _=>hP,fun e=>by omega⟩
theorem textI_new {k:Nat} {W:World} (h:TextI p r q w s0 y cb pb wb lb mb k W) (c:Array Value) (t:TypeId):TextI p r q w s0 y cb pb wb lb mb k (W.alloc (.cells c t)) :=
  h.turn ⟨by simp,fun k cs t fz hk=>(Below.heap_alloc _ _ _ (lt_of_row hk)).trans hk⟩ (h.kept.alloc _)
def TextLeft (p r q:Nat) (w:World) (y:Int × PCounts × Ps) (e:Ending) (w':World):Prop :=
  e=.returned (.tuple #[])∧Kept3 p r q w w' ∧
    ((y.2.2.e≠none∧PAt 2 p r q (bareE q p) y.1 (NCof S0 (n0 0)) w' y.2.2) ∨
      (y.2.2.e=none∧∃ g S,NAt p r g w' S (Ps.net1 y).1∧PAt 2 p r g (marksE q p g y.1) y.1 (NCof S (Ps.net1 y).1) w' ((Ps.net1 y).2.finish (Ps.net1 y).1.check)))
set_option maxRecDepth 100000 in
set_option maxHeartbeats 8000000 in
theorem text_any (he0:s0.e=none) (hG:(s0.line1 aagB aagmB).2.2.e=none→(Ps.net1 (s0.line1 aagB aagmB)).2.e=none→(Ps.net1 (s0.line1 aagB aagmB)).1.checks) (hq:r<p∧p<q) (h:PAt 1 p r q (bareE q p) 0 (NCof S0 (n0 0)) w s0) :
    Calls Tryz.prog 39 #[.pointer (some ⟨q,0,none⟩)] w (TextLeft p r q w (s0.line1 aagB aagmB)):=by
  have hl:p<w.heap.size∧r<w.heap.size∧q<w.heap.size:=⟨h.lt.1,h.lt.2,h.glt⟩
  have hb0:Below w.heap.size w (w.alloc (.cells #[.pointer (some ⟨q,0,none⟩)] 119)):=(Below.refl _ w).alloc (Nat.le_refl _) _
  have hx:w.heap[q]?=some (.cells #[.pointer (some ⟨p,0,none⟩),.slice none 0 0] 66 (0,0)):=h.ext.1
  have HP0:=Lib.hid (And.intro (h.below hb0) (And.intro (Kept3.of_below (p:=p) (r:=r) (g:=q) hb0) (heap_alloc_new w (.cells #[.pointer (some ⟨q,0,none⟩)] 119))))
  have HG:=Lib.hid hG
  have HS0:=Lib.hid (show (w.alloc (.cells #[.pointer (some ⟨q,0,none⟩)] 119)).drew.cell? ⟨w.heap.size,0,none⟩=some (.pointer (some ⟨q,0,none⟩))∧(w.alloc (.cells #[.pointer (some ⟨q,0,none⟩)] 119)).drew.cell? ⟨q,0,none⟩=some (.pointer (some ⟨p,0,none⟩)) from by
    have c0:(w.alloc (.cells #[.pointer (some ⟨q,0,none⟩)] 119)).cell? ⟨w.heap.size,0,none⟩=some (.pointer (some ⟨q,0,none⟩)):=by rw [cell_of_row _ _ _ _ _ _ HP0.out.2.2];rfl
    have c1:(w.alloc (.cells #[.pointer (some ⟨q,0,none⟩)] 119)).cell? ⟨q,0,none⟩=some (.pointer (some ⟨p,0,none⟩)):=by rw [cell_of_row _ _ _ _ _ _ ((hb0.block _ (lt_of_row hx)).trans hx)];rfl
    exact ⟨c0,c1⟩)
  clear h hb0 hG hx
  refine (callsIn_wide (n:=7)).1 ?_
  refine callsIn_of_wp_marks Tryz.func39 rfl trivial ?_ rfl
  simp only [Tryz.ntmps39,List.size_toArray,List.length_cons,List.length_nil,Nat.reduceAdd,Nat.reduceSub,Array.replicate_succ,Array.replicate_zero,List.push_toArray,List.append_toArray,List.nil_append,List.cons_append]
  refine wpIn_wide.2 ?_
  go_wp2_with fail
  have HD:=Lib.hid (show PAt 1 p r q (bareE q p) 0 (NCof S0 (n0 0)) (w.alloc (.cells #[.pointer (some ⟨q,0,none⟩)] 119)).drew s0∧Kept3 p r q w (w.alloc (.cells #[.pointer (some ⟨q,0,none⟩)] 119)).drew∧(w.alloc (.cells #[.pointer (some ⟨q,0,none⟩)] 119)).drew.heap[w.heap.size]?=some (.cells #[.pointer (some ⟨q,0,none⟩)] 119 (0,0)) from ⟨HP0.out.1.below (Below.refl _ _).drew,HP0.out.2.1.drew,HP0.out.2.2⟩)
  clear HP0
  go_region_held3 (fun W=>W.cell? ⟨w.heap.size,0,none⟩=some (.pointer (some ⟨q,0,none⟩))∧W.cell? ⟨q,0,none⟩=some (.pointer (some ⟨p,0,none⟩)))
    (first | exact HS0.out | exact HS1.out)
    (first
    | (go_at_call 76;refine (lines_counts (p:=p) 1 _ ⟨_,_,_,rfl⟩ _).mono ?_;rintro e w6 ⟨z,hz,rfl,hC,hL,hb,hsz⟩;have HA:=Lib.hid (And.intro hC (And.intro hL (And.intro (HD.out.1.below hb) (And.intro (HD.out.2.1.trans (Kept3.of_below hb)) (And.intro ((hb.block _ (lt_of_row HD.out.2.2)).trans HD.out.2.2) (show w6.heap.size=z+5∧w.heap.size+1≤z from ⟨hsz,by rw [← hz];exact lt_of_row HD.out.2.2⟩))))));have HS1:=Lib.hid (show w6.cell? ⟨w.heap.size,0,none⟩=some (.pointer (some ⟨q,0,none⟩))∧w6.cell? ⟨q,0,none⟩=some (.pointer (some ⟨p,0,none⟩)) from ⟨(World.cell?_of_block (a:=⟨w.heap.size,0,none⟩) (hb.block _ (lt_of_row HD.out.2.2))).trans HS0.out.1,(World.cell?_of_block (a:=⟨q,0,none⟩) (hb.block _ HD.out.1.glt)).trans HS0.out.2⟩);clear hC hL hb hsz hz)
    | fail)
  clear HS0 HS1 HD
  go_wp2_with fail
  have hzz:=HA.out.2.2.2.2.2
  have HI:=Lib.hid (show TextI p r q w s0 (s0.line1 aagB aagmB) (z+3) (z+2) (z+4) (z+1) z 0 w6 from ⟨HA.out.2.2.2.1,HA.out.2.2.2.2.1,fun _=>⟨HA.out.2.2.1,HA.out.1,HA.out.2.1⟩,fun e=>by omega,fun e=>by omega⟩)
  have HKW:=Lib.hid HA.out.2.2.2.1.size
  have HAP:=Lib.hid (show ((z+3≠p∧z+3≠r∧z+3≠q)∧(z+2≠p∧z+2≠r∧z+2≠q)∧(z+4≠p∧z+4≠r∧z+4≠q))∧((z+1≠p∧z+1≠r∧z+1≠q)∧(z≠p∧z≠r∧z≠q)) from by omega)
  clear HA
  refine (wpIn_wide (n:=7)).1 ?_
  refine wp_range_box (p0:=10) 2 rfl (by omega) (gf:=167) rfl trivial (enters_of Tryz.func167 (by kernel_rfl) rfl)
    (each_first _ (by omega) _ _ _ (z+1) z s0 (s0.line1 aagB aagmB) he0 w6 HAP.out.1 (CaughtL (z+1) z p 125 (.func (.func 77) #[.pointer (some ⟨q,0,none⟩)] #[])) (fun A B h hk=>h.kept hk HAP.out.2) (line_firstA (z+1) z HAP.out.2 fun W h=>first_text h (Nat.le_refl _))) (Below.refl _ _) (fun k W=>TextI p r q w s0 (s0.line1 aagB aagmB) _ _ _ _ _ k W) (textI_own _ HKW.out)
    (fun k W h e=>h.at0 e) (fun k k' A B hA h hs=>textI_step hl h hs) (fun k k' A B hk hs=>keeps_step (hk hs.1).1 hs.2.2.2)
    HI.out (fun k x=>k=1∧(s0.line1 aagB aagmB).2.2.e=none∧x=(s0.line1 aagB aagmB).2.1) (fun k x v W hI hR=>⟨hR.1,hR.2.1,hR.2.2.1⟩) (fun x c=>c=countsV x) 124 (fun k vb W=>TextI p r q w s0 (s0.line1 aagB aagmB) _ _ _ _ _ k W) (fun vb=>textI_own _ HKW.out) (fun k W c h=>textI_new h c _) ?assign ?body ?done
  case assign =>
    rintro l k x v W K ⟨h1,h2,h3,rfl⟩ hK
    have HK:=Lib.hid (hK _ rfl)
    clear hK h1 h2 h3
    unfold countsV at *
    gi_wp2
    exact HK.out
  case body =>
    rintro l k x v vb _ W hW hvb hrow rfl hI ⟨rfl,he,rfl⟩
    have hgood:=Ps.line1_good he
    have hnat:=hgood.nat
    have hP:=hI.at1 rfl
    have HR:=Lib.hid (rest_any (V:=(s0.line1 aagB aagmB).1) (s0.line1 aagB aagmB).2.1.ci.toNat (s0.line1 aagB aagmB).2.1.cl.toNat (s0.line1 aagB aagmB).2.1.co.toNat (s0.line1 aagB aagmB).2.1.ca.toNat (s0.line1 aagB aagmB).2.1.cb.toNat (s0.line1 aagB aagmB).2.1.cc.toNat (s0.line1 aagB aagmB).2.1.cm.toNat (by obtain ⟨i,l,o,a,b,c,m⟩:=hgood;omega) (HG.out he) hq hP)
    rw [← hnat] at HR
    obtain ⟨⟨ci,cl,co,ca,cn,cq,cm⟩,hcc⟩:∃ y,(s0.line1 aagB aagmB).2.1=y:=⟨_,rfl⟩
    rw [hcc] at hrow
    have HR2:=Lib.hid (show Calls Tryz.prog 78 #[.pointer (some ⟨q,0,none⟩),.agg #[.int .i64 ci,.int .i64 cl,.int .i64 co,.int .i64 ca,.int .i64 cn,.int .i64 cq,.int .i64 cm]] W fun e w'=>e=.returned (.tuple #[])∧∃ g S,NAt p r g w' S (Ps.net1 (s0.line1 aagB aagmB)).1∧PAt 2 p r g (marksE q p g (s0.line1 aagB aagmB).1) (s0.line1 aagB aagmB).1 (NCof S (Ps.net1 (s0.line1 aagB aagmB)).1) w' ((Ps.net1 (s0.line1 aagB aagmB)).2.finish (Ps.net1 (s0.line1 aagB aagmB)).1.check)∧Kept3 p r q W w' from by
      have h:=HR.out
      conv at h=>arg 3;rw [hcc]
      exact h)
    have q0:W.cell? ⟨w.heap.size,0,none⟩=some (.pointer (some ⟨q,0,none⟩)):=by rw [cell_of_row _ _ _ _ _ _ hI.qb];rfl
    have t0:W.cell? ⟨vb,0,none⟩=some (.int .i64 ci):=by rw [cell_of_row _ _ _ _ _ _ hrow];rfl
    have t1:W.cell? ⟨vb,1,none⟩=some (.int .i64 cl):=by rw [cell_of_row _ _ _ _ _ _ hrow];rfl
    have t2:W.cell? ⟨vb,2,none⟩=some (.int .i64 co):=by rw [cell_of_row _ _ _ _ _ _ hrow];rfl
    have t3:W.cell? ⟨vb,3,none⟩=some (.int .i64 ca):=by rw [cell_of_row _ _ _ _ _ _ hrow];rfl
    have t4:W.cell? ⟨vb,4,none⟩=some (.int .i64 cn):=by rw [cell_of_row _ _ _ _ _ _ hrow];rfl
    have t5:W.cell? ⟨vb,5,none⟩=some (.int .i64 cq):=by rw [cell_of_row _ _ _ _ _ _ hrow];rfl
    have t6:W.cell? ⟨vb,6,none⟩=some (.int .i64 cm):=by rw [cell_of_row _ _ _ _ _ _ hrow];rfl
    have HX:=Lib.hid (And.intro hI hP)
    clear hI hP hrow HR hgood hnat he
    simp only [List.setIfInBounds_toArray,List.set_cons_zero,List.set_cons_succ]
    gi_wp2_with (refine ⟨trivial,?_⟩;gi_at_call 78;refine (callsIn_wide.2 HR2.out).mono ?_;rintro e W1 ⟨rfl,g,S,hN,hP2,hK2⟩;have HE:=Lib.hid (And.intro hN (And.intro hP2 hK2));clear hN hP2 hK2)
    exact ⟨keeps_step HX.out.2 HE.out.2.2,HX.out.1.kept.trans HE.out.2.2,(HE.out.2.2.block _ (lt_of_row HX.out.1.qb) (by omega) (by omega) (by omega)).trans HX.out.1.qb,fun e=>by omega,fun e=>by omega,fun _=>⟨g,S,HE.out.1,HE.out.2.1⟩⟩
  case done =>
    rintro D k W hD hF hI hK
    have HK:=Lib.hid hK
    have HF:=Lib.hid (And.intro hF hI)
    clear hF hI hK
    go_wp2_with fail
    refine ⟨by simp,.inl ⟨_,_,rfl,run_takeDeferred HK.out,?_⟩⟩
    have ht:Turn W (W.putObj D (.deferred none)):=Turn.put HK.out rfl
    refine ⟨_,by simp [results,Tryz.f39,go_sem],rfl,HF.out.2.kept.turned (grownBy_putObj' W D _) (fun r e=>by cases e;have:=HKW.out;omega),?_⟩
    rcases HF.out.1 with ⟨h1,h2⟩ | ⟨h1,h2⟩
    · exact .inl ⟨h2,ht.pat (HF.out.2.at1 h1)⟩
    · obtain ⟨g,S,h3,h4⟩:=HF.out.2.at2 h1
      exact .inr ⟨h2,g,S,h3.turn ht,ht.pat h4⟩
end
end Go.Proofs.YtldnepogjnahfaaGreatDoor
