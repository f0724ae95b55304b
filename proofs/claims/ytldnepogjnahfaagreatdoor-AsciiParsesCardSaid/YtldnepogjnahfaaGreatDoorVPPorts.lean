/- The words of a memory's ports by contracts (conditions: the parser lies in memory, at most 400000 bytes; the memory's widths). -/
import Derived.Deep.RegionHeld3
import Derived.RegionTactic
import Derived.BigRegion
import Derived.Test.YtldnepogjnahfaaGreatDoorVPx
set_option linter.unusedVariables false
namespace Go.Proofs.YtldnepogjnahfaaGreatDoor
open Go.ChangeShapes Go.WideShapes Go.RowKit
def Ps.read (df:Ps→Int × Ps) (V:Int) (a:Nat) (s:Ps):PRead × Ps :=
  let d:=df (s.expect [114])
  let l:=Ps.nextLiterals V a d.2
  (⟨d.1,l.1⟩,l.2)
def Ps.write (V:Int) (a wd:Nat) (s:Ps):PWrite × Ps :=
  let o:=(s.expect [119]).nextLiteral V
  let l:=Ps.nextLiterals V a o.2
  let d:=Ps.nextLiterals V wd l.2
  (⟨o.1,l.1,d.1⟩,d.2)
structure CaughtM (pb mb p:Nat) (a wd:Nat) (nn:Bool) (c3 c4:Value) (W:World):Prop where
  p:W.heap[pb]?=some (.cells #[.pointer (some ⟨p,0,none⟩)] 62 (0,0))
  m:W.heap[mb]?=some (.cells #[.int .i64 a,.int .i64 wd,.bool nn,c3,c4] 54 (0,0))
theorem CaughtM.cells {pb mb p a wd:Nat} {nn:Bool} {c3 c4:Value} {W:World} (h:CaughtM pb mb p a wd nn c3 c4 W):W.cell? ⟨pb,0,none⟩=some (.pointer (some ⟨p,0,none⟩))∧W.cell? ⟨mb,0,none⟩=some (.int .i64 a)∧W.cell? ⟨mb,1,none⟩=some (.int .i64 wd):=by
  refine ⟨?_,?_,?_⟩
  · rw [cell_of_row _ _ _ _ _ _ h.p];rfl
  · rw [cell_of_row _ _ _ _ _ _ h.m];rfl
  · rw [cell_of_row _ _ _ _ _ _ h.m];rfl
theorem CaughtM.kept {pb mb p r g a wd:Nat} {nn:Bool} {c3 c4:Value} {W W':World} (h:CaughtM pb mb p a wd nn c3 c4 W) (hk:Kept3 p r g W W') (ha:(pb≠p∧pb≠r∧pb≠g)∧(mb≠p∧mb≠r∧mb≠g)):CaughtM pb mb p a wd nn c3 c4 W' :=
  ⟨(hk.block _ (lt_of_row h.p) ha.1.1 ha.1.2.1 ha.1.2.2).trans h.p,(hk.block _ (lt_of_row h.m) ha.2.1 ha.2.2.1 ha.2.2.2).trans h.m⟩
def CaughtD (db:Nat) (fv:Value) (W:World):Prop:=W.heap[db]?=some (.cells #[fv] 46 (0,0))
theorem CaughtD.cell {db:Nat} {fv:Value} {W:World} (h:CaughtD db fv W):W.cell? ⟨db,0,none⟩=some fv:=by
  rw [cell_of_row _ _ _ _ _ _ h];rfl
theorem CaughtD.kept {db p r g:Nat} {fv:Value} {W W':World} (h:CaughtD db fv W) (hk:Kept3 p r g W W') (ha:db≠p∧db≠r∧db≠g):CaughtD db fv W':=(hk.block _ (lt_of_row h) ha.1 ha.2.1 ha.2.2).trans h
def PortS (pb mb p a wd:Nat) (W:World):Prop :=
  W.cell? ⟨pb,0,none⟩=some (.pointer (some ⟨p,0,none⟩))∧W.cell? ⟨mb,0,none⟩=some (.int .i64 a)∧W.cell? ⟨mb,1,none⟩=some (.int .i64 wd)
theorem PortS.put {pb mb p a wd b j:Nat} {v:Value} {W:World} (h:PortS pb mb p a wd W) (hb:pb≠b∧mb≠b):PortS pb mb p a wd (W.setCell ⟨b,j,none⟩ v) :=
  ⟨(World.cell?_of_block (a:=⟨pb,0,none⟩) (heap_setCell_other _ _ _ _ (by show pb≠b;exact hb.1))).trans h.1,(World.cell?_of_block (a:=⟨mb,0,none⟩) (heap_setCell_other _ _ _ _ (by show mb≠b;exact hb.2))).trans h.2.1,(World.cell?_of_block (a:=⟨mb,1,none⟩) (heap_setCell_other _ _ _ _ (by show mb≠b;exact hb.2))).trans h.2.2⟩
def PortT (pb db mb p a wd:Nat) (fv:Value) (W:World):Prop:=PortS pb mb p a wd W∧W.cell? ⟨db,0,none⟩=some fv
theorem PortT.put {pb db mb p a wd b j:Nat} {fv v:Value} {W:World} (h:PortT pb db mb p a wd fv W) (hb:pb≠b∧db≠b∧mb≠b):PortT pb db mb p a wd fv (W.setCell ⟨b,j,none⟩ v) :=
  ⟨h.1.put ⟨hb.1,hb.2.2⟩,(World.cell?_of_block (a:=⟨db,0,none⟩) (heap_setCell_other _ _ _ _ (by show db≠b;exact hb.2.1))).trans h.2⟩
section
variable {p r g:Nat} {m:Ext} {V:Int} {N:NC} {w:World} {s:Ps}
set_option maxRecDepth 100000 in
set_option maxHeartbeats 4000000 in
theorem write_any {pb mb a wd:Nat} {nn:Bool} {c3 c4:Value} (ha:a≤62) (hw:1≤wd∧wd≤64) (h:PAt 1 p r g m V N w s) (hC:CaughtM pb mb p a wd nn c3 c4 w) (hap:(pb≠p∧pb≠r∧pb≠g)∧(mb≠p∧mb≠r∧mb≠g)) :
    Calls Tryz.prog 191 #[.pointer (some ⟨pb,0,none⟩),.pointer (some ⟨mb,0,none⟩)] w fun e w'=>∃ A c A2 c2,e=.returned (.agg #[.int .i64 (s.write V a wd).1.wo,.slice A (s.write V a wd).1.wa.length c,.slice A2 (s.write V a wd).1.wd.length c2])∧(LP p r g w' A c (s.write V a wd).1.wa∧LP p r g w' A2 c2 (s.write V a wd).1.wd)∧PAt 1 p r g m V N w' (s.write V a wd).2∧Kept3 p r g w w':=by
  have hgl:=h.glt
  have HB:=Lib.hid (Lc.new (cs:=#[.int .i64 0,.slice none 0 0,.slice none 0 0]) (t:=99) h (by decide))
  have HC:=Lib.hid (hC.kept (Kept3.of_below (p:=p) (r:=r) (g:=g) ((Below.refl _ w).alloc (Nat.le_refl _) (.cells #[.int .i64 0,.slice none 0 0,.slice none 0 0] 99))) hap)
  obtain ⟨cp,ca,cw⟩:=HC.out.cells
  have hl:=h.lt
  have HE:=Lib.hid (fun (W:World) (h:PAt 1 p r g m V N W s)=>sb_w ▸ expect_any ⟨#[119]⟩ (by decide) h (Nat.le_refl _))
  have hr:s.write V a wd=(⟨((s.expect [119]).nextLiteral V).1,(Ps.nextLiterals V a ((s.expect [119]).nextLiteral V).2).1,(Ps.nextLiterals V wd (Ps.nextLiterals V a ((s.expect [119]).nextLiteral V).2).2).1⟩,(Ps.nextLiterals V wd (Ps.nextLiterals V a ((s.expect [119]).nextLiteral V).2).2).2):=rfl
  rw [hr]
  clear h hr
  generalize s.expect [119]=s1 at *
  have HD:=Lib.hid (fun (W:World) (h:PAt 1 p r g m V N W s1)=>nextLiteral_any h (Nat.le_refl _))
  generalize s1.nextLiteral V=D at *
  obtain ⟨d1,s2⟩:=D
  have HL:=Lib.hid (fun (W:World) (h:PAt 1 p r g m V N W s2)=>nextLiterals_any a (by omega) h (Nat.le_refl _))
  generalize Ps.nextLiterals V a s2=X at *
  obtain ⟨l,s3⟩:=X
  have HL2:=Lib.hid (fun (W:World) (h:PAt 1 p r g m V N W s3)=>nextLiterals_any wd (by omega) h (Nat.le_refl _))
  generalize Ps.nextLiterals V wd s3=X at *
  obtain ⟨l2,s4⟩:=X
  have hbb:=Lib.hid (show pb≠w.heap.size∧mb≠w.heap.size from ⟨by have:=lt_of_row hC.p;omega,by have:=lt_of_row hC.m;omega⟩)
  clear hC
  go_enter Tryz.func191,Tryz.ntmps191
  go_wp2_with (first
    | (go_at_call 120;refine (HE.out _ HB.out.pat).mono ?_;rintro e w1 ⟨rfl,hP,hK⟩;have hB:=HB.out.call hP hK;have hC:=HC.out.kept hK hap;clear hP hK))
  have HB1:=Lib.hid (hB.call (hB.pat.below ((Below.refl _ w1).drew)) ((Kept3.refl p r g w1).drew))
  have HC1:=Lib.hid (hC.kept ((Kept3.refl p r g w1).drew) hap)
  obtain ⟨dp,da,dw⟩:=hC.cells
  clear cp ca cw hB hC HB HC
  have HS1:=Lib.hid (show PortS pb mb p a wd w1.drew from ⟨dp,da,dw⟩)
  clear dp da dw
  go_region_held3 (fun W=>W.cell? ⟨pb,0,none⟩=some (.pointer (some ⟨p,0,none⟩))∧W.cell? ⟨mb,0,none⟩=some (.int .i64 a)∧W.cell? ⟨mb,1,none⟩=some (.int .i64 wd))
    (first | exact HS1.out | exact HS2.out | exact HS3.out | exact HS4.out | exact HS5.out)
    (first
    | (go_at_call 192;refine (HD.out _ HB1.out.pat).mono ?_;rintro e w2 ⟨rfl,hP,hK⟩;have HB2:=Lib.hid (HB1.out.call hP hK);have HC2:=Lib.hid (HC1.out.kept hK hap);have HS2:=Lib.hid (show PortS pb mb p a wd w2 from HC2.out.cells);clear hP hK)
    | (go_at_call 188;refine (HL.out _ HB2.out.pat).mono ?_;clear HL;rintro e w3 ⟨v,rfl,hO,hP,hK⟩;have HB3:=Lib.hid (HB2.out.call hP hK);have HO:=Lib.hid (And.intro hO (show p<w2.heap.size∧r<w2.heap.size∧g<w2.heap.size from by have:=HB2.out.pat.lt;have:=HB2.out.pat.glt;omega));have HC3:=Lib.hid (HC2.out.kept hK hap);have HS3:=Lib.hid (show PortS pb mb p a wd w3 from HC3.out.cells);have HBL:=Lib.hid (lt_of_row HB2.out.row);clear hP hK hO HB2)
    | (go_at_call 188;refine (HL2.out _ HB3.out.pat).mono ?_;rintro e w4 ⟨v2,rfl,hO,hP,hK⟩;have hO1:=own_set (b:=w.heap.size) (j:=2) (u:=v2) (own_set (b:=w.heap.size) (j:=1) (u:=v) (own_set (b:=w.heap.size) (j:=0) (u:=.int .i64 d1) (own_step HO.out.1 hK HO.out.2) HBL.out) HBL.out) HBL.out;have hO2:=own_set (b:=w.heap.size) (j:=2) (u:=v2) (own_set (b:=w.heap.size) (j:=1) (u:=v) (own_set (b:=w.heap.size) (j:=0) (u:=.int .i64 d1) hO (lt_of_row HB3.out.row)) (lt_of_row HB3.out.row)) (lt_of_row HB3.out.row);obtain ⟨A2,c2,rfl,hLP2⟩:=LP.of_own (p:=p) (r:=r) (g:=g) hO2 (by have:=HB3.out.pat.lt;have:=HB3.out.pat.glt;omega);obtain ⟨A,c,rfl,hLP⟩:=LP.of_own (p:=p) (r:=r) (g:=g) hO1 HO.out.2;have hB:=HB3.out.call hP hK;have q0:=hB.cell (j:=0) rfl;have q1:=hB.cell (j:=1) rfl;have q2:=hB.cell (j:=2) rfl;have f0:=hB.free 0;have f1:=hB.free 1;have f2:=hB.free 2;have HB4:=Lib.hid (And.intro (((hB.set 0 (.int .i64 d1)).set 1 (.slice A l.length c)).set 2 (.slice A2 l2.length c2)) (And.intro hLP hLP2));have HC4:=Lib.hid (HC3.out.kept hK hap);have HS4:=Lib.hid (show PortS pb mb p a wd w4 from HC4.out.cells);have HS5:=Lib.hid (((HS4.out.put (b:=w.heap.size) (j:=0) (v:=.int .i64 d1) hbb.out).put (b:=w.heap.size) (j:=1) (v:=.slice A l.length c) hbb.out).put (b:=w.heap.size) (j:=2) (v:=.slice A2 l2.length c2) hbb.out);clear hP hK hLP hLP2 hO hO1 hO2 hB)
    | fail)
  go_wp2_with fail
  refine bodyPost_ret (results_cell_row rfl _ _ w.heap.size 99 _ (0,0) _ rfl HB4.out.1.row Tryz.underlying99 rfl (by kernel_rfl)) rfl ?_
  exact ⟨A,c,A2,c2,rfl,HB4.out.2,HB4.out.1.pat,HB4.out.1.kept⟩
end
end Go.Proofs.YtldnepogjnahfaaGreatDoor
