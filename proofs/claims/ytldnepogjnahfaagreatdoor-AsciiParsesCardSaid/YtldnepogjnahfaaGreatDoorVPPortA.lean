/- A port that reads, of a text, by contract (conditions: the parser lies in memory; at most 400000 bytes; the memory's widths). -/
import Derived.Deep.RegionHeld3
import Derived.RegionTactic
import Derived.BigRegion
import Derived.Test.YtldnepogjnahfaaGreatDoorVPPorts
set_option linter.unusedVariables false
namespace Go.Proofs.YtldnepogjnahfaaGreatDoor
open Go.ChangeShapes Go.WideShapes Go.RowKit
section
variable {p r g:Nat} {m:Ext} {V:Int} {N:NC} {w:World} {s:Ps}
set_option maxRecDepth 100000 in
set_option maxHeartbeats 4000000 in
theorem readA_any {pb mb a wd:Nat} {nn:Bool} {c3 c4:Value} (ha:a≤62) (hw:1≤wd∧wd≤64) (h:PAt 1 p r g m V N w s) (hC:CaughtM pb mb p a wd nn c3 c4 w) (hap:(pb≠p∧pb≠r∧pb≠g)∧(mb≠p∧mb≠r∧mb≠g)) {db q:Nat} (hD:CaughtD db (.func (.func 131) #[.pointer (some ⟨q,0,none⟩)] #[]) w) (hdp:db≠p∧db≠r∧db≠g) (df:Ps→Int × Ps) (hdf:∀ (W:World) (t:Ps),PAt 1 p r g m V N W t→Calls Tryz.prog 131 #[.pointer (some ⟨q,0,none⟩),.int .i64 wd] W (PStep 1 p r g m V N W (.int .i64 (df t).1) (df t).2)) :
    Calls Tryz.prog 187 #[.pointer (some ⟨pb,0,none⟩),.pointer (some ⟨db,0,none⟩),.pointer (some ⟨mb,0,none⟩)] w fun e w'=>∃ A c,e=.returned (.agg #[.int .i64 (s.read df V a).1.rv,.slice A (s.read df V a).1.ra.length c])∧LP p r g w' A c (s.read df V a).1.ra∧PAt 1 p r g m V N w' (s.read df V a).2∧Kept3 p r g w w':=by
  have hgl:=h.glt
  have HB:=Lib.hid (Lc.new (cs:=#[.int .i64 0,.slice none 0 0]) (t:=97) h (by decide))
  have HC:=Lib.hid (hC.kept (Kept3.of_below (p:=p) (r:=r) (g:=g) ((Below.refl _ w).alloc (Nat.le_refl _) (.cells #[.int .i64 0,.slice none 0 0] 97))) hap)
  have HDD:=Lib.hid (hD.kept (Kept3.of_below (p:=p) (r:=r) (g:=g) ((Below.refl _ w).alloc (Nat.le_refl _) (.cells #[.int .i64 0,.slice none 0 0] 97))) hdp)
  obtain ⟨cp,ca,cw⟩:=HC.out.cells
  have hl:=h.lt
  have HE:=Lib.hid (fun (W:World) (h:PAt 1 p r g m V N W s)=>sb_r ▸ expect_any ⟨#[114]⟩ (by decide) h (Nat.le_refl _))
  have hr:s.read df V a=(⟨(df (s.expect [114])).1,(Ps.nextLiterals V a (df (s.expect [114])).2).1⟩,(Ps.nextLiterals V a (df (s.expect [114])).2).2):=rfl
  rw [hr]
  clear h hr
  generalize s.expect [114]=s1 at *
  have HD:=Lib.hid (fun (W:World) (h:PAt 1 p r g m V N W s1)=>hdf W s1 h)
  generalize df s1=D at *
  obtain ⟨d1,s2⟩:=D
  have HL:=Lib.hid (fun (W:World) (h:PAt 1 p r g m V N W s2)=>nextLiterals_any a (by omega) h (Nat.le_refl _))
  generalize Ps.nextLiterals V a s2=X at *
  obtain ⟨l,s3⟩:=X
  have hbb:=Lib.hid (show pb≠w.heap.size∧db≠w.heap.size∧mb≠w.heap.size from ⟨by have:=lt_of_row hC.p;omega,by have:=lt_of_row hD;omega,by have:=lt_of_row hC.m;omega⟩)
  clear hC hD hdf
  go_enter Tryz.func187,Tryz.ntmps187
  go_wp2_with (first
    | (go_at_call 120;refine (HE.out _ HB.out.pat).mono ?_;rintro e w1 ⟨rfl,hP,hK⟩;have hB:=HB.out.call hP hK;have hC:=HC.out.kept hK hap;have hDD:=HDD.out.kept hK hdp;clear hP hK))
  have HB1:=Lib.hid (hB.call (hB.pat.below ((Below.refl _ w1).drew)) ((Kept3.refl p r g w1).drew))
  have HC1:=Lib.hid (hC.kept ((Kept3.refl p r g w1).drew) hap)
  have HDD1:=Lib.hid (hDD.kept ((Kept3.refl p r g w1).drew) hdp)
  obtain ⟨dp,da,dw⟩:=hC.cells
  clear cp ca cw hB hC hDD HB HC HDD
  have HS1:=Lib.hid (show PortT pb db mb p a wd (.func (.func 131) #[.pointer (some ⟨q,0,none⟩)] #[]) w1.drew from ⟨⟨dp,da,dw⟩,HDD1.out.cell⟩)
  clear dp da dw
  go_region_held3 (fun W=>(W.cell? ⟨pb,0,none⟩=some (.pointer (some ⟨p,0,none⟩))∧W.cell? ⟨mb,0,none⟩=some (.int .i64 a)∧W.cell? ⟨mb,1,none⟩=some (.int .i64 wd))∧W.cell? ⟨db,0,none⟩=some (.func (.func 131) #[.pointer (some ⟨q,0,none⟩)] #[]))
    (first | exact HS1.out | exact HS2.out | exact HS3.out | exact HS4.out)
    (first
    | (go_at_call 131;refine (HD.out _ HB1.out.pat).mono ?_;rintro e w2 ⟨rfl,hP,hK⟩;have HB2:=Lib.hid (HB1.out.call hP hK);have HC2:=Lib.hid (HC1.out.kept hK hap);have HDD2:=Lib.hid (HDD1.out.kept hK hdp);have HS2:=Lib.hid (show PortT pb db mb p a wd (.func (.func 131) #[.pointer (some ⟨q,0,none⟩)] #[]) w2 from ⟨HC2.out.cells,HDD2.out.cell⟩);clear hP hK)
    | (go_at_call 188;refine (HL.out _ HB2.out.pat).mono ?_;rintro e w3 ⟨v,rfl,hO,hP,hK⟩;have hO2:=own_set (b:=w.heap.size) (j:=1) (u:=v) (own_set (b:=w.heap.size) (j:=0) (u:=.int .i64 d1) hO (lt_of_row HB2.out.row)) (lt_of_row HB2.out.row);obtain ⟨A,c,rfl,hLP⟩:=LP.of_own (p:=p) (r:=r) (g:=g) hO2 (by have:=HB2.out.pat.lt;have:=HB2.out.pat.glt;omega);have hB:=HB2.out.call hP hK;have q0:=hB.cell (j:=0) rfl;have q1:=hB.cell (j:=1) rfl;have f0:=hB.free 0;have f1:=hB.free 1;have HB3:=Lib.hid (And.intro ((hB.set 0 (.int .i64 d1)).set 1 (.slice A l.length c)) hLP);have HC3:=Lib.hid (HC2.out.kept hK hap);have HS3:=Lib.hid (show PortT pb db mb p a wd (.func (.func 131) #[.pointer (some ⟨q,0,none⟩)] #[]) w3 from ⟨HC3.out.cells,(HDD2.out.kept hK hdp).cell⟩);have HS4:=Lib.hid ((HS3.out.put (b:=w.heap.size) (j:=0) (v:=.int .i64 d1) hbb.out).put (b:=w.heap.size) (j:=1) (v:=.slice A l.length c) hbb.out);clear hP hK hLP hO hO2 hB)
    | fail)
  go_wp2_with fail
  refine bodyPost_ret (results_cell_row rfl _ _ w.heap.size 97 _ (0,0) _ rfl HB3.out.1.row Tryz.underlying97 rfl (by kernel_rfl)) rfl ?_
  exact ⟨A,c,rfl,HB3.out.2,HB3.out.1.pat,HB3.out.1.kept⟩
end
end Go.Proofs.YtldnepogjnahfaaGreatDoor
