/- A line's function by contract, for each kind of words: the words, then a line feed (conditions: the parser lies in memory; at most 400000 bytes; the words keep to their contracts). -/
import Derived.Test.YtldnepogjnahfaaGreatDoorVE1x
import Derived.Test.YtldnepogjnahfaaGreatDoorVE2x
import Derived.Test.YtldnepogjnahfaaGreatDoorVPx
import Derived.Test.YtldnepogjnahfaaGreatDoorVPPortA
set_option linter.unusedVariables false
namespace Go.Proofs.YtldnepogjnahfaaGreatDoor
open Go.ChangeShapes Go.WideShapes Go.RowKit
section
variable {p r g:Nat} {m:Ext} {V:Int}
theorem line_input {q:Nat} (lb qb:Nat) (ha:(lb≠p∧lb≠r∧lb≠g)∧(qb≠p∧qb≠r∧qb≠g)):Readsint p r g (marksE q p g V) V 176 #[.pointer (some ⟨lb,0,none⟩),.pointer (some ⟨qb,0,none⟩)] (CaughtL lb qb p 134 (.func (.func 123) #[.pointer (some ⟨q,0,none⟩)] #[])) (Ps.ln (fun t=>t.definition V 1)):=fun W N t he hP hX=>by
  obtain ⟨cw,cp⟩:=hX.cells
  have HC:=Lib.hid hX
  have HW:=Lib.hid (input_any hP (Nat.le_refl _))
  have HX:=Lib.hid (fun (W:World) (t:Ps) (h:PAt 1 p r g (marksE q p g V) V N W t)=>sb_lf ▸ expect_any ⟨#[10]⟩ (by decide) h (Nat.le_refl _))
  unfold Ps.ln
  try dsimp only
  obtain ⟨⟨x,s1⟩,e1⟩:∃ y,(fun t=>t.definition V 1) t=y:=⟨_,rfl⟩
  try dsimp only at e1
  rw [e1] at HW ⊢
  try dsimp only at HW ⊢
  clear hP hX he e1
  go_enter Tryz.func176,Tryz.ntmps176
  go_wp2_with (first
    | (go_at_call 123;refine HW.out.mono ?_;rintro e w1 ⟨rfl,hP1,hK1⟩;obtain ⟨cw1,cp1⟩:=(HC.out.kept hK1 ha).cells;have HP1:=Lib.hid (And.intro hP1 hK1);clear hP1 hK1)
    | (go_at_call 120;refine (HX.out _ _ HP1.out.1).mono ?_;rintro e w2 ⟨rfl,hP2,hK2⟩))
  go_ret
  exact ⟨_,rfl,rfl,hP2,HP1.out.2.trans hK2⟩
theorem line_literal (lb qb:Nat) (ha:(lb≠p∧lb≠r∧lb≠g)∧(qb≠p∧qb≠r∧qb≠g)):Readsint p r g m V 176 #[.pointer (some ⟨lb,0,none⟩),.pointer (some ⟨qb,0,none⟩)] (CaughtL lb qb p 134 (.func (.func 182) #[.pointer (some ⟨p,0,none⟩)] #[])) (Ps.ln (fun t=>t.literal V)):=fun W N t he hP hX=>by
  obtain ⟨cw,cp⟩:=hX.cells
  have HC:=Lib.hid hX
  have HW:=Lib.hid (literal_any hP (Nat.le_refl _))
  have HX:=Lib.hid (fun (W:World) (t:Ps) (h:PAt 1 p r g m V N W t)=>sb_lf ▸ expect_any ⟨#[10]⟩ (by decide) h (Nat.le_refl _))
  unfold Ps.ln
  try dsimp only
  obtain ⟨⟨x,s1⟩,e1⟩:∃ y,(fun t=>t.literal V) t=y:=⟨_,rfl⟩
  try dsimp only at e1
  rw [e1] at HW ⊢
  try dsimp only at HW ⊢
  clear hP hX he e1
  go_enter Tryz.func176,Tryz.ntmps176
  go_wp2_with (first
    | (go_at_call 182;refine HW.out.mono ?_;rintro e w1 ⟨rfl,hP1,hK1⟩;obtain ⟨cw1,cp1⟩:=(HC.out.kept hK1 ha).cells;have HP1:=Lib.hid (And.intro hP1 hK1);clear hP1 hK1)
    | (go_at_call 120;refine (HX.out _ _ HP1.out.1).mono ?_;rintro e w2 ⟨rfl,hP2,hK2⟩))
  go_ret
  exact ⟨_,rfl,rfl,hP2,HP1.out.2.trans hK2⟩
theorem line_latch {q:Nat} (lb qb:Nat) (ha:(lb≠p∧lb≠r∧lb≠g)∧(qb≠p∧qb≠r∧qb≠g)):Readslatch p r g (marksE q p g V) V 180 #[.pointer (some ⟨lb,0,none⟩),.pointer (some ⟨qb,0,none⟩)] (CaughtL lb qb p 178 (.func (.func 126) #[.pointer (some ⟨q,0,none⟩)] #[])) (Ps.ln (fun t=>t.latch V)):=fun W N t he hP hX=>by
  obtain ⟨cw,cp⟩:=hX.cells
  have HC:=Lib.hid hX
  have HB:=Lib.hid (Lc.new (cs:=#[.int .i64 0,.int .i64 0,.int .i64 0]) (t:=48) hP (by decide))
  have HC:=Lib.hid (HC.out.kept (Kept3.of_below (p:=p) (r:=r) (g:=g) ((Below.refl _ W).alloc (Nat.le_refl _) (.cells #[.int .i64 0,.int .i64 0,.int .i64 0] 48))) ha)
  obtain ⟨cw,cp⟩:=HC.out.cells
  have HW:=Lib.hid (latch_any HB.out.pat (Nat.le_refl _))
  have HX:=Lib.hid (fun (W:World) (t:Ps) (h:PAt 1 p r g (marksE q p g V) V N W t)=>sb_lf ▸ expect_any ⟨#[10]⟩ (by decide) h (Nat.le_refl _))
  unfold Ps.ln
  try dsimp only
  obtain ⟨⟨x,s1⟩,e1⟩:∃ y,(fun t=>t.latch V) t=y:=⟨_,rfl⟩
  try dsimp only at e1
  rw [e1] at HW ⊢
  try dsimp only at HW ⊢
  clear hP hX he e1
  go_enter Tryz.func180,Tryz.ntmps180
  go_wp2_with (first
    | (go_at_call 126;refine HW.out.mono ?_;rintro e w1 ⟨rfl,hP1,hK1⟩;have b0:Below w1.heap.size w1 (w1.alloc (.cells #[.int .i64 x.lv,.int .i64 x.ln,.int .i64 x.li] 48)):=(Below.refl _ w1).alloc (Nat.le_refl _) _;have r0:=heap_alloc_new w1 (.cells #[.int .i64 x.lv,.int .i64 x.ln,.int .i64 x.li] 48);have hKs:=hK1.trans (Kept3.of_below (p:=p) (r:=r) (g:=g) b0);obtain ⟨cw1,cp1⟩:=(HC.out.kept hKs ha).cells;have HT1:=Lib.hid (And.intro r0 (show w1.heap.size≠p∧w1.heap.size≠r∧w1.heap.size≠g from by have:=hP1.lt;have:=hP1.glt;omega));have HB1:=Lib.hid (HB.out.call (hP1.below b0) hKs);clear hP1 hK1 hKs b0 r0 )
    | (go_at_call 120;refine (HX.out _ _ HB1.out.pat).mono ?_;rintro e w2 ⟨rfl,hP2,hK2⟩;have hT2:=(hK2.block _ (lt_of_row HT1.out.1) HT1.out.2.1 HT1.out.2.2.1 HT1.out.2.2.2).trans HT1.out.1;have HB2:=Lib.hid (HB1.out.call hP2 hK2);have t0:w2.cell? ⟨w1.heap.size,0,none⟩=some (.int .i64 x.lv):=(by rw [cell_of_row _ _ _ _ _ _ hT2];rfl);have u0:=HB2.out.cell (j:=0) rfl;have v0:=HB2.out.free 0;have t1:w2.cell? ⟨w1.heap.size,1,none⟩=some (.int .i64 x.ln):=(by rw [cell_of_row _ _ _ _ _ _ hT2];rfl);have u1:=HB2.out.cell (j:=1) rfl;have v1:=HB2.out.free 1;have t2:w2.cell? ⟨w1.heap.size,2,none⟩=some (.int .i64 x.li):=(by rw [cell_of_row _ _ _ _ _ _ hT2];rfl);have u2:=HB2.out.cell (j:=2) rfl;have v2:=HB2.out.free 2;clear hP2 hK2 hT2))
  try simp only [Exit.inBlock,Exit.then]
  have HF:=(((HB2.out.set 0 (.int .i64 x.lv)).set 1 (.int .i64 x.ln)).set 2 (.int .i64 x.li))
  refine bodyPost_ret (results_cell_row rfl _ _ W.heap.size 48 _ (0,0) _ rfl HF.row Tryz.underlying48 rfl (by kernel_rfl)) rfl ?_
  exact ⟨_,rfl,rfl,HF.pat,HF.kept⟩
theorem line_and {q:Nat} (lb qb:Nat) (ha:(lb≠p∧lb≠r∧lb≠g)∧(qb≠p∧qb≠r∧qb≠g)):Readsand p r g (marksE q p g V) V 194 #[.pointer (some ⟨lb,0,none⟩),.pointer (some ⟨qb,0,none⟩)] (CaughtL lb qb p 187 (.func (.func 134) #[.pointer (some ⟨q,0,none⟩)] #[])) (Ps.ln (fun t=>t.and V)):=fun W N t he hP hX=>by
  obtain ⟨cw,cp⟩:=hX.cells
  have HC:=Lib.hid hX
  have HB:=Lib.hid (Lc.new (cs:=#[.int .i64 0,.int .i64 0,.int .i64 0]) (t:=57) hP (by decide))
  have HC:=Lib.hid (HC.out.kept (Kept3.of_below (p:=p) (r:=r) (g:=g) ((Below.refl _ W).alloc (Nat.le_refl _) (.cells #[.int .i64 0,.int .i64 0,.int .i64 0] 57))) ha)
  obtain ⟨cw,cp⟩:=HC.out.cells
  have HW:=Lib.hid (and_any HB.out.pat (Nat.le_refl _))
  have HX:=Lib.hid (fun (W:World) (t:Ps) (h:PAt 1 p r g (marksE q p g V) V N W t)=>sb_lf ▸ expect_any ⟨#[10]⟩ (by decide) h (Nat.le_refl _))
  unfold Ps.ln
  try dsimp only
  obtain ⟨⟨x,s1⟩,e1⟩:∃ y,(fun t=>t.and V) t=y:=⟨_,rfl⟩
  try dsimp only at e1
  rw [e1] at HW ⊢
  try dsimp only at HW ⊢
  clear hP hX he e1
  go_enter Tryz.func194,Tryz.ntmps194
  go_wp2_with (first
    | (go_at_call 134;refine HW.out.mono ?_;rintro e w1 ⟨rfl,hP1,hK1⟩;have b0:Below w1.heap.size w1 (w1.alloc (.cells #[.int .i64 x.av,.int .i64 x.aa,.int .i64 x.ab] 57)):=(Below.refl _ w1).alloc (Nat.le_refl _) _;have r0:=heap_alloc_new w1 (.cells #[.int .i64 x.av,.int .i64 x.aa,.int .i64 x.ab] 57);have hKs:=hK1.trans (Kept3.of_below (p:=p) (r:=r) (g:=g) b0);obtain ⟨cw1,cp1⟩:=(HC.out.kept hKs ha).cells;have HT1:=Lib.hid (And.intro r0 (show w1.heap.size≠p∧w1.heap.size≠r∧w1.heap.size≠g from by have:=hP1.lt;have:=hP1.glt;omega));have HB1:=Lib.hid (HB.out.call (hP1.below b0) hKs);clear hP1 hK1 hKs b0 r0 )
    | (go_at_call 120;refine (HX.out _ _ HB1.out.pat).mono ?_;rintro e w2 ⟨rfl,hP2,hK2⟩;have hT2:=(hK2.block _ (lt_of_row HT1.out.1) HT1.out.2.1 HT1.out.2.2.1 HT1.out.2.2.2).trans HT1.out.1;have HB2:=Lib.hid (HB1.out.call hP2 hK2);have t0:w2.cell? ⟨w1.heap.size,0,none⟩=some (.int .i64 x.av):=(by rw [cell_of_row _ _ _ _ _ _ hT2];rfl);have u0:=HB2.out.cell (j:=0) rfl;have v0:=HB2.out.free 0;have t1:w2.cell? ⟨w1.heap.size,1,none⟩=some (.int .i64 x.aa):=(by rw [cell_of_row _ _ _ _ _ _ hT2];rfl);have u1:=HB2.out.cell (j:=1) rfl;have v1:=HB2.out.free 1;have t2:w2.cell? ⟨w1.heap.size,2,none⟩=some (.int .i64 x.ab):=(by rw [cell_of_row _ _ _ _ _ _ hT2];rfl);have u2:=HB2.out.cell (j:=2) rfl;have v2:=HB2.out.free 2;clear hP2 hK2 hT2))
  try simp only [Exit.inBlock,Exit.then]
  have HF:=(((HB2.out.set 0 (.int .i64 x.av)).set 1 (.int .i64 x.aa)).set 2 (.int .i64 x.ab))
  refine bodyPost_ret (results_cell_row rfl _ _ W.heap.size 57 _ (0,0) _ rfl HF.row Tryz.underlying57 rfl (by kernel_rfl)) rfl ?_
  exact ⟨_,rfl,rfl,HF.pat,HF.kept⟩
theorem line_memory (lb qb:Nat) (ha:(lb≠p∧lb≠r∧lb≠g)∧(qb≠p∧qb≠r∧qb≠g)):Readsmemory p r g m V 184 #[.pointer (some ⟨lb,0,none⟩),.pointer (some ⟨qb,0,none⟩)] (CaughtL lb qb p 79 (.func (.func 129) #[.pointer (some ⟨p,0,none⟩)] #[])) (Ps.ln (fun t=>t.memory)):=fun W N t he hP hX=>by
  obtain ⟨cw,cp⟩:=hX.cells
  have HC:=Lib.hid hX
  have HB:=Lib.hid (Lc.new (cs:=#[.int .i64 0,.int .i64 0,.bool false,.slice none 0 0,.slice none 0 0]) (t:=54) hP (by decide))
  have HC:=Lib.hid (HC.out.kept (Kept3.of_below (p:=p) (r:=r) (g:=g) ((Below.refl _ W).alloc (Nat.le_refl _) (.cells #[.int .i64 0,.int .i64 0,.bool false,.slice none 0 0,.slice none 0 0] 54))) ha)
  obtain ⟨cw,cp⟩:=HC.out.cells
  have HW:=Lib.hid (memory_any HB.out.pat (Nat.le_refl _))
  have HX:=Lib.hid (fun (W:World) (t:Ps) (h:PAt 1 p r g m V N W t)=>sb_lf ▸ expect_any ⟨#[10]⟩ (by decide) h (Nat.le_refl _))
  unfold Ps.ln
  try dsimp only
  obtain ⟨⟨x,s1⟩,e1⟩:∃ y,(fun t=>t.memory) t=y:=⟨_,rfl⟩
  try dsimp only at e1
  rw [e1] at HW ⊢
  try dsimp only at HW ⊢
  clear hP hX he e1
  go_enter Tryz.func184,Tryz.ntmps184
  go_wp2_with (first
    | (go_at_call 129;refine HW.out.mono ?_;rintro e w1 ⟨A,A2,rfl,hP1,hK1⟩;have b0:Below w1.heap.size w1 (w1.alloc (.cells #[.int .i64 x.sa,.int .i64 x.sw,.bool x.sn,.slice A x.sr.toNat x.sr.toNat,.slice A2 x.sx.toNat x.sx.toNat] 54)):=(Below.refl _ w1).alloc (Nat.le_refl _) _;have r0:=heap_alloc_new w1 (.cells #[.int .i64 x.sa,.int .i64 x.sw,.bool x.sn,.slice A x.sr.toNat x.sr.toNat,.slice A2 x.sx.toNat x.sx.toNat] 54);have hKs:=hK1.trans (Kept3.of_below (p:=p) (r:=r) (g:=g) b0);obtain ⟨cw1,cp1⟩:=(HC.out.kept hKs ha).cells;have HT1:=Lib.hid (And.intro r0 (show w1.heap.size≠p∧w1.heap.size≠r∧w1.heap.size≠g from by have:=hP1.lt;have:=hP1.glt;omega));have HB1:=Lib.hid (HB.out.call (hP1.below b0) hKs);clear hP1 hK1 hKs b0 r0 )
    | (go_at_call 120;refine (HX.out _ _ HB1.out.pat).mono ?_;rintro e w2 ⟨rfl,hP2,hK2⟩;have hT2:=(hK2.block _ (lt_of_row HT1.out.1) HT1.out.2.1 HT1.out.2.2.1 HT1.out.2.2.2).trans HT1.out.1;have HB2:=Lib.hid (HB1.out.call hP2 hK2);have t0:w2.cell? ⟨w1.heap.size,0,none⟩=some (.int .i64 x.sa):=(by rw [cell_of_row _ _ _ _ _ _ hT2];rfl);have u0:=HB2.out.cell (j:=0) rfl;have v0:=HB2.out.free 0;have t1:w2.cell? ⟨w1.heap.size,1,none⟩=some (.int .i64 x.sw):=(by rw [cell_of_row _ _ _ _ _ _ hT2];rfl);have u1:=HB2.out.cell (j:=1) rfl;have v1:=HB2.out.free 1;have t2:w2.cell? ⟨w1.heap.size,2,none⟩=some (.bool x.sn):=(by rw [cell_of_row _ _ _ _ _ _ hT2];rfl);have u2:=HB2.out.cell (j:=2) rfl;have v2:=HB2.out.free 2;have t3:w2.cell? ⟨w1.heap.size,3,none⟩=some (.slice A x.sr.toNat x.sr.toNat):=(by rw [cell_of_row _ _ _ _ _ _ hT2];rfl);have u3:=HB2.out.cell (j:=3) rfl;have v3:=HB2.out.free 3;have t4:w2.cell? ⟨w1.heap.size,4,none⟩=some (.slice A2 x.sx.toNat x.sx.toNat):=(by rw [cell_of_row _ _ _ _ _ _ hT2];rfl);have u4:=HB2.out.cell (j:=4) rfl;have v4:=HB2.out.free 4;clear hP2 hK2 hT2))
  try simp only [Exit.inBlock,Exit.then]
  have HF:=(((((HB2.out.set 0 (.int .i64 x.sa)).set 1 (.int .i64 x.sw)).set 2 (.bool x.sn)).set 3 (.slice A x.sr.toNat x.sr.toNat)).set 4 (.slice A2 x.sx.toNat x.sx.toNat))
  refine bodyPost_ret (results_cell_row rfl _ _ W.heap.size 54 _ (0,0) _ rfl HF.row Tryz.underlying54 rfl (by kernel_rfl)) rfl ?_
  exact ⟨_,rfl,A,A2,rfl,HF.pat,HF.kept⟩
theorem line_read {q db:Nat} {fb mb a wd:Nat} {nn:Bool} {c3 c4:Value} (haw:a≤62) (hww:1≤wd∧wd≤64) (hap:(fb≠p∧fb≠r∧fb≠g)∧(mb≠p∧mb≠r∧mb≠g)) (hdp:db≠p∧db≠r∧db≠g) (lb qb:Nat) (ha:(lb≠p∧lb≠r∧lb≠g)∧(qb≠p∧qb≠r∧qb≠g)):Readsread p r g (marksE q p g V) V 224 #[.pointer (some ⟨lb,0,none⟩),.pointer (some ⟨qb,0,none⟩)] (fun W=>CaughtL lb qb p 225 (.func (.func 187) #[] #[.pointer (some ⟨fb,0,none⟩),.pointer (some ⟨db,0,none⟩),.pointer (some ⟨mb,0,none⟩)]) W∧CaughtM fb mb p a wd nn c3 c4 W∧CaughtD db (.func (.func 131) #[.pointer (some ⟨q,0,none⟩)] #[]) W) (Ps.ln (Ps.read (fun t=>t.nextDef V wd) V a)):=fun W N t he hP hX=>by
  obtain ⟨cw,cp⟩:=hX.1.cells
  have HC:=Lib.hid hX.1
  have HB:=Lib.hid (Lc.new (cs:=#[.int .i64 0,.slice none 0 0]) (t:=97) hP (by decide))
  have HC:=Lib.hid (HC.out.kept (Kept3.of_below (p:=p) (r:=r) (g:=g) ((Below.refl _ W).alloc (Nat.le_refl _) (.cells #[.int .i64 0,.slice none 0 0] 97))) ha)
  obtain ⟨cw,cp⟩:=HC.out.cells
  have HW:=Lib.hid (readA_any haw hww HB.out.pat (hX.2.1.kept (Kept3.of_below (p:=p) (r:=r) (g:=g) ((Below.refl _ W).alloc (Nat.le_refl _) (.cells #[.int .i64 0,.slice none 0 0] 97))) hap) hap (hX.2.2.kept (Kept3.of_below (p:=p) (r:=r) (g:=g) ((Below.refl _ W).alloc (Nat.le_refl _) (.cells #[.int .i64 0,.slice none 0 0] 97))) hdp) hdp (fun t=>t.nextDef V wd) (fun W t h=>nextDef_any wd (by omega) h (Nat.le_refl _)))
  have HX:=Lib.hid (fun (W:World) (t:Ps) (h:PAt 1 p r g (marksE q p g V) V N W t)=>sb_lf ▸ expect_any ⟨#[10]⟩ (by decide) h (Nat.le_refl _))
  unfold Ps.ln
  try dsimp only
  obtain ⟨⟨x,s1⟩,e1⟩:∃ y,(Ps.read (fun t=>t.nextDef V wd) V a) t=y:=⟨_,rfl⟩
  try dsimp only at e1
  rw [e1] at HW ⊢
  try dsimp only at HW ⊢
  clear hP hX he e1
  go_enter Tryz.func224,Tryz.ntmps224
  go_wp2_with (first
    | (go_at_call 187;refine HW.out.mono ?_;rintro e w1 ⟨A,c0,rfl,hLP,hP1,hK1⟩;have b0:Below w1.heap.size w1 (w1.alloc (.cells #[.int .i64 x.rv,.slice A x.ra.length c0] 97)):=(Below.refl _ w1).alloc (Nat.le_refl _) _;have r0:=heap_alloc_new w1 (.cells #[.int .i64 x.rv,.slice A x.ra.length c0] 97);have hKs:=hK1.trans (Kept3.of_below (p:=p) (r:=r) (g:=g) b0);obtain ⟨cw1,cp1⟩:=(HC.out.kept hKs ha).cells;have HT1:=Lib.hid (And.intro r0 (show w1.heap.size≠p∧w1.heap.size≠r∧w1.heap.size≠g from by have:=hP1.lt;have:=hP1.glt;omega));have HLP1:=Lib.hid (hLP.kept (Kept3.of_below (p:=p) (r:=r) (g:=g) b0));have HB1:=Lib.hid (HB.out.call (hP1.below b0) hKs);clear hP1 hK1 hKs b0 r0 hLP )
    | (go_at_call 120;refine (HX.out _ _ HB1.out.pat).mono ?_;rintro e w2 ⟨rfl,hP2,hK2⟩;have hT2:=(hK2.block _ (lt_of_row HT1.out.1) HT1.out.2.1 HT1.out.2.2.1 HT1.out.2.2.2).trans HT1.out.1;have HLP2:=Lib.hid (HLP1.out.kept hK2);have HB2:=Lib.hid (HB1.out.call hP2 hK2);have t0:w2.cell? ⟨w1.heap.size,0,none⟩=some (.int .i64 x.rv):=(by rw [cell_of_row _ _ _ _ _ _ hT2];rfl);have u0:=HB2.out.cell (j:=0) rfl;have v0:=HB2.out.free 0;have t1:w2.cell? ⟨w1.heap.size,1,none⟩=some (.slice A x.ra.length c0):=(by rw [cell_of_row _ _ _ _ _ _ hT2];rfl);have u1:=HB2.out.cell (j:=1) rfl;have v1:=HB2.out.free 1;clear hP2 hK2 hT2))
  try simp only [Exit.inBlock,Exit.then]
  have HF:=((HB2.out.set 0 (.int .i64 x.rv)).set 1 (.slice A x.ra.length c0))
  refine bodyPost_ret (results_cell_row rfl _ _ W.heap.size 97 _ (0,0) _ rfl HF.row Tryz.underlying97 rfl (by kernel_rfl)) rfl ?_
  have q0:=HLP2.out.setBox (j:=0) (v:=.int .i64 x.rv) HB2.out.row (by decide)
  have q1:=q0.setBox (j:=1) (v:=.slice A x.ra.length c0) (HB2.out.set 0 (.int .i64 x.rv)).row (by decide)
  exact ⟨_,rfl,A,c0,rfl,q1,HF.pat,HF.kept⟩
theorem line_write {fb mb a wd:Nat} {nn:Bool} {c3 c4:Value} (haw:a≤62) (hww:1≤wd∧wd≤64) (hap:(fb≠p∧fb≠r∧fb≠g)∧(mb≠p∧mb≠r∧mb≠g)) (lb qb:Nat) (ha:(lb≠p∧lb≠r∧lb≠g)∧(qb≠p∧qb≠r∧qb≠g)):Readswrite p r g m V 227 #[.pointer (some ⟨lb,0,none⟩),.pointer (some ⟨qb,0,none⟩)] (fun W=>CaughtL lb qb p 230 (.func (.func 191) #[] #[.pointer (some ⟨fb,0,none⟩),.pointer (some ⟨mb,0,none⟩)]) W∧CaughtM fb mb p a wd nn c3 c4 W) (Ps.ln (fun t=>t.write V a wd)):=fun W N t he hP hX=>by
  obtain ⟨cw,cp⟩:=hX.1.cells
  have HC:=Lib.hid hX.1
  have HB:=Lib.hid (Lc.new (cs:=#[.int .i64 0,.slice none 0 0,.slice none 0 0]) (t:=99) hP (by decide))
  have HC:=Lib.hid (HC.out.kept (Kept3.of_below (p:=p) (r:=r) (g:=g) ((Below.refl _ W).alloc (Nat.le_refl _) (.cells #[.int .i64 0,.slice none 0 0,.slice none 0 0] 99))) ha)
  obtain ⟨cw,cp⟩:=HC.out.cells
  have HW:=Lib.hid (write_any haw hww HB.out.pat (hX.2.kept (Kept3.of_below (p:=p) (r:=r) (g:=g) ((Below.refl _ W).alloc (Nat.le_refl _) (.cells #[.int .i64 0,.slice none 0 0,.slice none 0 0] 99))) hap) hap)
  have HX:=Lib.hid (fun (W:World) (t:Ps) (h:PAt 1 p r g m V N W t)=>sb_lf ▸ expect_any ⟨#[10]⟩ (by decide) h (Nat.le_refl _))
  unfold Ps.ln
  try dsimp only
  obtain ⟨⟨x,s1⟩,e1⟩:∃ y,(fun t=>t.write V a wd) t=y:=⟨_,rfl⟩
  try dsimp only at e1
  rw [e1] at HW ⊢
  try dsimp only at HW ⊢
  clear hP hX he e1
  go_enter Tryz.func227,Tryz.ntmps227
  go_wp2_with (first
    | (go_at_call 191;refine HW.out.mono ?_;rintro e w1 ⟨A,c0,A2,c2,rfl,hLP,hP1,hK1⟩;have b0:Below w1.heap.size w1 (w1.alloc (.cells #[.int .i64 x.wo,.slice A x.wa.length c0,.slice A2 x.wd.length c2] 99)):=(Below.refl _ w1).alloc (Nat.le_refl _) _;have r0:=heap_alloc_new w1 (.cells #[.int .i64 x.wo,.slice A x.wa.length c0,.slice A2 x.wd.length c2] 99);have hKs:=hK1.trans (Kept3.of_below (p:=p) (r:=r) (g:=g) b0);obtain ⟨cw1,cp1⟩:=(HC.out.kept hKs ha).cells;have HT1:=Lib.hid (And.intro r0 (show w1.heap.size≠p∧w1.heap.size≠r∧w1.heap.size≠g from by have:=hP1.lt;have:=hP1.glt;omega));have HLP1:=Lib.hid (And.intro (hLP.1.kept (Kept3.of_below (p:=p) (r:=r) (g:=g) b0)) (hLP.2.kept (Kept3.of_below (p:=p) (r:=r) (g:=g) b0)));have HB1:=Lib.hid (HB.out.call (hP1.below b0) hKs);clear hP1 hK1 hKs b0 r0 hLP )
    | (go_at_call 120;refine (HX.out _ _ HB1.out.pat).mono ?_;rintro e w2 ⟨rfl,hP2,hK2⟩;have hT2:=(hK2.block _ (lt_of_row HT1.out.1) HT1.out.2.1 HT1.out.2.2.1 HT1.out.2.2.2).trans HT1.out.1;have HLP2:=Lib.hid (And.intro (HLP1.out.1.kept hK2) (HLP1.out.2.kept hK2));have HB2:=Lib.hid (HB1.out.call hP2 hK2);have t0:w2.cell? ⟨w1.heap.size,0,none⟩=some (.int .i64 x.wo):=(by rw [cell_of_row _ _ _ _ _ _ hT2];rfl);have u0:=HB2.out.cell (j:=0) rfl;have v0:=HB2.out.free 0;have t1:w2.cell? ⟨w1.heap.size,1,none⟩=some (.slice A x.wa.length c0):=(by rw [cell_of_row _ _ _ _ _ _ hT2];rfl);have u1:=HB2.out.cell (j:=1) rfl;have v1:=HB2.out.free 1;have t2:w2.cell? ⟨w1.heap.size,2,none⟩=some (.slice A2 x.wd.length c2):=(by rw [cell_of_row _ _ _ _ _ _ hT2];rfl);have u2:=HB2.out.cell (j:=2) rfl;have v2:=HB2.out.free 2;clear hP2 hK2 hT2))
  try simp only [Exit.inBlock,Exit.then]
  have HF:=(((HB2.out.set 0 (.int .i64 x.wo)).set 1 (.slice A x.wa.length c0)).set 2 (.slice A2 x.wd.length c2))
  refine bodyPost_ret (results_cell_row rfl _ _ W.heap.size 99 _ (0,0) _ rfl HF.row Tryz.underlying99 rfl (by kernel_rfl)) rfl ?_
  have q0:=And.intro (HLP2.out.1.setBox (j:=0) (v:=.int .i64 x.wo) HB2.out.row (by decide)) (HLP2.out.2.setBox (j:=0) (v:=.int .i64 x.wo) HB2.out.row (by decide))
  have q1:=And.intro (q0.1.setBox (j:=1) (v:=.slice A x.wa.length c0) (HB2.out.set 0 (.int .i64 x.wo)).row (by decide)) (q0.2.setBox (j:=1) (v:=.slice A x.wa.length c0) (HB2.out.set 0 (.int .i64 x.wo)).row (by decide))
  have q2:=And.intro (q1.1.setBox (j:=2) (v:=.slice A2 x.wd.length c2) ((HB2.out.set 0 (.int .i64 x.wo)).set 1 (.slice A x.wa.length c0)).row (by decide)) (q1.2.setBox (j:=2) (v:=.slice A2 x.wd.length c2) ((HB2.out.set 0 (.int .i64 x.wo)).set 1 (.slice A x.wa.length c0)).row (by decide))
  exact ⟨_,rfl,A,c0,A2,c2,rfl,q2,HF.pat,HF.kept⟩
end
end Go.Proofs.YtldnepogjnahfaaGreatDoor
