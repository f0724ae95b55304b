/- The parser's methods begin and First by contracts: the first word, and the first line (conditions: the parser lies in memory; at most 400000 bytes). -/
import Derived.Test.YtldnepogjnahfaaGreatDoorVPx
set_option linter.unusedVariables false
namespace Go.Proofs.YtldnepogjnahfaaGreatDoor
open Go.ChangeShapes Go.WideShapes Go.RowKit
def Ps.want (s:Ps) (b:List Int):Int × Ps:=((Sc.wantA s.l b s.i).2,s.skip (Sc.wantN s.l b))
def Ps.begin (aagB aagmB:List Int) (s:Ps):Bool × Ps :=
  if (s.want aagB).1=0 then (false,(s.want aagB).2)
  else if ((s.want aagB).2.want aagmB).1=0 then (true,((s.want aagB).2.want aagmB).2)
  else (true,((s.want aagB).2.want aagmB).2.refuse 3 0)
section
variable {dep p r g:Nat} {m:Ext} {V:Int} {N:NC} {w:World} {s:Ps}
theorem want_step (b:ByteArray) (hb:b.size≤1000) (h:PAt dep p r g m V N w s) :
    Calls Tryz.prog 170 #[.pointer (some ⟨r,0,none⟩),.string b] w fun e w'=>(∃ a,e=.returned (.tuple #[.int .i64 a,.int .i64 (s.want (Sc.sbytes b)).1]))∧PAt dep p r g m V N w' (s.want (Sc.sbytes b)).2∧Kept3 p r g w w':=by
  refine (Sc.want_any r s.i s.l b w h.rd (by omega) (by have:=h.room;omega)).mono ?_
  rintro e w1 ⟨rfl,hR,hO⟩
  exact ⟨⟨_,rfl⟩,h.next hR hO (wantN_le _ _),Kept3.of_only hO⟩
set_option maxHeartbeats 1000000 in
theorem begin_any (b1 b2:ByteArray) (aagB aagmB:List Int) (hb1:Sc.sbytes (b1++⟨#[32]⟩)=aagB) (hb2:Sc.sbytes (b2++⟨#[32]⟩)=aagmB) (hz1:b1.size≤900) (hz2:b2.size≤900) (h:PAt dep p r g m V N w s) (hd:1≤dep) :
    Calls Tryz.prog 171 #[.pointer (some ⟨p,0,none⟩),.string b1,.string b2] w (PStep dep p r g m V N w (.bool (s.begin aagB aagmB).1) (s.begin aagB aagmB).2):=by
  obtain ⟨ev,hE,c0,c1,c9,cf⟩:=h.cells
  have hs:s.begin aagB aagmB=if (s.want aagB).1=0 then (false,(s.want aagB).2) else if ((s.want aagB).2.want aagmB).1=0 then (true,((s.want aagB).2.want aagmB).2) else (true,((s.want aagB).2.want aagmB).2.refuse 3 0):=rfl
  rw [hs]
  have H1:=Lib.hid (hb1 ▸ want_step (b1++(⟨#[32]⟩:ByteArray)) (by rw [ByteArray.size_append];show b1.size+1≤1000;omega) h)
  have hs1:¬ 9223372036854775807<b1.size+1:=by omega
  have hs2:¬ 9223372036854775807<b2.size+1:=by omega
  clear h hE c1 c9 cf hs hb1
  generalize s.want aagB=A at *
  obtain ⟨k1,s1⟩:=A
  have H2:=Lib.hid (fun (W:World) (h:PAt dep p r g m V N W s1)=>hb2 ▸ want_step (b2++(⟨#[32]⟩:ByteArray)) (by rw [ByteArray.size_append];show b2.size+1≤1000;omega) h)
  clear hb2
  have HC:=Lib.hid (fun (W:World) (h:PAt dep p r g m V N W s1)=>h.cells)
  generalize s1.want aagmB=A at *
  obtain ⟨k2,s2⟩:=A
  by_cases h1:k1=0
  · subst h1
    rw [if_pos rfl]
    go_enter Tryz.func171,Tryz.ntmps171
    go_wp2_with (first
      | (go_at_call 170;refine H1.out.mono ?_;rintro e w1 ⟨⟨a1,rfl⟩,hP1,hK1⟩))
    go_ret
    exact ⟨rfl,hP1,hK1⟩
  · rw [if_neg h1]
    by_cases h2:k2=0
    · subst h2
      rw [if_pos rfl]
      go_enter Tryz.func171,Tryz.ntmps171
      go_wp2_with (first
        | (go_at_call 170;refine H1.out.mono ?_;clear H1;rintro e w1 ⟨⟨a1,rfl⟩,hP1,hK1⟩;obtain ⟨ev1,-,d0,-,-,-⟩:=hP1.cells;have HP:=Lib.hid (And.intro hP1 hK1);clear hP1 hK1)
        | (go_at_call 170;refine (H2.out _ HP.out.1).mono ?_;rintro e w2 ⟨⟨a2,rfl⟩,hP2,hK2⟩))
      go_ret
      exact ⟨rfl,hP2,HP.out.2.trans hK2⟩
    · rw [if_neg h2]
      go_enter Tryz.func171,Tryz.ntmps171
      go_wp2_with (first
        | (go_at_call 170;refine H1.out.mono ?_;clear H1;rintro e w1 ⟨⟨a1,rfl⟩,hP1,hK1⟩;obtain ⟨ev1,-,d0,-,-,-⟩:=hP1.cells;have HP:=Lib.hid (And.intro hP1 hK1);clear hP1 hK1)
        | (go_at_call 170;refine (H2.out _ HP.out.1).mono ?_;rintro e w2 ⟨⟨a2,rfl⟩,hP2,hK2⟩;have HP2:=Lib.hid (And.intro hP2 (HP.out.2.trans hK2));clear hP2 hK2)
        | (go_at_call 149;refine (refuse_any _ _ HP2.out.1 hd).mono ?_;rintro e w3 ⟨rfl,hP3,hK3⟩))
      go_ret
      exact ⟨rfl,hP3,HP2.out.2.trans hK3⟩
end
structure PCounts where
  ci:Int
  cl:Int
  co:Int
  ca:Int
  cb:Int
  cc:Int
  cm:Int
def countsV (c:PCounts):Array Value:=#[.int .i64 c.ci,.int .i64 c.cl,.int .i64 c.co,.int .i64 c.ca,.int .i64 c.cb,.int .i64 c.cc,.int .i64 c.cm]
def Ps.mems (b:Bool) (s:Ps):Int × Ps:=if b then s.nextWithin 1 4 10 else (0,s)
def Ps.first (x1 x2:List Int) (s:Ps):Int × PCounts × Ps :=
  let b:=s.begin x1 x2
  let v:=b.2.within 0 2000 10
  let i:=v.2.nextWithin 0 2000 10
  let l:=i.2.nextWithin 0 2000 10
  let o:=l.2.nextAny
  let a:=o.2.nextWithin 0 2000 10
  let d:=a.2.nextAny
  let c:=d.2.nextWithin 0 (1000 - o.1 - d.1) 10
  let m:=c.2.mems b.1
  (v.1,⟨i.1,l.1,o.1,a.1,d.1,c.1,m.1⟩,m.2)
theorem Ps.first_eq (x1 x2:List Int) (s:Ps) {b:Bool} {s1 s2 s3 s4 s5 s6 s7 s8 s9:Ps} {v i l o a d c n:Int} (h1:s.begin x1 x2=(b,s1)) (h2:s1.within 0 2000 10=(v,s2)) (h3:s2.nextWithin 0 2000 10=(i,s3)) (h4:s3.nextWithin 0 2000 10=(l,s4)) (h5:s4.nextAny=(o,s5)) (h6:s5.nextWithin 0 2000 10=(a,s6)) (h7:s6.nextAny=(d,s7)) (h8:s7.nextWithin 0 (1000 - o - d) 10=(c,s8)) (h9:s8.mems b=(n,s9)) :
    s.first x1 x2=(v,⟨i,l,o,a,d,c,n⟩,s9):=by
  unfold Ps.first
  simp only [h1,h2,h3,h4,h5,h6,h7,h8,h9]
section
variable {dep p r g:Nat} {m:Ext} {V:Int} {N:NC} {w:World} {s:Ps}
theorem PAt.setV (h:PAt dep p r g m V N w s) {v:Int} (h0:0≤v) (h1:v≤2000):PAt dep p r g m v N (w.setCell ⟨p,1,none⟩ (.int .i64 v)) s:=by
  obtain ⟨⟨ev,k1,k2⟩,h3,h4,h5,h6,h7,h8,h9,h10⟩:=h
  have hl:=h8.lt
  have hother:∀ k,k≠p→(w.setCell ⟨p,1,none⟩ (.int .i64 v)).heap[k]?=w.heap[k]?:=fun k hk=>heap_setCell_other _ _ _ _ (by simpa using hk)
  refine ⟨⟨ev,?_,k2.put k1 (by decide) _⟩,rd_same h3 (by simp) fun k hk=>hother k (by omega),h8.same h4 fun k _ hk _=>hother k hk,(World.cell?_of_block (a:=⟨1,0,none⟩) (hother 1 (by omega))).trans h5,h6,h7,h8,by simpa using h9,h0,h1⟩
  rw [heap_setCell_same w p 1 _ _ (.int .i64 v) k1];rfl
theorem Lc2.setV {w0:World} {b b2:Nat} {t t2:TypeId} {cs cs2:Array Value} (h:Lc2 dep p r g m V N w0 b t b2 t2 w cs cs2 s) {v:Int} (h0:0≤v) (h1:v≤2000) :
    Lc2 dep p r g m v N w0 b t b2 t2 (w.setCell ⟨p,1,none⟩ (.int .i64 v)) cs cs2 s:=by
  have o1:=h.one.old
  have o2:=h.old2
  have hother:∀ k,k≠p→(w.setCell ⟨p,1,none⟩ (.int .i64 v)).heap[k]?=w.heap[k]?:=fun k hk=>heap_setCell_other _ _ _ _ (by simpa using hk)
  exact ⟨⟨h.one.pat.setV h0 h1,h.one.kept.put 1 _,(hother b (by omega)).trans h.one.row,h.one.base,h.one.topb,h.one.tag⟩,(hother b2 (by omega)).trans h.two,h.base2,h.apart,h.topb2,h.tag2⟩
def FirstLeft (dep p r g:Nat) (m:Ext) (N:NC) (w:World) (x:Int × PCounts × Ps) (e:Ending) (w':World):Prop :=
  e=.returned (.agg (countsV x.2.1))∧PAt dep p r g m x.1 N w' x.2.2∧Kept3 p r g w w'
set_option maxRecDepth 100000 in
set_option maxHeartbeats 8000000 in
theorem first_any (b1 b2:ByteArray) (x1 x2:List Int) (hb1:Sc.sbytes (b1++⟨#[32]⟩)=x1) (hb2:Sc.sbytes (b2++⟨#[32]⟩)=x2) (hz1:b1.size≤900) (hz2:b2.size≤900) (h:PAt dep p r g m V N w s) (hd:1≤dep) :
    Calls Tryz.prog 121 #[.pointer (some ⟨p,0,none⟩),.string b1,.string b2] w (FirstLeft dep p r g m N w (s.first x1 x2)):=by
  have HB:=Lib.hid (Lc2.new (cs:=#[.int .i64 0,.int .i64 0,.int .i64 0,.int .i64 0,.int .i64 0,.int .i64 0,.int .i64 0]) (cs2:=#[.int .i64 0,.int .i64 0,.int .i64 0,.int .i64 0,.int .i64 0,.int .i64 0,.int .i64 0]) (t:=124) (t2:=124) h (by decide) (by decide))
  have H0:=Lib.hid (begin_any b1 b2 x1 x2 hb1 hb2 hz1 hz2 HB.out.one.pat hd)
  obtain ⟨⟨b,s1⟩,e1⟩:∃ x,s.begin x1 x2=x:=⟨_,rfl⟩
  obtain ⟨⟨v,s2⟩,e2⟩:∃ x,s1.within 0 2000 10=x:=⟨_,rfl⟩
  obtain ⟨⟨ci,s3⟩,e3⟩:∃ x,s2.nextWithin 0 2000 10=x:=⟨_,rfl⟩
  obtain ⟨⟨cl,s4⟩,e4⟩:∃ x,s3.nextWithin 0 2000 10=x:=⟨_,rfl⟩
  obtain ⟨⟨co,s5⟩,e5⟩:∃ x,s4.nextAny=x:=⟨_,rfl⟩
  obtain ⟨⟨ca,s6⟩,e6⟩:∃ x,s5.nextWithin 0 2000 10=x:=⟨_,rfl⟩
  obtain ⟨⟨cb,s7⟩,e7⟩:∃ x,s6.nextAny=x:=⟨_,rfl⟩
  obtain ⟨⟨cc,s8⟩,e8⟩:∃ x,s7.nextWithin 0 (1000 - co - cb) 10=x:=⟨_,rfl⟩
  obtain ⟨⟨cm,s9⟩,e9⟩:∃ x,s8.mems b=x:=⟨_,rfl⟩
  rw [Ps.first_eq x1 x2 s e1 e2 e3 e4 e5 e6 e7 e8 e9]
  have hv:0≤v∧v≤2000:=by
    have:=Ps.within_in s1 0 2000 10
    rw [e2] at this
    simp at this
    omega
  have ho:0≤co∧co≤1099511627776:=by
    have:s4.nextAny.1=0∨(0≤s4.nextAny.1∧s4.nextAny.1≤1099511627776):=Ps.within_in (s4.expect [32]) 0 1099511627776 4
    rw [e5] at this
    simp at this
    omega
  have hb:0≤cb∧cb≤1099511627776:=by
    have:s6.nextAny.1=0∨(0≤s6.nextAny.1∧s6.nextAny.1≤1099511627776):=Ps.within_in (s6.expect [32]) 0 1099511627776 4
    rw [e7] at this
    simp at this
    omega
  rw [e1] at H0
  have HV:=Lib.hid (fun (W:World) (h:PAt dep p r g m V N W s1)=>e2 ▸ within_any 0 2000 10 h hd)
  have HI:=Lib.hid (fun (W:World) (h:PAt dep p r g m v N W s2)=>e3 ▸ nextWithin_any 0 2000 10 h hd)
  have HL:=Lib.hid (fun (W:World) (h:PAt dep p r g m v N W s3)=>e4 ▸ nextWithin_any 0 2000 10 h hd)
  have HO:=Lib.hid (fun (W:World) (h:PAt dep p r g m v N W s4)=>e5 ▸ nextAny_any h hd)
  have HA:=Lib.hid (fun (W:World) (h:PAt dep p r g m v N W s5)=>e6 ▸ nextWithin_any 0 2000 10 h hd)
  have HBD:=Lib.hid (fun (W:World) (h:PAt dep p r g m v N W s6)=>e7 ▸ nextAny_any h hd)
  have HCC:=Lib.hid (fun (W:World) (h:PAt dep p r g m v N W s7)=>e8 ▸ nextWithin_any 0 (1000 - co - cb) 10 h hd)
  obtain ⟨hv0,hv1⟩:=hv
  obtain ⟨ho0,ho1⟩:=ho
  obtain ⟨hb0,hb1⟩:=hb
  clear h e1 e2 e3 e4 e5 e6 e7 e8
  cases b with
  | true =>
    have HM:=Lib.hid (fun (W:World) (h:PAt dep p r g m v N W s8)=>(show s8.nextWithin 1 4 10=(cm,s9) from e9) ▸ nextWithin_any 1 4 10 h hd)
    clear e9
    go_enter Tryz.func121,Tryz.ntmps121
    go_wp2_with (first
      | (go_at_call 171;refine H0.out.mono ?_;rintro e w1 ⟨rfl,hP,hK⟩;have HB1:=Lib.hid (HB.out.call hP hK);clear hP hK)
      | (go_at_call 172;refine (HV.out _ HB1.out.one.pat).mono ?_;rintro e w2 ⟨rfl,hP,hK⟩;have hB:=HB1.out.call hP hK;obtain ⟨ev2,-,-,d1,-,df⟩:=hP.cells;have f1:=df 1;have HB3:=Lib.hid (hB.setV hv0 hv1);clear hP hK hB df HB1)
      | (go_at_call 173;refine (HI.out _ HB3.out.one.pat).mono ?_;clear HI;rintro e w3 ⟨rfl,hP,hK⟩;have hB:=HB3.out.call hP hK;have c0:=hB.cell2 (j:=0) (v:=.int .i64 0) rfl;have f0':=hB.free2 0;have HB4:=Lib.hid (hB.set2 0 (.int .i64 ci));clear hP hK hB HB3)
      | (go_at_call 173;refine (HL.out _ HB4.out.one.pat).mono ?_;clear HL;rintro e w4 ⟨rfl,hP,hK⟩;have hB:=HB4.out.call hP hK;have c1:=hB.cell2 (j:=1) (v:=.int .i64 0) rfl;have f1':=hB.free2 1;have HB5:=Lib.hid (hB.set2 1 (.int .i64 cl));clear hP hK hB HB4)
      | (go_at_call 174;refine (HO.out _ HB5.out.one.pat).mono ?_;clear HO;rintro e w5 ⟨rfl,hP,hK⟩;have hB:=HB5.out.call hP hK;have c2:=hB.cell2 (j:=2) (v:=.int .i64 0) rfl;have f2':=hB.free2 2;have HB6:=Lib.hid (hB.set2 2 (.int .i64 co));clear hP hK hB HB5)
      | (go_at_call 173;refine (HA.out _ HB6.out.one.pat).mono ?_;clear HA;rintro e w6 ⟨rfl,hP,hK⟩;have hB:=HB6.out.call hP hK;have c3:=hB.cell2 (j:=3) (v:=.int .i64 0) rfl;have f3':=hB.free2 3;have HB7:=Lib.hid (hB.set2 3 (.int .i64 ca));clear hP hK hB HB6)
      | (go_at_call 174;refine (HBD.out _ HB7.out.one.pat).mono ?_;clear HBD;rintro e w7 ⟨rfl,hP,hK⟩;have hB:=HB7.out.call hP hK;have c4:=hB.cell2 (j:=4) (v:=.int .i64 0) rfl;have f4':=hB.free2 4;have HB8:=Lib.hid (hB.set2 4 (.int .i64 cb));have q2:=HB8.out.cell2 (j:=2) (v:=.int .i64 co) rfl;have q4:=HB8.out.cell2 (j:=4) (v:=.int .i64 cb) rfl;clear hP hK hB HB7)
      | (go_at_call 173;refine (HCC.out _ HB8.out.one.pat).mono ?_;clear HCC;rintro e w8 ⟨rfl,hP,hK⟩;have hB:=HB8.out.call hP hK;have c5:=hB.cell2 (j:=5) (v:=.int .i64 0) rfl;have f5':=hB.free2 5;have HB9:=Lib.hid (hB.set2 5 (.int .i64 cc));clear hP hK hB HB8)
      | (go_at_call 173;refine (HM.out _ HB9.out.one.pat).mono ?_;clear HM;rintro e w9 ⟨rfl,hP,hK⟩;have hB:=HB9.out.call hP hK;have c6:=hB.cell2 (j:=6) (v:=.int .i64 0) rfl;have f6':=hB.free2 6;have HB10:=Lib.hid (hB.set2 6 (.int .i64 cm));have q0:=HB10.out.cell2 (j:=0) (v:=.int .i64 ci) rfl;have q1:=HB10.out.cell2 (j:=1) (v:=.int .i64 cl) rfl;have q2:=HB10.out.cell2 (j:=2) (v:=.int .i64 co) rfl;have q3:=HB10.out.cell2 (j:=3) (v:=.int .i64 ca) rfl;have q4:=HB10.out.cell2 (j:=4) (v:=.int .i64 cb) rfl;have q5:=HB10.out.cell2 (j:=5) (v:=.int .i64 cc) rfl;have q6:=HB10.out.cell2 (j:=6) (v:=.int .i64 cm) rfl;have u0:=HB10.out.one.cell (j:=0) (v:=.int .i64 0) rfl;have v0:=HB10.out.one.free 0;have u1:=HB10.out.one.cell (j:=1) (v:=.int .i64 0) rfl;have v1:=HB10.out.one.free 1;have u2:=HB10.out.one.cell (j:=2) (v:=.int .i64 0) rfl;have v2:=HB10.out.one.free 2;have u3:=HB10.out.one.cell (j:=3) (v:=.int .i64 0) rfl;have v3:=HB10.out.one.free 3;have u4:=HB10.out.one.cell (j:=4) (v:=.int .i64 0) rfl;have v4:=HB10.out.one.free 4;have u5:=HB10.out.one.cell (j:=5) (v:=.int .i64 0) rfl;have v5:=HB10.out.one.free 5;have u6:=HB10.out.one.cell (j:=6) (v:=.int .i64 0) rfl;have v6:=HB10.out.one.free 6;clear hP hK hB HB9))
    try simp only [Exit.inBlock,Exit.then]
    have HC:=(((((((HB10.out.set 0 (.int .i64 ci)).set 1 (.int .i64 cl)).set 2 (.int .i64 co)).set 3 (.int .i64 ca)).set 4 (.int .i64 cb)).set 5 (.int .i64 cc)).set 6 (.int .i64 cm))
    refine bodyPost_ret (results_cell_row rfl _ _ w.heap.size 124 _ (0,0) _ rfl HC.one.row Tryz.underlying124 rfl (by kernel_rfl)) rfl ?_
    exact ⟨rfl,HC.one.pat,HC.one.kept⟩
  | false =>
    obtain ⟨rfl,rfl⟩:0=cm∧s8=s9:=by
      have:=e9
      unfold Ps.mems at this
      simpa using this
    clear e9
    go_enter Tryz.func121,Tryz.ntmps121
    go_wp2_with (first
      | (go_at_call 171;refine H0.out.mono ?_;rintro e w1 ⟨rfl,hP,hK⟩;have HB1:=Lib.hid (HB.out.call hP hK);clear hP hK)
      | (go_at_call 172;refine (HV.out _ HB1.out.one.pat).mono ?_;rintro e w2 ⟨rfl,hP,hK⟩;have hB:=HB1.out.call hP hK;obtain ⟨ev2,-,-,d1,-,df⟩:=hP.cells;have f1:=df 1;have HB3:=Lib.hid (hB.setV hv0 hv1);clear hP hK hB df HB1)
      | (go_at_call 173;refine (HI.out _ HB3.out.one.pat).mono ?_;clear HI;rintro e w3 ⟨rfl,hP,hK⟩;have hB:=HB3.out.call hP hK;have c0:=hB.cell2 (j:=0) (v:=.int .i64 0) rfl;have f0':=hB.free2 0;have HB4:=Lib.hid (hB.set2 0 (.int .i64 ci));clear hP hK hB HB3)
      | (go_at_call 173;refine (HL.out _ HB4.out.one.pat).mono ?_;clear HL;rintro e w4 ⟨rfl,hP,hK⟩;have hB:=HB4.out.call hP hK;have c1:=hB.cell2 (j:=1) (v:=.int .i64 0) rfl;have f1':=hB.free2 1;have HB5:=Lib.hid (hB.set2 1 (.int .i64 cl));clear hP hK hB HB4)
      | (go_at_call 174;refine (HO.out _ HB5.out.one.pat).mono ?_;clear HO;rintro e w5 ⟨rfl,hP,hK⟩;have hB:=HB5.out.call hP hK;have c2:=hB.cell2 (j:=2) (v:=.int .i64 0) rfl;have f2':=hB.free2 2;have HB6:=Lib.hid (hB.set2 2 (.int .i64 co));clear hP hK hB HB5)
      | (go_at_call 173;refine (HA.out _ HB6.out.one.pat).mono ?_;clear HA;rintro e w6 ⟨rfl,hP,hK⟩;have hB:=HB6.out.call hP hK;have c3:=hB.cell2 (j:=3) (v:=.int .i64 0) rfl;have f3':=hB.free2 3;have HB7:=Lib.hid (hB.set2 3 (.int .i64 ca));clear hP hK hB HB6)
      | (go_at_call 174;refine (HBD.out _ HB7.out.one.pat).mono ?_;clear HBD;rintro e w7 ⟨rfl,hP,hK⟩;have hB:=HB7.out.call hP hK;have c4:=hB.cell2 (j:=4) (v:=.int .i64 0) rfl;have f4':=hB.free2 4;have HB8:=Lib.hid (hB.set2 4 (.int .i64 cb));have q2:=HB8.out.cell2 (j:=2) (v:=.int .i64 co) rfl;have q4:=HB8.out.cell2 (j:=4) (v:=.int .i64 cb) rfl;clear hP hK hB HB7)
      | (go_at_call 173;refine (HCC.out _ HB8.out.one.pat).mono ?_;clear HCC;rintro e w8 ⟨rfl,hP,hK⟩;have hB:=HB8.out.call hP hK;have c5:=hB.cell2 (j:=5) (v:=.int .i64 0) rfl;have f5':=hB.free2 5;have HB9:=Lib.hid (hB.set2 5 (.int .i64 cc));have q0:=HB9.out.cell2 (j:=0) (v:=.int .i64 ci) rfl;have q1:=HB9.out.cell2 (j:=1) (v:=.int .i64 cl) rfl;have q2:=HB9.out.cell2 (j:=2) (v:=.int .i64 co) rfl;have q3:=HB9.out.cell2 (j:=3) (v:=.int .i64 ca) rfl;have q4:=HB9.out.cell2 (j:=4) (v:=.int .i64 cb) rfl;have q5:=HB9.out.cell2 (j:=5) (v:=.int .i64 cc) rfl;have q6:=HB9.out.cell2 (j:=6) (v:=.int .i64 0) rfl;have u0:=HB9.out.one.cell (j:=0) (v:=.int .i64 0) rfl;have v0:=HB9.out.one.free 0;have u1:=HB9.out.one.cell (j:=1) (v:=.int .i64 0) rfl;have v1:=HB9.out.one.free 1;have u2:=HB9.out.one.cell (j:=2) (v:=.int .i64 0) rfl;have v2:=HB9.out.one.free 2;have u3:=HB9.out.one.cell (j:=3) (v:=.int .i64 0) rfl;have v3:=HB9.out.one.free 3;have u4:=HB9.out.one.cell (j:=4) (v:=.int .i64 0) rfl;have v4:=HB9.out.one.free 4;have u5:=HB9.out.one.cell (j:=5) (v:=.int .i64 0) rfl;have v5:=HB9.out.one.free 5;have u6:=HB9.out.one.cell (j:=6) (v:=.int .i64 0) rfl;have v6:=HB9.out.one.free 6;clear hP hK hB HB8))
    try simp only [Exit.inBlock,Exit.then]
    have HC:=(((((((HB9.out.set 0 (.int .i64 ci)).set 1 (.int .i64 cl)).set 2 (.int .i64 co)).set 3 (.int .i64 ca)).set 4 (.int .i64 cb)).set 5 (.int .i64 cc)).set 6 (.int .i64 0))
    refine bodyPost_ret (results_cell_row rfl _ _ w.heap.size 124 _ (0,0) _ rfl HC.one.row Tryz.underlying124 rfl (by kernel_rfl)) rfl ?_
    exact ⟨rfl,HC.one.pat,HC.one.kept⟩
end
end Go.Proofs.YtldnepogjnahfaaGreatDoor
