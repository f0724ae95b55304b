/- The document's own reader of texts by contracts: Shape (conditions: the reader lies in memory; at most 400000 bytes). -/
import Derived.Test.YtldnepogjnahfaaGreatDoorVQx
import Derived.Test.YtldnepogjnahfaaGreatDoorVTx
set_option linter.unusedVariables false
namespace Go.Proofs.YtldnepogjnahfaaGreatDoor
open Go.ChangeShapes Go.WideShapes Go.RowKit
def Ps.widthQ (hi:Int) (s:Ps):Int × Ps:=((s.num maxN).1.1,if (s.num maxN).1.1<1∨hi<(s.num maxN).1.1 then (s.num maxN).2.refuse 9 (s.num maxN).1.2 else (s.num maxN).2)
def Ps.shapeQ (s:Ps):PShape × Ps :=
  let a:=(s.expect [109,32]).widthQ 62
  let b:=(a.2.expect [32]).widthQ 64
  let c:=(b.2.expect [32]).num 1
  let d:=(c.2.expect [32]).within 0 4 10
  let f:=(d.2.expect [32]).within 0 4 10
  (⟨a.1,b.1,c.1.1 == 1,d.1,f.1⟩,f.2.expect [10])
theorem sb_m2:Sc.sbytes ⟨#[109,32]⟩=[109,32]:=by decide
theorem sb_r2:Sc.sbytes ⟨#[114,32]⟩=[114,32]:=by decide
section
variable {x y g B:Nat} {xs:List Int} {mk:Bool} {V:Int} {w:World} {s:Ps}
set_option maxRecDepth 100000 in
set_option maxHeartbeats 16000000 in
theorem shape7_any (h:RAt x y g B xs mk V w s) (hg:g<w.heap.size) :
    Calls Tryz.prog 85 #[.pointer (some ⟨x,0,none⟩)] w (RStep x y g B xs mk V w (.tuple #[.agg #[.int .i64 s.shapeQ.1.sa,.int .i64 s.shapeQ.1.sw,.bool s.shapeQ.1.sn,.slice none 0 0,.slice none 0 0],.int .i64 s.shapeQ.1.sr,.int .i64 s.shapeQ.1.sx]) s.shapeQ.2):=by
  have HB:=Lib.hid (R2.new (cs:=#[.int .i64 0,.int .i64 0,.bool false,.slice none 0 0,.slice none 0 0]) (cs2:=#[.int .i64 0,.int .i64 0,.bool false,.slice none 0 0,.slice none 0 0]) (t:=54) h hg)
  have hl:s.shapeQ=(⟨((s.expect [109,32]).widthQ 62).1,((((s.expect [109,32]).widthQ 62).2.expect [32]).widthQ 64).1,((((((s.expect [109,32]).widthQ 62).2.expect [32]).widthQ 64).2.expect [32]).num 1).1.1 == 1,((((((((s.expect [109,32]).widthQ 62).2.expect [32]).widthQ 64).2.expect [32]).num 1).2.expect [32]).within 0 4 10).1,((((((((((s.expect [109,32]).widthQ 62).2.expect [32]).widthQ 64).2.expect [32]).num 1).2.expect [32]).within 0 4 10).2.expect [32]).within 0 4 10).1⟩,((((((((((s.expect [109,32]).widthQ 62).2.expect [32]).widthQ 64).2.expect [32]).num 1).2.expect [32]).within 0 4 10).2.expect [32]).within 0 4 10).2.expect [10]):=rfl
  rw [hl]
  have HE0:=Lib.hid (sb_m2 ▸ rwant7_any ⟨#[109,32]⟩ (by decide) HB.out.pat)
  have HSP:=Lib.hid (fun (W:World) (t:Ps) (h:RAt x y g B xs mk V W t)=>sb_space ▸ rwant7_any ⟨#[32]⟩ (by decide) h)
  have HLF:=Lib.hid (fun (W:World) (t:Ps) (h:RAt x y g B xs mk V W t)=>sb_lf ▸ rwant7_any ⟨#[10]⟩ (by decide) h)
  have HN:=Lib.hid (fun (W:World) (t:Ps) (h:RAt x y g B xs mk V W t)=>num7_any maxN (by decide) (by decide) h)
  have HN1:=Lib.hid (fun (W:World) (t:Ps) (h:RAt x y g B xs mk V W t)=>num7_any 1 (by decide) (by decide) h)
  have HU:=Lib.hid (fun (W:World) (t:Ps) (h:RAt x y g B xs mk V W t)=>upto_any 4 (by decide) h)
  rw [show maxN=(1099511627776:Int) from rfl] at HN
  clear h hl
  unfold Ps.widthQ
  rw [show maxN=(1099511627776:Int) from rfl]
  generalize s.expect [109,32]=s1 at *
  obtain ⟨⟨⟨n1,a1⟩,t1⟩,e1⟩:∃ X,s1.num 1099511627776=X:=⟨_,rfl⟩
  have HN_1:=Lib.hid (fun (W:World) (h:RAt x y g B xs mk V W s1)=>e1 ▸ HN.out W s1 h)
  rw [e1]
  dsimp only
  clear e1
  by_cases g11:n1<1
  · have g1:n1<1∨62<n1:=.inl g11
    rw [if_pos g1]
    clear g1
    obtain ⟨s2,e2⟩:∃ X,(t1.refuse 9 a1).expect [32]=X:=⟨_,rfl⟩
    have HE1:=Lib.hid (fun (W:World) (h:RAt x y g B xs mk V W (t1.refuse 9 a1))=>e2 ▸ HSP.out W (t1.refuse 9 a1) h)
    rw [e2]
    obtain ⟨⟨⟨n2,a2⟩,t2⟩,e3⟩:∃ X,s2.num 1099511627776=X:=⟨_,rfl⟩
    have HN_2:=Lib.hid (fun (W:World) (h:RAt x y g B xs mk V W s2)=>e3 ▸ HN.out W s2 h)
    rw [e3]
    dsimp only
    clear e2 e3
    by_cases g21:n2<1
    · have g2:n2<1∨64<n2:=.inl g21
      rw [if_pos g2]
      clear g2
      obtain ⟨s3,e4⟩:∃ X,(t2.refuse 9 a2).expect [32]=X:=⟨_,rfl⟩
      have HE2:=Lib.hid (fun (W:World) (h:RAt x y g B xs mk V W (t2.refuse 9 a2))=>e4 ▸ HSP.out W (t2.refuse 9 a2) h)
      rw [e4]
      obtain ⟨⟨⟨n3,a3⟩,t3⟩,e5⟩:∃ X,s3.num 1=X:=⟨_,rfl⟩
      have HN_3:=Lib.hid (fun (W:World) (h:RAt x y g B xs mk V W s3)=>e5 ▸ HN1.out W s3 h)
      rw [e5]
      dsimp only
      obtain ⟨s4,e6⟩:∃ X,t3.expect [32]=X:=⟨_,rfl⟩
      have HE3:=Lib.hid (fun (W:World) (h:RAt x y g B xs mk V W t3)=>e6 ▸ HSP.out W t3 h)
      rw [e6]
      obtain ⟨⟨n4,t4⟩,e7⟩:∃ X,s4.within 0 4 10=X:=⟨_,rfl⟩
      have HU1:=Lib.hid (fun (W:World) (h:RAt x y g B xs mk V W s4)=>e7 ▸ HU.out W s4 h)
      rw [e7]
      dsimp only
      obtain ⟨s5,e8⟩:∃ X,t4.expect [32]=X:=⟨_,rfl⟩
      have HE4:=Lib.hid (fun (W:World) (h:RAt x y g B xs mk V W t4)=>e8 ▸ HSP.out W t4 h)
      rw [e8]
      obtain ⟨⟨n5,t5⟩,e9⟩:∃ X,s5.within 0 4 10=X:=⟨_,rfl⟩
      have HU2:=Lib.hid (fun (W:World) (h:RAt x y g B xs mk V W s5)=>e9 ▸ HU.out W s5 h)
      rw [e9]
      dsimp only
      clear e4 e5 e6 e7 e8 e9 HSP HN HN1 HU
      go_enter Tryz.func85,Tryz.ntmps85
      go_wp2_with (first
        | (go_at_call 44;refine HE0.out.mono ?_;clear HE0;rintro e w1 ⟨rfl,hP,hK⟩;have HB1:=Lib.hid (HB.out.call hP hK);clear hP hK HB)
        | (go_at_call 82;refine (HN_1.out _ HB1.out.pat).mono ?_;clear HN_1;rintro e w2 ⟨rfl,hP,hK⟩;have hB:=HB1.out.call hP hK;have HB2:=Lib.hid hB;clear hP hK hB HB1)
        | (go_at_call 65;refine (fail_any 9 a1 (by decide) HB2.out.pat).mono ?_;rintro e w3 ⟨rfl,hP,hK⟩;have hB:=HB2.out.call hP hK;have c0:=hB.cell2 (j:=0) rfl;have f0:=hB.free2 0;have HB3:=Lib.hid (hB.set2 0 (.int .i64 n1));clear hP hK hB HB2)
        | (go_at_call 44;refine (HE1.out _ HB3.out.pat).mono ?_;clear HE1;rintro e w4 ⟨rfl,hP,hK⟩;have HB4:=Lib.hid (HB3.out.call hP hK);clear hP hK HB3)
        | (go_at_call 82;refine (HN_2.out _ HB4.out.pat).mono ?_;clear HN_2;rintro e w5 ⟨rfl,hP,hK⟩;have hB:=HB4.out.call hP hK;have HB5:=Lib.hid hB;clear hP hK hB HB4)
        | (go_at_call 65;refine (fail_any 9 a2 (by decide) HB5.out.pat).mono ?_;rintro e w6 ⟨rfl,hP,hK⟩;have hB:=HB5.out.call hP hK;have c1:=hB.cell2 (j:=1) rfl;have f1:=hB.free2 1;have HB6:=Lib.hid (hB.set2 1 (.int .i64 n2));clear hP hK hB HB5)
        | (go_at_call 44;refine (HE2.out _ HB6.out.pat).mono ?_;clear HE2;rintro e w7 ⟨rfl,hP,hK⟩;have HB7:=Lib.hid (HB6.out.call hP hK);clear hP hK HB6)
        | (go_at_call 82;refine (HN_3.out _ HB7.out.pat).mono ?_;clear HN_3;rintro e w8 ⟨rfl,hP,hK⟩;have hB:=HB7.out.call hP hK;have c2:=hB.cell2 (j:=2) rfl;have f2:=hB.free2 2;have HB8:=Lib.hid (hB.set2 2 (.bool (n3 == 1)));clear hP hK hB HB7)
        | (go_at_call 44;refine (HE3.out _ HB8.out.pat).mono ?_;clear HE3;rintro e w9 ⟨rfl,hP,hK⟩;have HB9:=Lib.hid (HB8.out.call hP hK);clear hP hK HB8)
        | (go_at_call 81;refine (HU1.out _ HB9.out.pat).mono ?_;clear HU1;rintro e w10 ⟨rfl,hP,hK⟩;have HB10:=Lib.hid (HB9.out.call hP hK);clear hP hK HB9)
        | (go_at_call 44;refine (HE4.out _ HB10.out.pat).mono ?_;clear HE4;rintro e w11 ⟨rfl,hP,hK⟩;have HB11:=Lib.hid (HB10.out.call hP hK);clear hP hK HB10)
        | (go_at_call 81;refine (HU2.out _ HB11.out.pat).mono ?_;clear HU2;rintro e w12 ⟨rfl,hP,hK⟩;have HB12:=Lib.hid (HB11.out.call hP hK);clear hP hK HB11)
        | (go_at_call 44;refine (HLF.out _ _ HB12.out.pat).mono ?_;rintro e w13 ⟨rfl,hP,hK⟩;have HB13:=Lib.hid (HB12.out.call hP hK);have u0:=HB13.out.cell2 (j:=0) (v:=.int .i64 n1) rfl;have k0:=HB13.out.cell (j:=0) rfl;have j0:=HB13.out.free 0;have u1:=HB13.out.cell2 (j:=1) (v:=.int .i64 n2) rfl;have k1:=HB13.out.cell (j:=1) rfl;have j1:=HB13.out.free 1;have u2:=HB13.out.cell2 (j:=2) (v:=.bool (n3 == 1)) rfl;have k2:=HB13.out.cell (j:=2) rfl;have j2:=HB13.out.free 2;have u3:=HB13.out.cell2 (j:=3) (v:=.slice none 0 0) rfl;have k3:=HB13.out.cell (j:=3) rfl;have j3:=HB13.out.free 3;have u4:=HB13.out.cell2 (j:=4) (v:=.slice none 0 0) rfl;have k4:=HB13.out.cell (j:=4) rfl;have j4:=HB13.out.free 4;clear hP hK HB12))
      try simp only [Exit.inBlock,Exit.then]
      have HC:=(((((HB13.out.set 0 (.int .i64 n1)).set 1 (.int .i64 n2)).set 2 (.bool (n3 == 1))).set 3 (.slice none 0 0)).set 4 (.slice none 0 0))
      refine bodyPost_ret (results_net rfl _ _ w.heap.size 54 _ (0,0) _ rfl HC.row Tryz.underlying54 rfl (by kernel_rfl) (.int .i64 n4) (.int .i64 n5) rfl rfl) rfl ?_
      exact ⟨rfl,HC.pat,HC.kept⟩
    · by_cases g22:64<n2
      · have g20:¬ n2<1:=by omega
        have g2:n2<1∨64<n2:=.inr g22
        rw [if_pos g2]
        clear g2
        obtain ⟨s3,e4⟩:∃ X,(t2.refuse 9 a2).expect [32]=X:=⟨_,rfl⟩
        have HE2:=Lib.hid (fun (W:World) (h:RAt x y g B xs mk V W (t2.refuse 9 a2))=>e4 ▸ HSP.out W (t2.refuse 9 a2) h)
        rw [e4]
        obtain ⟨⟨⟨n3,a3⟩,t3⟩,e5⟩:∃ X,s3.num 1=X:=⟨_,rfl⟩
        have HN_3:=Lib.hid (fun (W:World) (h:RAt x y g B xs mk V W s3)=>e5 ▸ HN1.out W s3 h)
        rw [e5]
        dsimp only
        obtain ⟨s4,e6⟩:∃ X,t3.expect [32]=X:=⟨_,rfl⟩
        have HE3:=Lib.hid (fun (W:World) (h:RAt x y g B xs mk V W t3)=>e6 ▸ HSP.out W t3 h)
        rw [e6]
        obtain ⟨⟨n4,t4⟩,e7⟩:∃ X,s4.within 0 4 10=X:=⟨_,rfl⟩
        have HU1:=Lib.hid (fun (W:World) (h:RAt x y g B xs mk V W s4)=>e7 ▸ HU.out W s4 h)
        rw [e7]
        dsimp only
        obtain ⟨s5,e8⟩:∃ X,t4.expect [32]=X:=⟨_,rfl⟩
        have HE4:=Lib.hid (fun (W:World) (h:RAt x y g B xs mk V W t4)=>e8 ▸ HSP.out W t4 h)
        rw [e8]
        obtain ⟨⟨n5,t5⟩,e9⟩:∃ X,s5.within 0 4 10=X:=⟨_,rfl⟩
        have HU2:=Lib.hid (fun (W:World) (h:RAt x y g B xs mk V W s5)=>e9 ▸ HU.out W s5 h)
        rw [e9]
        dsimp only
        clear e4 e5 e6 e7 e8 e9 HSP HN HN1 HU
        go_enter Tryz.func85,Tryz.ntmps85
        go_wp2_with (first
          | (go_at_call 44;refine HE0.out.mono ?_;clear HE0;rintro e w1 ⟨rfl,hP,hK⟩;have HB1:=Lib.hid (HB.out.call hP hK);clear hP hK HB)
          | (go_at_call 82;refine (HN_1.out _ HB1.out.pat).mono ?_;clear HN_1;rintro e w2 ⟨rfl,hP,hK⟩;have hB:=HB1.out.call hP hK;have HB2:=Lib.hid hB;clear hP hK hB HB1)
          | (go_at_call 65;refine (fail_any 9 a1 (by decide) HB2.out.pat).mono ?_;rintro e w3 ⟨rfl,hP,hK⟩;have hB:=HB2.out.call hP hK;have c0:=hB.cell2 (j:=0) rfl;have f0:=hB.free2 0;have HB3:=Lib.hid (hB.set2 0 (.int .i64 n1));clear hP hK hB HB2)
          | (go_at_call 44;refine (HE1.out _ HB3.out.pat).mono ?_;clear HE1;rintro e w4 ⟨rfl,hP,hK⟩;have HB4:=Lib.hid (HB3.out.call hP hK);clear hP hK HB3)
          | (go_at_call 82;refine (HN_2.out _ HB4.out.pat).mono ?_;clear HN_2;rintro e w5 ⟨rfl,hP,hK⟩;have hB:=HB4.out.call hP hK;have HB5:=Lib.hid hB;clear hP hK hB HB4)
          | (go_at_call 65;refine (fail_any 9 a2 (by decide) HB5.out.pat).mono ?_;rintro e w6 ⟨rfl,hP,hK⟩;have hB:=HB5.out.call hP hK;have c1:=hB.cell2 (j:=1) rfl;have f1:=hB.free2 1;have HB6:=Lib.hid (hB.set2 1 (.int .i64 n2));clear hP hK hB HB5)
          | (go_at_call 44;refine (HE2.out _ HB6.out.pat).mono ?_;clear HE2;rintro e w7 ⟨rfl,hP,hK⟩;have HB7:=Lib.hid (HB6.out.call hP hK);clear hP hK HB6)
          | (go_at_call 82;refine (HN_3.out _ HB7.out.pat).mono ?_;clear HN_3;rintro e w8 ⟨rfl,hP,hK⟩;have hB:=HB7.out.call hP hK;have c2:=hB.cell2 (j:=2) rfl;have f2:=hB.free2 2;have HB8:=Lib.hid (hB.set2 2 (.bool (n3 == 1)));clear hP hK hB HB7)
          | (go_at_call 44;refine (HE3.out _ HB8.out.pat).mono ?_;clear HE3;rintro e w9 ⟨rfl,hP,hK⟩;have HB9:=Lib.hid (HB8.out.call hP hK);clear hP hK HB8)
          | (go_at_call 81;refine (HU1.out _ HB9.out.pat).mono ?_;clear HU1;rintro e w10 ⟨rfl,hP,hK⟩;have HB10:=Lib.hid (HB9.out.call hP hK);clear hP hK HB9)
          | (go_at_call 44;refine (HE4.out _ HB10.out.pat).mono ?_;clear HE4;rintro e w11 ⟨rfl,hP,hK⟩;have HB11:=Lib.hid (HB10.out.call hP hK);clear hP hK HB10)
          | (go_at_call 81;refine (HU2.out _ HB11.out.pat).mono ?_;clear HU2;rintro e w12 ⟨rfl,hP,hK⟩;have HB12:=Lib.hid (HB11.out.call hP hK);clear hP hK HB11)
          | (go_at_call 44;refine (HLF.out _ _ HB12.out.pat).mono ?_;rintro e w13 ⟨rfl,hP,hK⟩;have HB13:=Lib.hid (HB12.out.call hP hK);have u0:=HB13.out.cell2 (j:=0) (v:=.int .i64 n1) rfl;have k0:=HB13.out.cell (j:=0) rfl;have j0:=HB13.out.free 0;have u1:=HB13.out.cell2 (j:=1) (v:=.int .i64 n2) rfl;have k1:=HB13.out.cell (j:=1) rfl;have j1:=HB13.out.free 1;have u2:=HB13.out.cell2 (j:=2) (v:=.bool (n3 == 1)) rfl;have k2:=HB13.out.cell (j:=2) rfl;have j2:=HB13.out.free 2;have u3:=HB13.out.cell2 (j:=3) (v:=.slice none 0 0) rfl;have k3:=HB13.out.cell (j:=3) rfl;have j3:=HB13.out.free 3;have u4:=HB13.out.cell2 (j:=4) (v:=.slice none 0 0) rfl;have k4:=HB13.out.cell (j:=4) rfl;have j4:=HB13.out.free 4;clear hP hK HB12))
        try simp only [Exit.inBlock,Exit.then]
        have HC:=(((((HB13.out.set 0 (.int .i64 n1)).set 1 (.int .i64 n2)).set 2 (.bool (n3 == 1))).set 3 (.slice none 0 0)).set 4 (.slice none 0 0))
        refine bodyPost_ret (results_net rfl _ _ w.heap.size 54 _ (0,0) _ rfl HC.row Tryz.underlying54 rfl (by kernel_rfl) (.int .i64 n4) (.int .i64 n5) rfl rfl) rfl ?_
        exact ⟨rfl,HC.pat,HC.kept⟩
      · have g20:¬ n2<1:=by omega
        have g2:¬ (n2<1∨64<n2):=by omega
        have g23:¬ 64<n2:=by omega
        rw [if_neg g2]
        clear g2
        obtain ⟨s3,e4⟩:∃ X,t2.expect [32]=X:=⟨_,rfl⟩
        have HE2:=Lib.hid (fun (W:World) (h:RAt x y g B xs mk V W t2)=>e4 ▸ HSP.out W t2 h)
        rw [e4]
        obtain ⟨⟨⟨n3,a3⟩,t3⟩,e5⟩:∃ X,s3.num 1=X:=⟨_,rfl⟩
        have HN_3:=Lib.hid (fun (W:World) (h:RAt x y g B xs mk V W s3)=>e5 ▸ HN1.out W s3 h)
        rw [e5]
        dsimp only
        obtain ⟨s4,e6⟩:∃ X,t3.expect [32]=X:=⟨_,rfl⟩
        have HE3:=Lib.hid (fun (W:World) (h:RAt x y g B xs mk V W t3)=>e6 ▸ HSP.out W t3 h)
        rw [e6]
        obtain ⟨⟨n4,t4⟩,e7⟩:∃ X,s4.within 0 4 10=X:=⟨_,rfl⟩
        have HU1:=Lib.hid (fun (W:World) (h:RAt x y g B xs mk V W s4)=>e7 ▸ HU.out W s4 h)
        rw [e7]
        dsimp only
        obtain ⟨s5,e8⟩:∃ X,t4.expect [32]=X:=⟨_,rfl⟩
        have HE4:=Lib.hid (fun (W:World) (h:RAt x y g B xs mk V W t4)=>e8 ▸ HSP.out W t4 h)
        rw [e8]
        obtain ⟨⟨n5,t5⟩,e9⟩:∃ X,s5.within 0 4 10=X:=⟨_,rfl⟩
        have HU2:=Lib.hid (fun (W:World) (h:RAt x y g B xs mk V W s5)=>e9 ▸ HU.out W s5 h)
        rw [e9]
        dsimp only
        clear e4 e5 e6 e7 e8 e9 HSP HN HN1 HU
        go_enter Tryz.func85,Tryz.ntmps85
        go_wp2_with (first
          | (go_at_call 44;refine HE0.out.mono ?_;clear HE0;rintro e w1 ⟨rfl,hP,hK⟩;have HB1:=Lib.hid (HB.out.call hP hK);clear hP hK HB)
          | (go_at_call 82;refine (HN_1.out _ HB1.out.pat).mono ?_;clear HN_1;rintro e w2 ⟨rfl,hP,hK⟩;have hB:=HB1.out.call hP hK;have HB2:=Lib.hid hB;clear hP hK hB HB1)
          | (go_at_call 65;refine (fail_any 9 a1 (by decide) HB2.out.pat).mono ?_;rintro e w3 ⟨rfl,hP,hK⟩;have hB:=HB2.out.call hP hK;have c0:=hB.cell2 (j:=0) rfl;have f0:=hB.free2 0;have HB3:=Lib.hid (hB.set2 0 (.int .i64 n1));clear hP hK hB HB2)
          | (go_at_call 44;refine (HE1.out _ HB3.out.pat).mono ?_;clear HE1;rintro e w4 ⟨rfl,hP,hK⟩;have HB4:=Lib.hid (HB3.out.call hP hK);clear hP hK HB3)
          | (go_at_call 82;refine (HN_2.out _ HB4.out.pat).mono ?_;clear HN_2;rintro e w5 ⟨rfl,hP,hK⟩;have hB:=HB4.out.call hP hK;have c1:=hB.cell2 (j:=1) rfl;have f1:=hB.free2 1;have HB5:=Lib.hid (hB.set2 1 (.int .i64 n2));clear hP hK hB HB4)
          | (go_at_call 44;refine (HE2.out _ HB5.out.pat).mono ?_;clear HE2;rintro e w7 ⟨rfl,hP,hK⟩;have HB7:=Lib.hid (HB5.out.call hP hK);clear hP hK HB5)
          | (go_at_call 82;refine (HN_3.out _ HB7.out.pat).mono ?_;clear HN_3;rintro e w8 ⟨rfl,hP,hK⟩;have hB:=HB7.out.call hP hK;have c2:=hB.cell2 (j:=2) rfl;have f2:=hB.free2 2;have HB8:=Lib.hid (hB.set2 2 (.bool (n3 == 1)));clear hP hK hB HB7)
          | (go_at_call 44;refine (HE3.out _ HB8.out.pat).mono ?_;clear HE3;rintro e w9 ⟨rfl,hP,hK⟩;have HB9:=Lib.hid (HB8.out.call hP hK);clear hP hK HB8)
          | (go_at_call 81;refine (HU1.out _ HB9.out.pat).mono ?_;clear HU1;rintro e w10 ⟨rfl,hP,hK⟩;have HB10:=Lib.hid (HB9.out.call hP hK);clear hP hK HB9)
          | (go_at_call 44;refine (HE4.out _ HB10.out.pat).mono ?_;clear HE4;rintro e w11 ⟨rfl,hP,hK⟩;have HB11:=Lib.hid (HB10.out.call hP hK);clear hP hK HB10)
          | (go_at_call 81;refine (HU2.out _ HB11.out.pat).mono ?_;clear HU2;rintro e w12 ⟨rfl,hP,hK⟩;have HB12:=Lib.hid (HB11.out.call hP hK);clear hP hK HB11)
          | (go_at_call 44;refine (HLF.out _ _ HB12.out.pat).mono ?_;rintro e w13 ⟨rfl,hP,hK⟩;have HB13:=Lib.hid (HB12.out.call hP hK);have u0:=HB13.out.cell2 (j:=0) (v:=.int .i64 n1) rfl;have k0:=HB13.out.cell (j:=0) rfl;have j0:=HB13.out.free 0;have u1:=HB13.out.cell2 (j:=1) (v:=.int .i64 n2) rfl;have k1:=HB13.out.cell (j:=1) rfl;have j1:=HB13.out.free 1;have u2:=HB13.out.cell2 (j:=2) (v:=.bool (n3 == 1)) rfl;have k2:=HB13.out.cell (j:=2) rfl;have j2:=HB13.out.free 2;have u3:=HB13.out.cell2 (j:=3) (v:=.slice none 0 0) rfl;have k3:=HB13.out.cell (j:=3) rfl;have j3:=HB13.out.free 3;have u4:=HB13.out.cell2 (j:=4) (v:=.slice none 0 0) rfl;have k4:=HB13.out.cell (j:=4) rfl;have j4:=HB13.out.free 4;clear hP hK HB12))
        try simp only [Exit.inBlock,Exit.then]
        have HC:=(((((HB13.out.set 0 (.int .i64 n1)).set 1 (.int .i64 n2)).set 2 (.bool (n3 == 1))).set 3 (.slice none 0 0)).set 4 (.slice none 0 0))
        refine bodyPost_ret (results_net rfl _ _ w.heap.size 54 _ (0,0) _ rfl HC.row Tryz.underlying54 rfl (by kernel_rfl) (.int .i64 n4) (.int .i64 n5) rfl rfl) rfl ?_
        exact ⟨rfl,HC.pat,HC.kept⟩
  · by_cases g12:62<n1
    · have g10:¬ n1<1:=by omega
      have g1:n1<1∨62<n1:=.inr g12
      rw [if_pos g1]
      clear g1
      obtain ⟨s2,e2⟩:∃ X,(t1.refuse 9 a1).expect [32]=X:=⟨_,rfl⟩
      have HE1:=Lib.hid (fun (W:World) (h:RAt x y g B xs mk V W (t1.refuse 9 a1))=>e2 ▸ HSP.out W (t1.refuse 9 a1) h)
      rw [e2]
      obtain ⟨⟨⟨n2,a2⟩,t2⟩,e3⟩:∃ X,s2.num 1099511627776=X:=⟨_,rfl⟩
      have HN_2:=Lib.hid (fun (W:World) (h:RAt x y g B xs mk V W s2)=>e3 ▸ HN.out W s2 h)
      rw [e3]
      dsimp only
      clear e2 e3
      by_cases g21:n2<1
      · have g2:n2<1∨64<n2:=.inl g21
        rw [if_pos g2]
        clear g2
        obtain ⟨s3,e4⟩:∃ X,(t2.refuse 9 a2).expect [32]=X:=⟨_,rfl⟩
        have HE2:=Lib.hid (fun (W:World) (h:RAt x y g B xs mk V W (t2.refuse 9 a2))=>e4 ▸ HSP.out W (t2.refuse 9 a2) h)
        rw [e4]
        obtain ⟨⟨⟨n3,a3⟩,t3⟩,e5⟩:∃ X,s3.num 1=X:=⟨_,rfl⟩
        have HN_3:=Lib.hid (fun (W:World) (h:RAt x y g B xs mk V W s3)=>e5 ▸ HN1.out W s3 h)
        rw [e5]
        dsimp only
        obtain ⟨s4,e6⟩:∃ X,t3.expect [32]=X:=⟨_,rfl⟩
        have HE3:=Lib.hid (fun (W:World) (h:RAt x y g B xs mk V W t3)=>e6 ▸ HSP.out W t3 h)
        rw [e6]
        obtain ⟨⟨n4,t4⟩,e7⟩:∃ X,s4.within 0 4 10=X:=⟨_,rfl⟩
        have HU1:=Lib.hid (fun (W:World) (h:RAt x y g B xs mk V W s4)=>e7 ▸ HU.out W s4 h)
        rw [e7]
        dsimp only
        obtain ⟨s5,e8⟩:∃ X,t4.expect [32]=X:=⟨_,rfl⟩
        have HE4:=Lib.hid (fun (W:World) (h:RAt x y g B xs mk V W t4)=>e8 ▸ HSP.out W t4 h)
        rw [e8]
        obtain ⟨⟨n5,t5⟩,e9⟩:∃ X,s5.within 0 4 10=X:=⟨_,rfl⟩
        have HU2:=Lib.hid (fun (W:World) (h:RAt x y g B xs mk V W s5)=>e9 ▸ HU.out W s5 h)
        rw [e9]
        dsimp only
        clear e4 e5 e6 e7 e8 e9 HSP HN HN1 HU
        go_enter Tryz.func85,Tryz.ntmps85
        go_wp2_with (first
          | (go_at_call 44;refine HE0.out.mono ?_;clear HE0;rintro e w1 ⟨rfl,hP,hK⟩;have HB1:=Lib.hid (HB.out.call hP hK);clear hP hK HB)
          | (go_at_call 82;refine (HN_1.out _ HB1.out.pat).mono ?_;clear HN_1;rintro e w2 ⟨rfl,hP,hK⟩;have hB:=HB1.out.call hP hK;have HB2:=Lib.hid hB;clear hP hK hB HB1)
          | (go_at_call 65;refine (fail_any 9 a1 (by decide) HB2.out.pat).mono ?_;rintro e w3 ⟨rfl,hP,hK⟩;have hB:=HB2.out.call hP hK;have c0:=hB.cell2 (j:=0) rfl;have f0:=hB.free2 0;have HB3:=Lib.hid (hB.set2 0 (.int .i64 n1));clear hP hK hB HB2)
          | (go_at_call 44;refine (HE1.out _ HB3.out.pat).mono ?_;clear HE1;rintro e w4 ⟨rfl,hP,hK⟩;have HB4:=Lib.hid (HB3.out.call hP hK);clear hP hK HB3)
          | (go_at_call 82;refine (HN_2.out _ HB4.out.pat).mono ?_;clear HN_2;rintro e w5 ⟨rfl,hP,hK⟩;have hB:=HB4.out.call hP hK;have HB5:=Lib.hid hB;clear hP hK hB HB4)
          | (go_at_call 65;refine (fail_any 9 a2 (by decide) HB5.out.pat).mono ?_;rintro e w6 ⟨rfl,hP,hK⟩;have hB:=HB5.out.call hP hK;have c1:=hB.cell2 (j:=1) rfl;have f1:=hB.free2 1;have HB6:=Lib.hid (hB.set2 1 (.int .i64 n2));clear hP hK hB HB5)
          | (go_at_call 44;refine (HE2.out _ HB6.out.pat).mono ?_;clear HE2;rintro e w7 ⟨rfl,hP,hK⟩;have HB7:=Lib.hid (HB6.out.call hP hK);clear hP hK HB6)
          | (go_at_call 82;refine (HN_3.out _ HB7.out.pat).mono ?_;clear HN_3;rintro e w8 ⟨rfl,hP,hK⟩;have hB:=HB7.out.call hP hK;have c2:=hB.cell2 (j:=2) rfl;have f2:=hB.free2 2;have HB8:=Lib.hid (hB.set2 2 (.bool (n3 == 1)));clear hP hK hB HB7)
          | (go_at_call 44;refine (HE3.out _ HB8.out.pat).mono ?_;clear HE3;rintro e w9 ⟨rfl,hP,hK⟩;have HB9:=Lib.hid (HB8.out.call hP hK);clear hP hK HB8)
          | (go_at_call 81;refine (HU1.out _ HB9.out.pat).mono ?_;clear HU1;rintro e w10 ⟨rfl,hP,hK⟩;have HB10:=Lib.hid (HB9.out.call hP hK);clear hP hK HB9)
          | (go_at_call 44;refine (HE4.out _ HB10.out.pat).mono ?_;clear HE4;rintro e w11 ⟨rfl,hP,hK⟩;have HB11:=Lib.hid (HB10.out.call hP hK);clear hP hK HB10)
          | (go_at_call 81;refine (HU2.out _ HB11.out.pat).mono ?_;clear HU2;rintro e w12 ⟨rfl,hP,hK⟩;have HB12:=Lib.hid (HB11.out.call hP hK);clear hP hK HB11)
          | (go_at_call 44;refine (HLF.out _ _ HB12.out.pat).mono ?_;rintro e w13 ⟨rfl,hP,hK⟩;have HB13:=Lib.hid (HB12.out.call hP hK);have u0:=HB13.out.cell2 (j:=0) (v:=.int .i64 n1) rfl;have k0:=HB13.out.cell (j:=0) rfl;have j0:=HB13.out.free 0;have u1:=HB13.out.cell2 (j:=1) (v:=.int .i64 n2) rfl;have k1:=HB13.out.cell (j:=1) rfl;have j1:=HB13.out.free 1;have u2:=HB13.out.cell2 (j:=2) (v:=.bool (n3 == 1)) rfl;have k2:=HB13.out.cell (j:=2) rfl;have j2:=HB13.out.free 2;have u3:=HB13.out.cell2 (j:=3) (v:=.slice none 0 0) rfl;have k3:=HB13.out.cell (j:=3) rfl;have j3:=HB13.out.free 3;have u4:=HB13.out.cell2 (j:=4) (v:=.slice none 0 0) rfl;have k4:=HB13.out.cell (j:=4) rfl;have j4:=HB13.out.free 4;clear hP hK HB12))
        try simp only [Exit.inBlock,Exit.then]
        have HC:=(((((HB13.out.set 0 (.int .i64 n1)).set 1 (.int .i64 n2)).set 2 (.bool (n3 == 1))).set 3 (.slice none 0 0)).set 4 (.slice none 0 0))
        refine bodyPost_ret (results_net rfl _ _ w.heap.size 54 _ (0,0) _ rfl HC.row Tryz.underlying54 rfl (by kernel_rfl) (.int .i64 n4) (.int .i64 n5) rfl rfl) rfl ?_
        exact ⟨rfl,HC.pat,HC.kept⟩
      · by_cases g22:64<n2
        · have g20:¬ n2<1:=by omega
          have g2:n2<1∨64<n2:=.inr g22
          rw [if_pos g2]
          clear g2
          obtain ⟨s3,e4⟩:∃ X,(t2.refuse 9 a2).expect [32]=X:=⟨_,rfl⟩
          have HE2:=Lib.hid (fun (W:World) (h:RAt x y g B xs mk V W (t2.refuse 9 a2))=>e4 ▸ HSP.out W (t2.refuse 9 a2) h)
          rw [e4]
          obtain ⟨⟨⟨n3,a3⟩,t3⟩,e5⟩:∃ X,s3.num 1=X:=⟨_,rfl⟩
          have HN_3:=Lib.hid (fun (W:World) (h:RAt x y g B xs mk V W s3)=>e5 ▸ HN1.out W s3 h)
          rw [e5]
          dsimp only
          obtain ⟨s4,e6⟩:∃ X,t3.expect [32]=X:=⟨_,rfl⟩
          have HE3:=Lib.hid (fun (W:World) (h:RAt x y g B xs mk V W t3)=>e6 ▸ HSP.out W t3 h)
          rw [e6]
          obtain ⟨⟨n4,t4⟩,e7⟩:∃ X,s4.within 0 4 10=X:=⟨_,rfl⟩
          have HU1:=Lib.hid (fun (W:World) (h:RAt x y g B xs mk V W s4)=>e7 ▸ HU.out W s4 h)
          rw [e7]
          dsimp only
          obtain ⟨s5,e8⟩:∃ X,t4.expect [32]=X:=⟨_,rfl⟩
          have HE4:=Lib.hid (fun (W:World) (h:RAt x y g B xs mk V W t4)=>e8 ▸ HSP.out W t4 h)
          rw [e8]
          obtain ⟨⟨n5,t5⟩,e9⟩:∃ X,s5.within 0 4 10=X:=⟨_,rfl⟩
          have HU2:=Lib.hid (fun (W:World) (h:RAt x y g B xs mk V W s5)=>e9 ▸ HU.out W s5 h)
          rw [e9]
          dsimp only
          clear e4 e5 e6 e7 e8 e9 HSP HN HN1 HU
          go_enter Tryz.func85,Tryz.ntmps85
          go_wp2_with (first
            | (go_at_call 44;refine HE0.out.mono ?_;clear HE0;rintro e w1 ⟨rfl,hP,hK⟩;have HB1:=Lib.hid (HB.out.call hP hK);clear hP hK HB)
            | (go_at_call 82;refine (HN_1.out _ HB1.out.pat).mono ?_;clear HN_1;rintro e w2 ⟨rfl,hP,hK⟩;have hB:=HB1.out.call hP hK;have HB2:=Lib.hid hB;clear hP hK hB HB1)
            | (go_at_call 65;refine (fail_any 9 a1 (by decide) HB2.out.pat).mono ?_;rintro e w3 ⟨rfl,hP,hK⟩;have hB:=HB2.out.call hP hK;have c0:=hB.cell2 (j:=0) rfl;have f0:=hB.free2 0;have HB3:=Lib.hid (hB.set2 0 (.int .i64 n1));clear hP hK hB HB2)
            | (go_at_call 44;refine (HE1.out _ HB3.out.pat).mono ?_;clear HE1;rintro e w4 ⟨rfl,hP,hK⟩;have HB4:=Lib.hid (HB3.out.call hP hK);clear hP hK HB3)
            | (go_at_call 82;refine (HN_2.out _ HB4.out.pat).mono ?_;clear HN_2;rintro e w5 ⟨rfl,hP,hK⟩;have hB:=HB4.out.call hP hK;have HB5:=Lib.hid hB;clear hP hK hB HB4)
            | (go_at_call 65;refine (fail_any 9 a2 (by decide) HB5.out.pat).mono ?_;rintro e w6 ⟨rfl,hP,hK⟩;have hB:=HB5.out.call hP hK;have c1:=hB.cell2 (j:=1) rfl;have f1:=hB.free2 1;have HB6:=Lib.hid (hB.set2 1 (.int .i64 n2));clear hP hK hB HB5)
            | (go_at_call 44;refine (HE2.out _ HB6.out.pat).mono ?_;clear HE2;rintro e w7 ⟨rfl,hP,hK⟩;have HB7:=Lib.hid (HB6.out.call hP hK);clear hP hK HB6)
            | (go_at_call 82;refine (HN_3.out _ HB7.out.pat).mono ?_;clear HN_3;rintro e w8 ⟨rfl,hP,hK⟩;have hB:=HB7.out.call hP hK;have c2:=hB.cell2 (j:=2) rfl;have f2:=hB.free2 2;have HB8:=Lib.hid (hB.set2 2 (.bool (n3 == 1)));clear hP hK hB HB7)
            | (go_at_call 44;refine (HE3.out _ HB8.out.pat).mono ?_;clear HE3;rintro e w9 ⟨rfl,hP,hK⟩;have HB9:=Lib.hid (HB8.out.call hP hK);clear hP hK HB8)
            | (go_at_call 81;refine (HU1.out _ HB9.out.pat).mono ?_;clear HU1;rintro e w10 ⟨rfl,hP,hK⟩;have HB10:=Lib.hid (HB9.out.call hP hK);clear hP hK HB9)
            | (go_at_call 44;refine (HE4.out _ HB10.out.pat).mono ?_;clear HE4;rintro e w11 ⟨rfl,hP,hK⟩;have HB11:=Lib.hid (HB10.out.call hP hK);clear hP hK HB10)
            | (go_at_call 81;refine (HU2.out _ HB11.out.pat).mono ?_;clear HU2;rintro e w12 ⟨rfl,hP,hK⟩;have HB12:=Lib.hid (HB11.out.call hP hK);clear hP hK HB11)
            | (go_at_call 44;refine (HLF.out _ _ HB12.out.pat).mono ?_;rintro e w13 ⟨rfl,hP,hK⟩;have HB13:=Lib.hid (HB12.out.call hP hK);have u0:=HB13.out.cell2 (j:=0) (v:=.int .i64 n1) rfl;have k0:=HB13.out.cell (j:=0) rfl;have j0:=HB13.out.free 0;have u1:=HB13.out.cell2 (j:=1) (v:=.int .i64 n2) rfl;have k1:=HB13.out.cell (j:=1) rfl;have j1:=HB13.out.free 1;have u2:=HB13.out.cell2 (j:=2) (v:=.bool (n3 == 1)) rfl;have k2:=HB13.out.cell (j:=2) rfl;have j2:=HB13.out.free 2;have u3:=HB13.out.cell2 (j:=3) (v:=.slice none 0 0) rfl;have k3:=HB13.out.cell (j:=3) rfl;have j3:=HB13.out.free 3;have u4:=HB13.out.cell2 (j:=4) (v:=.slice none 0 0) rfl;have k4:=HB13.out.cell (j:=4) rfl;have j4:=HB13.out.free 4;clear hP hK HB12))
          try simp only [Exit.inBlock,Exit.then]
          have HC:=(((((HB13.out.set 0 (.int .i64 n1)).set 1 (.int .i64 n2)).set 2 (.bool (n3 == 1))).set 3 (.slice none 0 0)).set 4 (.slice none 0 0))
          refine bodyPost_ret (results_net rfl _ _ w.heap.size 54 _ (0,0) _ rfl HC.row Tryz.underlying54 rfl (by kernel_rfl) (.int .i64 n4) (.int .i64 n5) rfl rfl) rfl ?_
          exact ⟨rfl,HC.pat,HC.kept⟩
        · have g20:¬ n2<1:=by omega
          have g2:¬ (n2<1∨64<n2):=by omega
          have g23:¬ 64<n2:=by omega
          rw [if_neg g2]
          clear g2
          obtain ⟨s3,e4⟩:∃ X,t2.expect [32]=X:=⟨_,rfl⟩
          have HE2:=Lib.hid (fun (W:World) (h:RAt x y g B xs mk V W t2)=>e4 ▸ HSP.out W t2 h)
          rw [e4]
          obtain ⟨⟨⟨n3,a3⟩,t3⟩,e5⟩:∃ X,s3.num 1=X:=⟨_,rfl⟩
          have HN_3:=Lib.hid (fun (W:World) (h:RAt x y g B xs mk V W s3)=>e5 ▸ HN1.out W s3 h)
          rw [e5]
          dsimp only
          obtain ⟨s4,e6⟩:∃ X,t3.expect [32]=X:=⟨_,rfl⟩
          have HE3:=Lib.hid (fun (W:World) (h:RAt x y g B xs mk V W t3)=>e6 ▸ HSP.out W t3 h)
          rw [e6]
          obtain ⟨⟨n4,t4⟩,e7⟩:∃ X,s4.within 0 4 10=X:=⟨_,rfl⟩
          have HU1:=Lib.hid (fun (W:World) (h:RAt x y g B xs mk V W s4)=>e7 ▸ HU.out W s4 h)
          rw [e7]
          dsimp only
          obtain ⟨s5,e8⟩:∃ X,t4.expect [32]=X:=⟨_,rfl⟩
          have HE4:=Lib.hid (fun (W:World) (h:RAt x y g B xs mk V W t4)=>e8 ▸ HSP.out W t4 h)
          rw [e8]
          obtain ⟨⟨n5,t5⟩,e9⟩:∃ X,s5.within 0 4 10=X:=⟨_,rfl⟩
          have HU2:=Lib.hid (fun (W:World) (h:RAt x y g B xs mk V W s5)=>e9 ▸ HU.out W s5 h)
          rw [e9]
          dsimp only
          clear e4 e5 e6 e7 e8 e9 HSP HN HN1 HU
          go_enter Tryz.func85,Tryz.ntmps85
          go_wp2_with (first
            | (go_at_call 44;refine HE0.out.mono ?_;clear HE0;rintro e w1 ⟨rfl,hP,hK⟩;have HB1:=Lib.hid (HB.out.call hP hK);clear hP hK HB)
            | (go_at_call 82;refine (HN_1.out _ HB1.out.pat).mono ?_;clear HN_1;rintro e w2 ⟨rfl,hP,hK⟩;have hB:=HB1.out.call hP hK;have HB2:=Lib.hid hB;clear hP hK hB HB1)
            | (go_at_call 65;refine (fail_any 9 a1 (by decide) HB2.out.pat).mono ?_;rintro e w3 ⟨rfl,hP,hK⟩;have hB:=HB2.out.call hP hK;have c0:=hB.cell2 (j:=0) rfl;have f0:=hB.free2 0;have HB3:=Lib.hid (hB.set2 0 (.int .i64 n1));clear hP hK hB HB2)
            | (go_at_call 44;refine (HE1.out _ HB3.out.pat).mono ?_;clear HE1;rintro e w4 ⟨rfl,hP,hK⟩;have HB4:=Lib.hid (HB3.out.call hP hK);clear hP hK HB3)
            | (go_at_call 82;refine (HN_2.out _ HB4.out.pat).mono ?_;clear HN_2;rintro e w5 ⟨rfl,hP,hK⟩;have hB:=HB4.out.call hP hK;have c1:=hB.cell2 (j:=1) rfl;have f1:=hB.free2 1;have HB5:=Lib.hid (hB.set2 1 (.int .i64 n2));clear hP hK hB HB4)
            | (go_at_call 44;refine (HE2.out _ HB5.out.pat).mono ?_;clear HE2;rintro e w7 ⟨rfl,hP,hK⟩;have HB7:=Lib.hid (HB5.out.call hP hK);clear hP hK HB5)
            | (go_at_call 82;refine (HN_3.out _ HB7.out.pat).mono ?_;clear HN_3;rintro e w8 ⟨rfl,hP,hK⟩;have hB:=HB7.out.call hP hK;have c2:=hB.cell2 (j:=2) rfl;have f2:=hB.free2 2;have HB8:=Lib.hid (hB.set2 2 (.bool (n3 == 1)));clear hP hK hB HB7)
            | (go_at_call 44;refine (HE3.out _ HB8.out.pat).mono ?_;clear HE3;rintro e w9 ⟨rfl,hP,hK⟩;have HB9:=Lib.hid (HB8.out.call hP hK);clear hP hK HB8)
            | (go_at_call 81;refine (HU1.out _ HB9.out.pat).mono ?_;clear HU1;rintro e w10 ⟨rfl,hP,hK⟩;have HB10:=Lib.hid (HB9.out.call hP hK);clear hP hK HB9)
            | (go_at_call 44;refine (HE4.out _ HB10.out.pat).mono ?_;clear HE4;rintro e w11 ⟨rfl,hP,hK⟩;have HB11:=Lib.hid (HB10.out.call hP hK);clear hP hK HB10)
            | (go_at_call 81;refine (HU2.out _ HB11.out.pat).mono ?_;clear HU2;rintro e w12 ⟨rfl,hP,hK⟩;have HB12:=Lib.hid (HB11.out.call hP hK);clear hP hK HB11)
            | (go_at_call 44;refine (HLF.out _ _ HB12.out.pat).mono ?_;rintro e w13 ⟨rfl,hP,hK⟩;have HB13:=Lib.hid (HB12.out.call hP hK);have u0:=HB13.out.cell2 (j:=0) (v:=.int .i64 n1) rfl;have k0:=HB13.out.cell (j:=0) rfl;have j0:=HB13.out.free 0;have u1:=HB13.out.cell2 (j:=1) (v:=.int .i64 n2) rfl;have k1:=HB13.out.cell (j:=1) rfl;have j1:=HB13.out.free 1;have u2:=HB13.out.cell2 (j:=2) (v:=.bool (n3 == 1)) rfl;have k2:=HB13.out.cell (j:=2) rfl;have j2:=HB13.out.free 2;have u3:=HB13.out.cell2 (j:=3) (v:=.slice none 0 0) rfl;have k3:=HB13.out.cell (j:=3) rfl;have j3:=HB13.out.free 3;have u4:=HB13.out.cell2 (j:=4) (v:=.slice none 0 0) rfl;have k4:=HB13.out.cell (j:=4) rfl;have j4:=HB13.out.free 4;clear hP hK HB12))
          try simp only [Exit.inBlock,Exit.then]
          have HC:=(((((HB13.out.set 0 (.int .i64 n1)).set 1 (.int .i64 n2)).set 2 (.bool (n3 == 1))).set 3 (.slice none 0 0)).set 4 (.slice none 0 0))
          refine bodyPost_ret (results_net rfl _ _ w.heap.size 54 _ (0,0) _ rfl HC.row Tryz.underlying54 rfl (by kernel_rfl) (.int .i64 n4) (.int .i64 n5) rfl rfl) rfl ?_
          exact ⟨rfl,HC.pat,HC.kept⟩
    · have g10:¬ n1<1:=by omega
      have g1:¬ (n1<1∨62<n1):=by omega
      have g13:¬ 62<n1:=by omega
      rw [if_neg g1]
      clear g1
      obtain ⟨s2,e2⟩:∃ X,t1.expect [32]=X:=⟨_,rfl⟩
      have HE1:=Lib.hid (fun (W:World) (h:RAt x y g B xs mk V W t1)=>e2 ▸ HSP.out W t1 h)
      rw [e2]
      obtain ⟨⟨⟨n2,a2⟩,t2⟩,e3⟩:∃ X,s2.num 1099511627776=X:=⟨_,rfl⟩
      have HN_2:=Lib.hid (fun (W:World) (h:RAt x y g B xs mk V W s2)=>e3 ▸ HN.out W s2 h)
      rw [e3]
      dsimp only
      clear e2 e3
      by_cases g21:n2<1
      · have g2:n2<1∨64<n2:=.inl g21
        rw [if_pos g2]
        clear g2
        obtain ⟨s3,e4⟩:∃ X,(t2.refuse 9 a2).expect [32]=X:=⟨_,rfl⟩
        have HE2:=Lib.hid (fun (W:World) (h:RAt x y g B xs mk V W (t2.refuse 9 a2))=>e4 ▸ HSP.out W (t2.refuse 9 a2) h)
        rw [e4]
        obtain ⟨⟨⟨n3,a3⟩,t3⟩,e5⟩:∃ X,s3.num 1=X:=⟨_,rfl⟩
        have HN_3:=Lib.hid (fun (W:World) (h:RAt x y g B xs mk V W s3)=>e5 ▸ HN1.out W s3 h)
        rw [e5]
        dsimp only
        obtain ⟨s4,e6⟩:∃ X,t3.expect [32]=X:=⟨_,rfl⟩
        have HE3:=Lib.hid (fun (W:World) (h:RAt x y g B xs mk V W t3)=>e6 ▸ HSP.out W t3 h)
        rw [e6]
        obtain ⟨⟨n4,t4⟩,e7⟩:∃ X,s4.within 0 4 10=X:=⟨_,rfl⟩
        have HU1:=Lib.hid (fun (W:World) (h:RAt x y g B xs mk V W s4)=>e7 ▸ HU.out W s4 h)
        rw [e7]
        dsimp only
        obtain ⟨s5,e8⟩:∃ X,t4.expect [32]=X:=⟨_,rfl⟩
        have HE4:=Lib.hid (fun (W:World) (h:RAt x y g B xs mk V W t4)=>e8 ▸ HSP.out W t4 h)
        rw [e8]
        obtain ⟨⟨n5,t5⟩,e9⟩:∃ X,s5.within 0 4 10=X:=⟨_,rfl⟩
        have HU2:=Lib.hid (fun (W:World) (h:RAt x y g B xs mk V W s5)=>e9 ▸ HU.out W s5 h)
        rw [e9]
        dsimp only
        clear e4 e5 e6 e7 e8 e9 HSP HN HN1 HU
        go_enter Tryz.func85,Tryz.ntmps85
        go_wp2_with (first
          | (go_at_call 44;refine HE0.out.mono ?_;clear HE0;rintro e w1 ⟨rfl,hP,hK⟩;have HB1:=Lib.hid (HB.out.call hP hK);clear hP hK HB)
          | (go_at_call 82;refine (HN_1.out _ HB1.out.pat).mono ?_;clear HN_1;rintro e w2 ⟨rfl,hP,hK⟩;have hB:=HB1.out.call hP hK;have c0:=hB.cell2 (j:=0) rfl;have f0:=hB.free2 0;have HB2:=Lib.hid (hB.set2 0 (.int .i64 n1));clear hP hK hB HB1)
          | (go_at_call 44;refine (HE1.out _ HB2.out.pat).mono ?_;clear HE1;rintro e w4 ⟨rfl,hP,hK⟩;have HB4:=Lib.hid (HB2.out.call hP hK);clear hP hK HB2)
          | (go_at_call 82;refine (HN_2.out _ HB4.out.pat).mono ?_;clear HN_2;rintro e w5 ⟨rfl,hP,hK⟩;have hB:=HB4.out.call hP hK;have HB5:=Lib.hid hB;clear hP hK hB HB4)
          | (go_at_call 65;refine (fail_any 9 a2 (by decide) HB5.out.pat).mono ?_;rintro e w6 ⟨rfl,hP,hK⟩;have hB:=HB5.out.call hP hK;have c1:=hB.cell2 (j:=1) rfl;have f1:=hB.free2 1;have HB6:=Lib.hid (hB.set2 1 (.int .i64 n2));clear hP hK hB HB5)
          | (go_at_call 44;refine (HE2.out _ HB6.out.pat).mono ?_;clear HE2;rintro e w7 ⟨rfl,hP,hK⟩;have HB7:=Lib.hid (HB6.out.call hP hK);clear hP hK HB6)
          | (go_at_call 82;refine (HN_3.out _ HB7.out.pat).mono ?_;clear HN_3;rintro e w8 ⟨rfl,hP,hK⟩;have hB:=HB7.out.call hP hK;have c2:=hB.cell2 (j:=2) rfl;have f2:=hB.free2 2;have HB8:=Lib.hid (hB.set2 2 (.bool (n3 == 1)));clear hP hK hB HB7)
          | (go_at_call 44;refine (HE3.out _ HB8.out.pat).mono ?_;clear HE3;rintro e w9 ⟨rfl,hP,hK⟩;have HB9:=Lib.hid (HB8.out.call hP hK);clear hP hK HB8)
          | (go_at_call 81;refine (HU1.out _ HB9.out.pat).mono ?_;clear HU1;rintro e w10 ⟨rfl,hP,hK⟩;have HB10:=Lib.hid (HB9.out.call hP hK);clear hP hK HB9)
          | (go_at_call 44;refine (HE4.out _ HB10.out.pat).mono ?_;clear HE4;rintro e w11 ⟨rfl,hP,hK⟩;have HB11:=Lib.hid (HB10.out.call hP hK);clear hP hK HB10)
          | (go_at_call 81;refine (HU2.out _ HB11.out.pat).mono ?_;clear HU2;rintro e w12 ⟨rfl,hP,hK⟩;have HB12:=Lib.hid (HB11.out.call hP hK);clear hP hK HB11)
          | (go_at_call 44;refine (HLF.out _ _ HB12.out.pat).mono ?_;rintro e w13 ⟨rfl,hP,hK⟩;have HB13:=Lib.hid (HB12.out.call hP hK);have u0:=HB13.out.cell2 (j:=0) (v:=.int .i64 n1) rfl;have k0:=HB13.out.cell (j:=0) rfl;have j0:=HB13.out.free 0;have u1:=HB13.out.cell2 (j:=1) (v:=.int .i64 n2) rfl;have k1:=HB13.out.cell (j:=1) rfl;have j1:=HB13.out.free 1;have u2:=HB13.out.cell2 (j:=2) (v:=.bool (n3 == 1)) rfl;have k2:=HB13.out.cell (j:=2) rfl;have j2:=HB13.out.free 2;have u3:=HB13.out.cell2 (j:=3) (v:=.slice none 0 0) rfl;have k3:=HB13.out.cell (j:=3) rfl;have j3:=HB13.out.free 3;have u4:=HB13.out.cell2 (j:=4) (v:=.slice none 0 0) rfl;have k4:=HB13.out.cell (j:=4) rfl;have j4:=HB13.out.free 4;clear hP hK HB12))
        try simp only [Exit.inBlock,Exit.then]
        have HC:=(((((HB13.out.set 0 (.int .i64 n1)).set 1 (.int .i64 n2)).set 2 (.bool (n3 == 1))).set 3 (.slice none 0 0)).set 4 (.slice none 0 0))
        refine bodyPost_ret (results_net rfl _ _ w.heap.size 54 _ (0,0) _ rfl HC.row Tryz.underlying54 rfl (by kernel_rfl) (.int .i64 n4) (.int .i64 n5) rfl rfl) rfl ?_
        exact ⟨rfl,HC.pat,HC.kept⟩
      · by_cases g22:64<n2
        · have g20:¬ n2<1:=by omega
          have g2:n2<1∨64<n2:=.inr g22
          rw [if_pos g2]
          clear g2
          obtain ⟨s3,e4⟩:∃ X,(t2.refuse 9 a2).expect [32]=X:=⟨_,rfl⟩
          have HE2:=Lib.hid (fun (W:World) (h:RAt x y g B xs mk V W (t2.refuse 9 a2))=>e4 ▸ HSP.out W (t2.refuse 9 a2) h)
          rw [e4]
          obtain ⟨⟨⟨n3,a3⟩,t3⟩,e5⟩:∃ X,s3.num 1=X:=⟨_,rfl⟩
          have HN_3:=Lib.hid (fun (W:World) (h:RAt x y g B xs mk V W s3)=>e5 ▸ HN1.out W s3 h)
          rw [e5]
          dsimp only
          obtain ⟨s4,e6⟩:∃ X,t3.expect [32]=X:=⟨_,rfl⟩
          have HE3:=Lib.hid (fun (W:World) (h:RAt x y g B xs mk V W t3)=>e6 ▸ HSP.out W t3 h)
          rw [e6]
          obtain ⟨⟨n4,t4⟩,e7⟩:∃ X,s4.within 0 4 10=X:=⟨_,rfl⟩
          have HU1:=Lib.hid (fun (W:World) (h:RAt x y g B xs mk V W s4)=>e7 ▸ HU.out W s4 h)
          rw [e7]
          dsimp only
          obtain ⟨s5,e8⟩:∃ X,t4.expect [32]=X:=⟨_,rfl⟩
          have HE4:=Lib.hid (fun (W:World) (h:RAt x y g B xs mk V W t4)=>e8 ▸ HSP.out W t4 h)
          rw [e8]
          obtain ⟨⟨n5,t5⟩,e9⟩:∃ X,s5.within 0 4 10=X:=⟨_,rfl⟩
          have HU2:=Lib.hid (fun (W:World) (h:RAt x y g B xs mk V W s5)=>e9 ▸ HU.out W s5 h)
          rw [e9]
          dsimp only
          clear e4 e5 e6 e7 e8 e9 HSP HN HN1 HU
          go_enter Tryz.func85,Tryz.ntmps85
          go_wp2_with (first
            | (go_at_call 44;refine HE0.out.mono ?_;clear HE0;rintro e w1 ⟨rfl,hP,hK⟩;have HB1:=Lib.hid (HB.out.call hP hK);clear hP hK HB)
            | (go_at_call 82;refine (HN_1.out _ HB1.out.pat).mono ?_;clear HN_1;rintro e w2 ⟨rfl,hP,hK⟩;have hB:=HB1.out.call hP hK;have c0:=hB.cell2 (j:=0) rfl;have f0:=hB.free2 0;have HB2:=Lib.hid (hB.set2 0 (.int .i64 n1));clear hP hK hB HB1)
            | (go_at_call 44;refine (HE1.out _ HB2.out.pat).mono ?_;clear HE1;rintro e w4 ⟨rfl,hP,hK⟩;have HB4:=Lib.hid (HB2.out.call hP hK);clear hP hK HB2)
            | (go_at_call 82;refine (HN_2.out _ HB4.out.pat).mono ?_;clear HN_2;rintro e w5 ⟨rfl,hP,hK⟩;have hB:=HB4.out.call hP hK;have HB5:=Lib.hid hB;clear hP hK hB HB4)
            | (go_at_call 65;refine (fail_any 9 a2 (by decide) HB5.out.pat).mono ?_;rintro e w6 ⟨rfl,hP,hK⟩;have hB:=HB5.out.call hP hK;have c1:=hB.cell2 (j:=1) rfl;have f1:=hB.free2 1;have HB6:=Lib.hid (hB.set2 1 (.int .i64 n2));clear hP hK hB HB5)
            | (go_at_call 44;refine (HE2.out _ HB6.out.pat).mono ?_;clear HE2;rintro e w7 ⟨rfl,hP,hK⟩;have HB7:=Lib.hid (HB6.out.call hP hK);clear hP hK HB6)
            | (go_at_call 82;refine (HN_3.out _ HB7.out.pat).mono ?_;clear HN_3;rintro e w8 ⟨rfl,hP,hK⟩;have hB:=HB7.out.call hP hK;have c2:=hB.cell2 (j:=2) rfl;have f2:=hB.free2 2;have HB8:=Lib.hid (hB.set2 2 (.bool (n3 == 1)));clear hP hK hB HB7)
            | (go_at_call 44;refine (HE3.out _ HB8.out.pat).mono ?_;clear HE3;rintro e w9 ⟨rfl,hP,hK⟩;have HB9:=Lib.hid (HB8.out.call hP hK);clear hP hK HB8)
            | (go_at_call 81;refine (HU1.out _ HB9.out.pat).mono ?_;clear HU1;rintro e w10 ⟨rfl,hP,hK⟩;have HB10:=Lib.hid (HB9.out.call hP hK);clear hP hK HB9)
            | (go_at_call 44;refine (HE4.out _ HB10.out.pat).mono ?_;clear HE4;rintro e w11 ⟨rfl,hP,hK⟩;have HB11:=Lib.hid (HB10.out.call hP hK);clear hP hK HB10)
            | (go_at_call 81;refine (HU2.out _ HB11.out.pat).mono ?_;clear HU2;rintro e w12 ⟨rfl,hP,hK⟩;have HB12:=Lib.hid (HB11.out.call hP hK);clear hP hK HB11)
            | (go_at_call 44;refine (HLF.out _ _ HB12.out.pat).mono ?_;rintro e w13 ⟨rfl,hP,hK⟩;have HB13:=Lib.hid (HB12.out.call hP hK);have u0:=HB13.out.cell2 (j:=0) (v:=.int .i64 n1) rfl;have k0:=HB13.out.cell (j:=0) rfl;have j0:=HB13.out.free 0;have u1:=HB13.out.cell2 (j:=1) (v:=.int .i64 n2) rfl;have k1:=HB13.out.cell (j:=1) rfl;have j1:=HB13.out.free 1;have u2:=HB13.out.cell2 (j:=2) (v:=.bool (n3 == 1)) rfl;have k2:=HB13.out.cell (j:=2) rfl;have j2:=HB13.out.free 2;have u3:=HB13.out.cell2 (j:=3) (v:=.slice none 0 0) rfl;have k3:=HB13.out.cell (j:=3) rfl;have j3:=HB13.out.free 3;have u4:=HB13.out.cell2 (j:=4) (v:=.slice none 0 0) rfl;have k4:=HB13.out.cell (j:=4) rfl;have j4:=HB13.out.free 4;clear hP hK HB12))
          try simp only [Exit.inBlock,Exit.then]
          have HC:=(((((HB13.out.set 0 (.int .i64 n1)).set 1 (.int .i64 n2)).set 2 (.bool (n3 == 1))).set 3 (.slice none 0 0)).set 4 (.slice none 0 0))
          refine bodyPost_ret (results_net rfl _ _ w.heap.size 54 _ (0,0) _ rfl HC.row Tryz.underlying54 rfl (by kernel_rfl) (.int .i64 n4) (.int .i64 n5) rfl rfl) rfl ?_
          exact ⟨rfl,HC.pat,HC.kept⟩
        · have g20:¬ n2<1:=by omega
          have g2:¬ (n2<1∨64<n2):=by omega
          have g23:¬ 64<n2:=by omega
          rw [if_neg g2]
          clear g2
          obtain ⟨s3,e4⟩:∃ X,t2.expect [32]=X:=⟨_,rfl⟩
          have HE2:=Lib.hid (fun (W:World) (h:RAt x y g B xs mk V W t2)=>e4 ▸ HSP.out W t2 h)
          rw [e4]
          obtain ⟨⟨⟨n3,a3⟩,t3⟩,e5⟩:∃ X,s3.num 1=X:=⟨_,rfl⟩
          have HN_3:=Lib.hid (fun (W:World) (h:RAt x y g B xs mk V W s3)=>e5 ▸ HN1.out W s3 h)
          rw [e5]
          dsimp only
          obtain ⟨s4,e6⟩:∃ X,t3.expect [32]=X:=⟨_,rfl⟩
          have HE3:=Lib.hid (fun (W:World) (h:RAt x y g B xs mk V W t3)=>e6 ▸ HSP.out W t3 h)
          rw [e6]
          obtain ⟨⟨n4,t4⟩,e7⟩:∃ X,s4.within 0 4 10=X:=⟨_,rfl⟩
          have HU1:=Lib.hid (fun (W:World) (h:RAt x y g B xs mk V W s4)=>e7 ▸ HU.out W s4 h)
          rw [e7]
          dsimp only
          obtain ⟨s5,e8⟩:∃ X,t4.expect [32]=X:=⟨_,rfl⟩
          have HE4:=Lib.hid (fun (W:World) (h:RAt x y g B xs mk V W t4)=>e8 ▸ HSP.out W t4 h)
          rw [e8]
          obtain ⟨⟨n5,t5⟩,e9⟩:∃ X,s5.within 0 4 10=X:=⟨_,rfl⟩
          have HU2:=Lib.hid (fun (W:World) (h:RAt x y g B xs mk V W s5)=>e9 ▸ HU.out W s5 h)
          rw [e9]
          dsimp only
          clear e4 e5 e6 e7 e8 e9 HSP HN HN1 HU
          go_enter Tryz.func85,Tryz.ntmps85
          go_wp2_with (first
            | (go_at_call 44;refine HE0.out.mono ?_;clear HE0;rintro e w1 ⟨rfl,hP,hK⟩;have HB1:=Lib.hid (HB.out.call hP hK);clear hP hK HB)
            | (go_at_call 82;refine (HN_1.out _ HB1.out.pat).mono ?_;clear HN_1;rintro e w2 ⟨rfl,hP,hK⟩;have hB:=HB1.out.call hP hK;have c0:=hB.cell2 (j:=0) rfl;have f0:=hB.free2 0;have HB2:=Lib.hid (hB.set2 0 (.int .i64 n1));clear hP hK hB HB1)
            | (go_at_call 44;refine (HE1.out _ HB2.out.pat).mono ?_;clear HE1;rintro e w4 ⟨rfl,hP,hK⟩;have HB4:=Lib.hid (HB2.out.call hP hK);clear hP hK HB2)
            | (go_at_call 82;refine (HN_2.out _ HB4.out.pat).mono ?_;clear HN_2;rintro e w5 ⟨rfl,hP,hK⟩;have hB:=HB4.out.call hP hK;have c1:=hB.cell2 (j:=1) rfl;have f1:=hB.free2 1;have HB5:=Lib.hid (hB.set2 1 (.int .i64 n2));clear hP hK hB HB4)
            | (go_at_call 44;refine (HE2.out _ HB5.out.pat).mono ?_;clear HE2;rintro e w7 ⟨rfl,hP,hK⟩;have HB7:=Lib.hid (HB5.out.call hP hK);clear hP hK HB5)
            | (go_at_call 82;refine (HN_3.out _ HB7.out.pat).mono ?_;clear HN_3;rintro e w8 ⟨rfl,hP,hK⟩;have hB:=HB7.out.call hP hK;have c2:=hB.cell2 (j:=2) rfl;have f2:=hB.free2 2;have HB8:=Lib.hid (hB.set2 2 (.bool (n3 == 1)));clear hP hK hB HB7)
            | (go_at_call 44;refine (HE3.out _ HB8.out.pat).mono ?_;clear HE3;rintro e w9 ⟨rfl,hP,hK⟩;have HB9:=Lib.hid (HB8.out.call hP hK);clear hP hK HB8)
            | (go_at_call 81;refine (HU1.out _ HB9.out.pat).mono ?_;clear HU1;rintro e w10 ⟨rfl,hP,hK⟩;have HB10:=Lib.hid (HB9.out.call hP hK);clear hP hK HB9)
            | (go_at_call 44;refine (HE4.out _ HB10.out.pat).mono ?_;clear HE4;rintro e w11 ⟨rfl,hP,hK⟩;have HB11:=Lib.hid (HB10.out.call hP hK);clear hP hK HB10)
            | (go_at_call 81;refine (HU2.out _ HB11.out.pat).mono ?_;clear HU2;rintro e w12 ⟨rfl,hP,hK⟩;have HB12:=Lib.hid (HB11.out.call hP hK);clear hP hK HB11)
            | (go_at_call 44;refine (HLF.out _ _ HB12.out.pat).mono ?_;rintro e w13 ⟨rfl,hP,hK⟩;have HB13:=Lib.hid (HB12.out.call hP hK);have u0:=HB13.out.cell2 (j:=0) (v:=.int .i64 n1) rfl;have k0:=HB13.out.cell (j:=0) rfl;have j0:=HB13.out.free 0;have u1:=HB13.out.cell2 (j:=1) (v:=.int .i64 n2) rfl;have k1:=HB13.out.cell (j:=1) rfl;have j1:=HB13.out.free 1;have u2:=HB13.out.cell2 (j:=2) (v:=.bool (n3 == 1)) rfl;have k2:=HB13.out.cell (j:=2) rfl;have j2:=HB13.out.free 2;have u3:=HB13.out.cell2 (j:=3) (v:=.slice none 0 0) rfl;have k3:=HB13.out.cell (j:=3) rfl;have j3:=HB13.out.free 3;have u4:=HB13.out.cell2 (j:=4) (v:=.slice none 0 0) rfl;have k4:=HB13.out.cell (j:=4) rfl;have j4:=HB13.out.free 4;clear hP hK HB12))
          try simp only [Exit.inBlock,Exit.then]
          have HC:=(((((HB13.out.set 0 (.int .i64 n1)).set 1 (.int .i64 n2)).set 2 (.bool (n3 == 1))).set 3 (.slice none 0 0)).set 4 (.slice none 0 0))
          refine bodyPost_ret (results_net rfl _ _ w.heap.size 54 _ (0,0) _ rfl HC.row Tryz.underlying54 rfl (by kernel_rfl) (.int .i64 n4) (.int .i64 n5) rfl rfl) rfl ?_
          exact ⟨rfl,HC.pat,HC.kept⟩
end
end Go.Proofs.YtldnepogjnahfaaGreatDoor
