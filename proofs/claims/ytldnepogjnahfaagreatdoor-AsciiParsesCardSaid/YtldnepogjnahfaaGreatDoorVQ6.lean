/- The document's own reader of texts by contracts: memory (conditions: the reader lies in memory; at most 400000 bytes). -/
import Derived.Test.YtldnepogjnahfaaGreatDoorVQ5
import Derived.Test.YtldnepogjnahfaaGreatDoorVPMem
set_option linter.unusedVariables false
namespace Go.Proofs.YtldnepogjnahfaaGreatDoor
open Go.ChangeShapes Go.WideShapes Go.RowKit
def Ps.readQ (V:Int) (a wd:Nat) (s:Ps):PRead × Ps :=
  let d:=(s.expect [114,32]).definition V wd
  let l:=d.2.litsQ V a
  (⟨d.1,l.1⟩,l.2.expect [10])
def Ps.memQ (V:Int) (s:Ps):PMem × Ps :=
  let h:=s.shapeQ
  let r:=qloop (Ps.readQ V h.1.sa.toNat h.1.sw.toNat) h.1.sr.toNat ([],h.2)
  let x:=eachF (Ps.writeQ V h.1.sa.toNat h.1.sw.toNat) push h.1.sx.toNat (r.2,[])
  (⟨h.1.sa,h.1.sw,h.1.sn,r.1,x.2⟩,x.1)
theorem Ps.num_none {most:Int} {s:Ps} (h:(s.num most).2.e=none):s.e=none:=by
  unfold Ps.num at h
  cases he:s.e with
  | some z=>rw [he] at h;simp [he] at h
  | none=>rfl
theorem Ps.within_none {s:Ps} {lo hi k:Int} (h:(s.within lo hi k).2.e=none):s.e=none:=by
  unfold Ps.within at h
  cases he:s.e with
  | some z=>rw [he] at h;simp [he] at h
  | none=>rfl
theorem Ps.widthQ_none {s:Ps} {hi:Int} (h:(s.widthQ hi).2.e=none):s.e=none∧1≤(s.widthQ hi).1∧(s.widthQ hi).1≤hi:=by
  unfold Ps.widthQ at h ⊢
  dsimp only at h ⊢
  split at h
  · exact absurd h (Ps.refuse_none_in (by decide))
  · exact ⟨Ps.num_none h,by omega,by omega⟩
theorem Ps.shapeQ_none {s:Ps} (h:s.shapeQ.2.e=none):s.e=none∧(1≤s.shapeQ.1.sa∧s.shapeQ.1.sa≤62)∧(1≤s.shapeQ.1.sw∧s.shapeQ.1.sw≤64):=by
  unfold Ps.shapeQ at h ⊢
  dsimp only at h ⊢
  have h5:=Ps.within_none (Ps.expect_none h)
  have h4:=Ps.within_none (Ps.expect_none h5)
  have h3:=Ps.num_none (Ps.expect_none h4)
  have h2:=Ps.widthQ_none (Ps.expect_none h3)
  have h1:=Ps.widthQ_none (Ps.expect_none h2.1)
  exact ⟨Ps.expect_none h1.1,h1.2,h2.2⟩
theorem Ps.shapeQ_ports (s:Ps):(0≤s.shapeQ.1.sr∧s.shapeQ.1.sr≤4)∧(0≤s.shapeQ.1.sx∧s.shapeQ.1.sx≤4):=by
  have h:∀ t:Ps,0≤(t.within 0 4 10).1∧(t.within 0 4 10).1≤4:=fun t=>by
    rcases Ps.within_in t 0 4 10 with h | h
    · omega
    · exact h
  exact ⟨h _,h _⟩
section
variable {x y g B:Nat} {xs:List Int} {mk:Bool} {V:Int} {w0 w:World} {s:Ps} {b b2:Nat} {cs cs2:Array Value}
theorem R1.two {t:TypeId} (h:R1 x y g B xs mk V w0 b t w cs s):R2 x y g B xs mk V w0 b w.heap.size t (w.alloc (.cells cs2 t)) cs cs2 s:=by
  have hb:=h.base
  have hl:=lt_of_row h.row
  have hk:=h.kept.size
  have h2:=h.alloc (.cells cs2 t)
  exact ⟨h2.pat,h2.kept,h2.row,heap_alloc_new w _,by omega,h.old⟩
theorem R2.grown {t:TypeId} {w':World} {base e size n:Nat} {v:Value} {zs:List Value} (h:R2 x y g B xs mk V w0 b b2 t w cs cs2 s) (ho:w.ownsRow base e size v n zs) (hb:b<base∧b2<base) (hg:w.grownBy w' v.ownBlock):R2 x y g B xs mk V w0 b b2 t w' cs cs2 s:=by
  have hold:=h.old
  have hbs:=h.base
  exact ⟨h.pat.grown ho ⟨by omega,fun _=>by omega⟩ hg,h.kept.grown ho (by omega) hg,(hg.block b (lt_of_row h.row) (fun e'=>by have:=(ho.lt _ e'.symm).1;omega)).trans h.row,(hg.block b2 (lt_of_row h.two) (fun e'=>by have:=(ho.lt _ e'.symm).1;omega)).trans h.two,h.base,h.old⟩
theorem R2.alloc {t:TypeId} (h:R2 x y g B xs mk V w0 b b2 t w cs cs2 s) (o:Obj):R2 x y g B xs mk V w0 b b2 t (w.alloc o) cs cs2 s :=
  h.call (h.pat.below ((Below.refl _ w).alloc (Nat.le_refl _) o)) ((Kept3.refl _ _ _ w).alloc o)
theorem R2.fin (h:R2 x y g B xs mk V w0 b b2 54 w cs cs2 s) (hcs:cs.size=5) {A A2:Option Addr} {c c2:Nat} {lr:List PRead} {lx:List PWrite} (hR:RP 97 x y g 2 (PReadAt x y g) w A c lr) (hX:RP 99 x y g 3 (PWriteAt x y g) w A2 c2 lx) (v0 v1 v2 v3 v4:Value) :
    ∃ W,W=((((w.setCell ⟨b,0,none⟩ v0).setCell ⟨b,1,none⟩ v1).setCell ⟨b,2,none⟩ v2).setCell ⟨b,3,none⟩ v3).setCell ⟨b,4,none⟩ v4∧R2 x y g B xs mk V w0 b b2 54 W (((((cs.setIfInBounds 0 v0).setIfInBounds 1 v1).setIfInBounds 2 v2).setIfInBounds 3 v3).setIfInBounds 4 v4) cs2 s∧RP 97 x y g 2 (PReadAt x y g) W A c lr∧RP 99 x y g 3 (PWriteAt x y g) W A2 c2 lx:=by
  have h1:=h.set 0 v0
  have h2:=h1.set 1 v1
  have h3:=h2.set 2 v2
  have h4:=h3.set 3 v3
  have h5:=h4.set 4 v4
  exact ⟨_,rfl,h5,rp_read_box (rp_read_box (rp_read_box (rp_read_box (rp_read_box hR h.row) h1.row) h2.row) h3.row) h4.row,rp_write_box (rp_write_box (rp_write_box (rp_write_box (rp_write_box hX h.row) h1.row) h2.row) h3.row) h4.row⟩
end
section
variable {x y g B:Nat} {xs:List Int} {V:Int} {w:World} {s:Ps}
theorem slice_of_own {w:World} {base:Nat} {e:TypeId} {size:Nat} {v:Value} {n:Nat} {xs:List Value} (h:w.ownsRow base e size v n xs) (hn:0<n):∃ A c,v=.slice A n c:=by
  rcases h.2 with ⟨_,h0⟩ | ⟨gg,c,cur,rfl,_⟩
  · omega
  · exact ⟨_,_,rfl⟩
set_option maxRecDepth 100000 in
set_option maxHeartbeats 16000000 in
theorem memory7_any (h:RAt x y g B xs true V w s) :
    Calls Tryz.prog 47 #[.pointer (some ⟨x,0,none⟩)] w fun e w'=>∃ A c A2 c2,e=.returned (.agg #[.int .i64 (s.memQ V).1.ma,.int .i64 (s.memQ V).1.mw,.bool (s.memQ V).1.mn,.slice A (s.memQ V).1.mr.length c,.slice A2 (s.memQ V).1.mx.length c2])∧(RP 97 x y g 2 (PReadAt x y g) w' A c (s.memQ V).1.mr∧RP 99 x y g 3 (PWriteAt x y g) w' A2 c2 (s.memQ V).1.mx)∧RAt x y g B xs true V w' (s.memQ V).2∧Kept3 x y g w w':=by
  obtain ⟨i0,hi,hz0,hz1,hz2⟩:=info_parts read_info
  have hg:g<w.heap.size:=h.lt.2.2.2 rfl
  have hgs:=h.gsz
  have hys:=h.lt.2.1
  have HB:=Lib.hid (R1.new (cs:=#[.int .i64 0,.int .i64 0,.bool false,.slice none 0 0,.slice none 0 0]) (t:=54) h hg)
  have HS:=Lib.hid (shape7_any HB.out.pat (by have:=HB.out.kept.size;omega))
  have hgd:=s.shapeQ_ports
  have hno:=fun hh=>s.shapeQ_none hh
  unfold Ps.memQ
  generalize s.shapeQ=X at *
  obtain ⟨⟨sa,sw,sn,sr,sx⟩,s1⟩:=X
  dsimp only at hgd hno HS ⊢
  obtain ⟨⟨hr0,hr1⟩,hx0,hx1⟩:=hgd
  obtain ⟨nr,rfl⟩:∃ a:Nat,(a:Int)=sr:=⟨sr.toNat,by omega⟩
  obtain ⟨nx,rfl⟩:∃ a:Nat,(a:Int)=sx:=⟨sx.toNat,by omega⟩
  simp only [Int.toNat_natCast]
  obtain ⟨a,ha⟩:∃ a,sa.toNat=a:=⟨_,rfl⟩
  obtain ⟨wd,hwd⟩:∃ a,sw.toNat=a:=⟨_,rfl⟩
  rw [ha,hwd]
  have HM:=Lib.hid (show s1.e=none→(sa=a∧a≤62)∧(sw=wd∧1≤wd∧wd≤64) from fun hh=>by have:=hno hh;omega)
  obtain ⟨Z,hZ⟩:∃ Z,qloop (Ps.readQ V a wd) nr ([],s1)=Z:=⟨_,rfl⟩
  rw [hZ]
  have HZ:=Lib.hid hZ
  have hnr:nr≤4:=by omega
  have hnx:nx≤4:=by omega
  clear h hZ hno ha hwd hr0 hr1 hx0 hx1
  go_enter Tryz.func47,Tryz.ntmps47
  go_wp2_with (go_at_call 85;refine HS.out.mono ?_;clear HS;rintro e w1 ⟨rfl,hP,hK⟩;have hB1:=HB.out.call hP hK;have HB1:=Lib.hid hB1;have HB2:=Lib.hid (hB1.two (cs2:=#[.int .i64 sa,.int .i64 sw,.bool sn,.slice none 0 0,.slice none 0 0]));clear hP hK hB1 HB)
  have HO:=Lib.hid (World.ownsRow_nil (w1.alloc (.cells #[.int .i64 sa,.int .i64 sw,.bool sn,.slice none 0 0,.slice none 0 0] 54)) (w1.heap.size+1) 97 2)
  have hw1:w.heap.size<w1.heap.size:=lt_of_row HB1.out.row
  go_loopg [6] nr (fun m' s6 wx=>∃ (k:Nat) (ys:List (PRead × Option Addr × Nat)) (t:Ps) (v3:Value),k+m'=nr∧s6=.int .i64 k∧ys.length≤k∧wx.ownsRow (w1.heap.size+1) 97 2 v3 ys.length (ys.flatMap fun z=>readCells z)∧(∀ z∈ys,LPread x y g wx z)∧R2 x y g B xs true V w w.heap.size w1.heap.size 54 wx #[.int .i64 0,.int .i64 0,.bool false,.slice none 0 0,.slice none 0 0] #[.int .i64 sa,.int .i64 sw,.bool sn,v3,.slice none 0 0] t∧Aside (qloop (Ps.readQ V a wd) m' (ys.map (·.1),t)=Z∧(t.e=none→s1.e=none)))
  case atStart=>exact ⟨0,[],s1,_,by omega,rfl,Nat.le_refl _,HO.out,fun z hz=>(by cases hz),HB2.out,HZ.out,fun h=>h⟩
  case round =>
    clear HB2
    obtain ⟨k,ys,t,v3,hk,rfl,hl,ho,hls,hP,HL⟩:=hrel
    generalize gk=m' at *
    obtain ⟨-,c1,-,-,-,-,-⟩:=hP.pat.cells
    by_cases hlt:k<nr
    · have hltI:(k:Int)<(nr:Int):=by omega
      obtain ⟨m2,rfl⟩:∃ m2,m'=m2+1:=⟨m' - 1,by omega⟩
      cases he:t.e with
      | some z =>
        rw [he] at c1
        have hkz:=hP.pat.kind z he
        obtain ⟨q1,q2⟩:=z
        have hq1:¬ q1=0:=hkz
        unfold fK at c1
        dsimp only at c1
        have HQ:=Lib.hid (show (ys.map (·.1),t)=Z from by rw [← HL.out.1];exact (qloop_bad (by simp [he]) _).symm)
        have HST:=Lib.hid (HL.out.2)
        clear hkz he
        obtain ⟨A,c,rfl,hR⟩:=rp_reads ho hls ⟨by omega,by omega,by omega⟩
        have HX:=Lib.hid (And.intro hR hP)
        have g0:=hP.cell2 (j:=0) rfl
        have g1:=hP.cell2 (j:=1) rfl
        have g2:=hP.cell2 (j:=2) rfl
        have g3:=hP.cell2 (j:=3) rfl
        have g4:=hP.cell2 (j:=4) rfl
        have HW:=Lib.hid (writes7_any (mk:=true) nx (by omega) a wd sn (.slice A ys.length c) (.slice none 0 0) sa sw (fun hh=>by have:=HM.out (HST.out hh);exact ⟨this.1,this.2.1,this.2.2.2⟩) hP.pat (by have:=hP.kept.size;omega))
        obtain ⟨⟨s9,lx⟩,e9⟩:∃ X,eachF (Ps.writeQ V a wd) push nx (t,[])=X:=⟨_,rfl⟩
        rw [e9] at HW
        dsimp only at HW
        have HE9:=Lib.hid e9
        clear ho hls hP HL hR e9
        go_wp2_with (go_at_call 86;refine HW.out.mono ?_;rintro e w7 ⟨A2,c2,rfl,hX,hP7,hK7⟩;have hR7:=HX.out.2.call hP7 hK7;have m4:=hR7.cell2 (j:=4) rfl;have n4:=hR7.free2 4;have hR8:=hR7.set2 4 (.slice A2 lx.length c2);have HR8:=Lib.hid (And.intro hR8 (And.intro (rp_read_box (j:=4) (v:=.slice A2 lx.length c2) (HX.out.1.kept (read_stays x y g) hK7) hR7.two) (rp_write_box (j:=4) (v:=.slice A2 lx.length c2) hX hR7.two)));have u0:=hR8.cell2 (j:=0) rfl;have k0:=hR8.cell (j:=0) rfl;have l0:=hR8.free 0;have u1:=hR8.cell2 (j:=1) rfl;have k1:=hR8.cell (j:=1) rfl;have l1:=hR8.free 1;have u2:=hR8.cell2 (j:=2) rfl;have k2:=hR8.cell (j:=2) rfl;have l2:=hR8.free 2;have u3:=hR8.cell2 (j:=3) rfl;have k3:=hR8.cell (j:=3) rfl;have l3:=hR8.free 3;have u4:=hR8.cell2 (j:=4) rfl;have k4:=hR8.cell (j:=4) rfl;have l4:=hR8.free 4;clear hX hP7 hK7 hR7 hR8)
        try simp only [Exit.inBlock,Exit.then]
        obtain ⟨W9,hW9,hF,hFR,hFX⟩:=HR8.out.1.fin rfl HR8.out.2.1 HR8.out.2.2 (.int .i64 sa) (.int .i64 sw) (.bool sn) (.slice A ys.length c) (.slice A2 lx.length c2)
        subst hW9
        refine bodyPost_ret (results_cell_row rfl _ _ w.heap.size 54 _ (0,0) _ rfl hF.row Tryz.underlying54 rfl (by kernel_rfl)) rfl ?_
        rw [← HQ.out]
        dsimp only
        rw [HE9.out]
        exact ⟨A,c,A2,c2,by rw [List.length_map];rfl,⟨hFR,hFX⟩,hF.pat,hF.kept⟩
      | none =>
        rw [he] at c1
        unfold fK at c1
        obtain ⟨⟨rfl,ha62⟩,⟨rfl,hw1',hw64⟩⟩:=HM.out (HL.out.2 he)
        have d0:=hP.cell2 (j:=0) rfl
        have d1:=hP.cell2 (j:=1) rfl
        have HE0:=Lib.hid (sb_r2 ▸ rwant7_any ⟨#[114,32]⟩ (by decide) hP.pat)
        obtain ⟨s2,e1⟩:∃ X,t.expect [114,32]=X:=⟨_,rfl⟩
        rw [e1] at HE0
        obtain ⟨⟨dv,s3⟩,e2⟩:∃ X,s2.definition V wd=X:=⟨_,rfl⟩
        have HD:=Lib.hid (fun (W:World) (h:RAt x y g B xs true V W s2)=>e2 ▸ def7_any wd (by omega) h)
        obtain ⟨⟨la,s4⟩,e3⟩:∃ X,s3.litsQ V a=X:=⟨_,rfl⟩
        have HL2:=Lib.hid (fun (W:World) (h:RAt x y g B xs true V W s3) (hg:g<W.heap.size)=>(show qloop (fun t:Ps=>t.nextLiteral V) a ([],s3)=(la,s4) from e3) ▸ lits7_any a (by omega) h hg)
        obtain ⟨s5,e5⟩:∃ X,s4.expect [10]=X:=⟨_,rfl⟩
        have HE1:=Lib.hid (fun (W:World) (h:RAt x y g B xs true V W s4)=>e5 ▸ sb_lf ▸ rwant7_any ⟨#[10]⟩ (by decide) h)
        have hrq:Ps.readQ V a wd t=(⟨dv,la⟩,s5):=by unfold Ps.readQ;rw [e1];dsimp only;rw [e2];dsimp only;rw [e3];dsimp only;rw [e5]
        have HGO:=Lib.hid (show qloop (Ps.readQ V a wd) m2 (ys.map (·.1)++[⟨dv,la⟩],s5)=Z from by rw [← HL.out.1,qloop_go he,hrq])
        have HX:=Lib.hid (And.intro ho (And.intro hls hP))
        have HSE:=Lib.hid (HL.out.2 he)
        have hl2:ys.length≤1000000:=by omega
        clear ho hls hP HL e1 e2 e3 e5 he hrq
        go_wp2_with (first
          | (go_at_call 44;refine HE0.out.mono ?_;clear HE0;rintro e w2 ⟨rfl,hP1,hK1⟩;have hR1:=HX.out.2.2.call hP1 hK1;have b0:=hR1.cell2 (j:=0) rfl;have b1:=hR1.cell2 (j:=1) rfl;have HC1:=Lib.hid (And.intro hR1 (And.intro (own_step HX.out.1 hK1 ⟨by omega,by omega,by omega⟩) (fun z hz=>(HX.out.2.1 z hz).kept hK1)));clear hP1 hK1 hR1 HX)
          | (go_at_call 43;refine (HD.out _ HC1.out.1.pat).mono ?_;clear HD;rintro e w3 ⟨rfl,hP1,hK1⟩;have hR1:=HC1.out.1.call hP1 hK1;have b0':=hR1.cell2 (j:=0) rfl;have b1':=hR1.cell2 (j:=1) rfl;have HC2:=Lib.hid (And.intro hR1 (And.intro (own_step HC1.out.2.1 hK1 ⟨by omega,by omega,by omega⟩) (fun z hz=>(HC1.out.2.2 z hz).kept hK1)));clear hP1 hK1 hR1 HC1)
          | (go_at_call 48;refine (HL2.out _ HC2.out.1.pat (by have:=HC2.out.1.kept.size;omega)).mono ?_;clear HL2;rintro e w4 ⟨v3',rfl,hO2,hP2,hK2⟩;obtain ⟨A2,c2,rfl,hLP⟩:=LP.of_own (p:=x) (r:=y) (g:=g) hO2 (by have:=HC2.out.1.kept.size;omega);have hR2:=HC2.out.1.call hP2 hK2;have HC3:=Lib.hid (And.intro hR2 (And.intro (own_step HC2.out.2.1 hK2 ⟨by omega,by omega,by omega⟩) (And.intro (fun z hz=>(HC2.out.2.2 z hz).kept hK2) hLP)));clear hO2 hP2 hK2 hR2 hLP HC2)
          | (go_at_call 44;refine (HE1.out _ HC3.out.1.pat).mono ?_;clear HE1;rintro e w5 ⟨rfl,hP5,hK5⟩;have hR5:=HC3.out.1.call hP5 hK5;have m3:=hR5.cell2 (j:=3) rfl;have HC5:=Lib.hid hR5;have hO1:=own_step HC3.out.2.1 hK5 ⟨by omega,by omega,by omega⟩;have HO5:=Lib.hid (And.intro (fun z hz=>(HC3.out.2.2.1 z hz).kept hK5) ((HC3.out.2.2.2).kept hK5));have hcn:=cells_new w5 (readCells (⟨dv,la⟩,(A2,c2))) 97;unfold readCells at hcn;have hsz5:w1.heap.size<w5.heap.size:=lt_of_row hR5.two;clear hP5 hK5 hR5 HC3)
          | (at_builtin;refine wpList_append_own _ rfl _ _ 51 rfl (w1.heap.size+1) 97 i0 (.agg #[.int .i64 0,.slice none 0 0]) 2 32 Tryz.underlying51 hi hz0 hz1 hz2 rfl (by decide) _ _ _ rfl (hO1.alloc _) ⟨w5.heap.size,0,none⟩ 1 1 [Value.int .i64 dv,Value.slice A2 la.length c2] rfl rfl hcn (by simp [Value.oneCell']) (by unfold maxLen;omega) (by omega) (by simp;omega) ?_;intro v' w6 hO2 hgrow _;obtain ⟨A6,c6,rfl⟩:=slice_of_own hO2 (Nat.succ_pos _);have hoa:=hO1.alloc (.cells #[.int .i64 dv,.slice A2 la.length c2] 97);have hR6:=(HC5.out.alloc (.cells #[.int .i64 dv,.slice A2 la.length c2] 97)).grown hoa ⟨by omega,Nat.lt_succ_self _⟩ hgrow;have m3':=hR6.cell2 (j:=3) rfl;have f3':=hR6.free2 3;have HC6:=Lib.hid (hR6.set2 3 (.slice A6 (ys.length+1) c6));have hbx:=hR6.two;have HO6:=Lib.hid (And.intro (own_set (b:=w1.heap.size) (j:=3) (u:=.slice A6 (ys.length+1) c6) hO2 (Nat.lt_succ_self _)) (And.intro (fun z (hz:z∈ys)=>(((HO5.out.1 z hz).kept ((Kept3.refl x y g w5).alloc (.cells #[.int .i64 dv,.slice A2 la.length c2] 97))).grown hoa (by decide) hgrow).setBox (j:=3) (v:=.slice A6 (ys.length+1) c6) hbx (by decide)) (((HO5.out.2.kept ((Kept3.refl x y g w5).alloc (.cells #[.int .i64 dv,.slice A2 la.length c2] 97))).grown hoa (by decide) hgrow).setBox (j:=3) (v:=.slice A6 (ys.length+1) c6) hbx (by decide))));clear hO2 hgrow hO1 hoa hcn hR6 hbx))
        go_roundg m2
        case measure=>omega
        case rel=>exact ⟨k+1,ys++[(⟨dv,la⟩,(A2,c2))],s5,_,by omega,by first | rfl | simp,by rw [List.length_append,List.length_singleton];omega,by rw [List.flatMap_append,List.length_append];exact HO6.out.1,fun z hz=>by
          rcases List.mem_append.1 hz with hz | hz
          · exact HO6.out.2.1 z hz
          · rw [List.mem_singleton] at hz
            subst hz
            exact HO6.out.2.2,HC6.out,by rw [List.map_append];exact HGO.out,fun _=>HSE.out⟩
    · have hltn:¬ ((k:Int)<(nr:Int)):=by omega
      obtain rfl:m'=0:=by omega
      have HQ:=Lib.hid (show (ys.map (·.1),t)=Z from HL.out.1)
      have HST:=Lib.hid (HL.out.2)
      obtain ⟨A,c,rfl,hR⟩:=rp_reads ho hls ⟨by omega,by omega,by omega⟩
      have HX:=Lib.hid (And.intro hR hP)
      have g0:=hP.cell2 (j:=0) rfl
      have g1:=hP.cell2 (j:=1) rfl
      have g2:=hP.cell2 (j:=2) rfl
      have g3:=hP.cell2 (j:=3) rfl
      have g4:=hP.cell2 (j:=4) rfl
      have HW:=Lib.hid (writes7_any (mk:=true) nx (by omega) a wd sn (.slice A ys.length c) (.slice none 0 0) sa sw (fun hh=>by have:=HM.out (HST.out hh);exact ⟨this.1,this.2.1,this.2.2.2⟩) hP.pat (by have:=hP.kept.size;omega))
      obtain ⟨⟨s9,lx⟩,e9⟩:∃ X,eachF (Ps.writeQ V a wd) push nx (t,[])=X:=⟨_,rfl⟩
      rw [e9] at HW
      dsimp only at HW
      have HE9:=Lib.hid e9
      clear ho hls hP HL c1 hR e9
      go_wp2_with (go_at_call 86;refine HW.out.mono ?_;rintro e w7 ⟨A2,c2,rfl,hX,hP7,hK7⟩;have hR7:=HX.out.2.call hP7 hK7;have m4:=hR7.cell2 (j:=4) rfl;have n4:=hR7.free2 4;have hR8:=hR7.set2 4 (.slice A2 lx.length c2);have HR8:=Lib.hid (And.intro hR8 (And.intro (rp_read_box (j:=4) (v:=.slice A2 lx.length c2) (HX.out.1.kept (read_stays x y g) hK7) hR7.two) (rp_write_box (j:=4) (v:=.slice A2 lx.length c2) hX hR7.two)));have u0:=hR8.cell2 (j:=0) rfl;have k0:=hR8.cell (j:=0) rfl;have l0:=hR8.free 0;have u1:=hR8.cell2 (j:=1) rfl;have k1:=hR8.cell (j:=1) rfl;have l1:=hR8.free 1;have u2:=hR8.cell2 (j:=2) rfl;have k2:=hR8.cell (j:=2) rfl;have l2:=hR8.free 2;have u3:=hR8.cell2 (j:=3) rfl;have k3:=hR8.cell (j:=3) rfl;have l3:=hR8.free 3;have u4:=hR8.cell2 (j:=4) rfl;have k4:=hR8.cell (j:=4) rfl;have l4:=hR8.free 4;clear hX hP7 hK7 hR7 hR8)
      try simp only [Exit.inBlock,Exit.then]
      obtain ⟨W9,hW9,hF,hFR,hFX⟩:=HR8.out.1.fin rfl HR8.out.2.1 HR8.out.2.2 (.int .i64 sa) (.int .i64 sw) (.bool sn) (.slice A ys.length c) (.slice A2 lx.length c2)
      subst hW9
      refine bodyPost_ret (results_cell_row rfl _ _ w.heap.size 54 _ (0,0) _ rfl hF.row Tryz.underlying54 rfl (by kernel_rfl)) rfl ?_
      rw [← HQ.out]
      dsimp only
      rw [HE9.out]
      exact ⟨A,c,A2,c2,by rw [List.length_map];rfl,⟨hFR,hFX⟩,hF.pat,hF.kept⟩
end
end Go.Proofs.YtldnepogjnahfaaGreatDoor
