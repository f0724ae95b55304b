/- Same of two netlists that read alike, by definition: they are the same (conditions: both lie where their values say). -/
import Derived.Test.YtldnepogjnahfaaGreatDoorVZF
import Derived.Laws.StructEq
import Derived.BigRegion
set_option linter.unusedVariables false
namespace Go.Proofs.YtldnepogjnahfaaGreatDoor
open Go.ChangeShapes Go.WideShapes Go.RowKit
theorem quiet_more {P:Program} {f:FuncId} {args:Array Value} {w:World} {n m:Nat} {v:Value} (h:Calls P f args (w.drewN (n+m)) fun e w'=>e=.returned v∧∃ q,w'=(w.drewN (n+m)).drewN q):Calls P f args (w.drewN (n+m)) fun e w''=>e=.returned v∧∃ k,w''=w.drewN (n+k) :=
  h.mono fun _ _ ⟨he,q,hm⟩=>⟨he,m+q,by rw [hm,World.drewN_drewN,Nat.add_assoc]⟩
set_option maxRecDepth 100000 in
theorem same_q (xs:List Int) (A1:Option Addr) (c1:Nat) (A2:Option Addr) (c2:Nat) (w:World) (h1:Src w w.heap.size A1 xs) (h2:Src w w.heap.size A2 xs) (hn:xs.length≤9223372036854775807) :
    Calls Tryz.prog 50 #[.slice A1 xs.length c1,.slice A2 xs.length c2] w fun e w'=>e=.returned (.bool true)∧∃ q,w'=w.drewN q:=by
  have H1:=Lib.hid h1
  have H2:=Lib.hid h2
  clear h1 h2
  go_enter Tryz.func50,Tryz.ntmps50
  go_wp2
  go_loopg [5] xs.length (fun m s5 wx=>∃ k q:Nat,k+m=xs.length∧s5=.int .i64 k∧wx=w.drewN q)
  case atStart=>exact ⟨0,0,by omega,rfl,rfl⟩
  case round =>
    obtain ⟨k,q,hk,rfl,rfl⟩:=hrel
    generalize gk=m at *
    by_cases hlt:k<xs.length
    · obtain ⟨x,hx⟩:=some_of_lt hlt
      obtain ⟨b1,o1,rfl,hb1,hc1⟩:=H1.out.at hx
      obtain ⟨b2,o2,rfl,hb2,hc2⟩:=H2.out.at hx
      have g1:=hc1 k x hx
      have g2:=hc2 k x hx
      have hltI:(k:Int)<(xs.length:Int):=by omega
      have hk0:(0:Int)≤(k:Int):=by omega
      clear hc1 hc2 hx
      go_wp2
      go_quiet (fail)
      go_wp2
      go_roundg (m - 1)
      case measure=>omega
      case rel=>exact ⟨k+1,_,by omega,by first | rfl | simp,rfl⟩
    · have hltn:¬ ((k:Int)<(xs.length:Int)):=by omega
      go_wp2
      go_ret
      exact ⟨rfl,_,rfl⟩
theorem two_boxes (W:World) (A B:Array Value) (t:TypeId):((W.alloc (.cells A t)).alloc (.cells B t)).drew.heap[W.heap.size]?=some (.cells A t (0,0))∧((W.alloc (.cells A t)).alloc (.cells B t)).drew.heap[W.heap.size+1]?=some (.cells B t (0,0))∧Below W.heap.size W ((W.alloc (.cells A t)).alloc (.cells B t)).drew:=by
  have h1:=heap_alloc_new W (.cells A t)
  have h2:=heap_alloc_new (W.alloc (.cells A t)) (.cells B t)
  simp only [World.size_alloc] at h2
  exact ⟨(Below.heap_alloc _ _ _ (by simp)).trans h1,h2,(((Below.refl _ W).alloc (Nat.le_refl _) _).alloc (by simp) _).drew⟩
def MemC (x:PMem) (a:Option Addr) (c:Nat) (a2:Option Addr) (c2:Nat):Array Value:=#[.int .i64 x.ma,.int .i64 x.mw,.bool x.mn,.slice a x.mr.length c,.slice a2 x.mx.length c2]
set_option maxRecDepth 100000 in
set_option maxHeartbeats 4000000 in
theorem smem_any (x:PMem) (a:Option Addr) (c:Nat) (a2:Option Addr) (c2:Nat) (b:Option Addr) (d:Nat) (b2:Option Addr) (d2:Nat) (w:World) (h1:Ports w w.heap.size a c a2 c2 x) (h2:Ports w w.heap.size b d b2 d2 x) :
    Calls Tryz.prog 51 #[.agg (MemC x a c a2 c2),.agg (MemC x b d b2 d2)] w fun e w'=>e=.returned (.bool true)∧Below w.heap.size w w':=by
  unfold MemC
  obtain ⟨w1,hw1⟩:∃ w1,w.alloc (.cells #[.int .i64 x.ma,.int .i64 x.mw,.bool x.mn,.slice a x.mr.length c,.slice a2 x.mx.length c2] 54)=w1:=⟨_,rfl⟩
  have hb1:Below w.heap.size w w1:=by rw [← hw1];exact below_box _ _ _
  have hz1:w1.heap.size=w.heap.size+1:=by rw [← hw1];simp
  have hm1:MemBox w1 w.heap.size x a c a2 c2:=by rw [← hw1];exact memBox_new w x a c a2 c2 _
  obtain ⟨w2,hw2⟩:∃ w2,w1.alloc (.cells #[.int .i64 x.ma,.int .i64 x.mw,.bool x.mn,.slice b x.mr.length d,.slice b2 x.mx.length d2] 54)=w2:=⟨_,rfl⟩
  have hb2:Below w1.heap.size w1 w2:=by rw [← hw2];exact below_box _ _ _
  have hz2:w2.heap.size=w.heap.size+2:=by rw [← hw2];simp;omega
  have HM2:=Lib.hid (show MemBox w2 (w.heap.size+1) x b d b2 d2 by rw [← hz1,← hw2];exact memBox_new w1 x b d b2 d2 _)
  have HM1:=Lib.hid (hm1.below hb2 (by omega))
  have HB:=Lib.hid (below_on hb1 hb2)
  have HZ:=Lib.hid hz2
  have HP1:=Lib.hid (Ports.below HB.out (Nat.le_refl _) h1)
  have HP2:=Lib.hid (Ports.below HB.out (Nat.le_refl _) h2)
  have hl1:x.mr.length≤9223372036854775807:=Nat.le_trans h1.2.2.1 h1.2.2.2.1
  have hl2:x.mx.length≤9223372036854775807:=Nat.le_trans h1.2.2.2.2.1 h1.2.2.2.2.2
  obtain ⟨e0,e1,e2,e3,e4,e5⟩:=HM1.out
  obtain ⟨f0,f1,f2,f3,f4,f5⟩:=HM2.out
  clear hb1 hb2 hm1 hz2 h1 h2
  go_enter Tryz.func51,Tryz.ntmps51
  go_wp2
  clear hw1 hw2 hz1
  go_loopg [5] x.mr.length (fun m s5 wx=>∃ k q:Nat,k+m=x.mr.length∧s5=.int .i64 k∧wx=w2.drewN q)
  case atStart=>exact ⟨0,0,by omega,rfl,rfl⟩
  case round =>
    obtain ⟨k,q,hk,rfl,rfl⟩:=hrel
    generalize gk=m at *
    by_cases hlt:k<x.mr.length
    · obtain ⟨r,hr⟩:=some_of_lt hlt
      obtain ⟨br,orr,hS,hbg,hcell⟩:=HP1.out.1.at hr
      obtain ⟨ra,rc,m0,m1,hsrc,hcap,hcc⟩:=hcell k r hr
      obtain ⟨bs,os,hS2,hbg2,hcell2⟩:=HP2.out.1.at hr
      obtain ⟨sa,sc,n0,n1,hsrc2,hcap2,hcc2⟩:=hcell2 k r hr
      rw [hS] at e3
      rw [hS2] at f3
      have HX:=Lib.hid (fun n:Nat=>same_q r.ra ra rc sa sc (w2.drewN n) (Src.wider (w:=w2) hsrc (by have:=HZ.out;show _≤w2.heap.size;omega)) (Src.wider (w:=w2) hsrc2 (by have:=HZ.out;show _≤w2.heap.size;omega)) (Nat.le_trans hcap hcc))
      have hltI:(k:Int)<(x.mr.length:Int):=by omega
      have hk0:(0:Int)≤(k:Int):=by omega
      clear hS hS2 hcell hcell2 hsrc hsrc2 hr hcap hcap2 hcc hcc2
      go_wp2
      go_quiet (first | (go_at_call 50;refine quiet_more (HX.out _)))
      go_wp2
      go_roundg (m - 1)
      case measure=>omega
      case rel=>exact ⟨k+1,_,by omega,by first | rfl | simp,rfl⟩
    · have hltn:¬ ((k:Int)<(x.mr.length:Int)):=by omega
      go_wp2
      go_loopg [6] x.mx.length (fun m s6 wx=>∃ (k:Nat) (W:World),k+m=x.mx.length∧s6=.int .i64 k∧Aside (Below w2.heap.size w2 W)∧W=wx)
      case atStart=>exact ⟨0,_,by omega,rfl,below_drewN (Below.refl _ _) _,rfl⟩
      case round =>
        obtain ⟨i,W,hi,rfl,HJ,rfl⟩:=hrel
        generalize gk=m2 at *
        clear e0 e1 e2 e3 e4 e5 f0 f1 f2 f3 f4 f5
        have HJ:Hid (Below w2.heap.size w2 W):=Lib.hid HJ
        obtain ⟨e0,e1,e2,e3,e4,e5⟩:=HM1.out.below HJ.out (by have:=HZ.out;omega)
        obtain ⟨f0,f1,f2,f3,f4,f5⟩:=HM2.out.below HJ.out (by have:=HZ.out;omega)
        by_cases hil:i<x.mx.length
        · obtain ⟨r,hr⟩:=some_of_lt hil
          have hQ1:=Ports.below HJ.out (by have:=HZ.out;omega) HP1.out
          have hQ2:=Ports.below HJ.out (by have:=HZ.out;omega) HP2.out
          obtain ⟨br,orr,hS,hbg,hcell⟩:=hQ1.2.1.at hr
          obtain ⟨ra,rc,ra2,rc2,m0,m1,m2',hsrc,hsrd,hcap,hcc,hcap2,hcc2⟩:=hcell i r hr
          obtain ⟨bs,os,hS2,hbg2,hcell2⟩:=hQ2.2.1.at hr
          obtain ⟨sa,sc,sa2,sc2,n0,n1,n2',hsrc2,hsrd2,_⟩:=hcell2 i r hr
          rw [hS] at e4
          rw [hS2] at f4
          have hltI:(i:Int)<(x.mx.length:Int):=by omega
          have hi0:(0:Int)≤(i:Int):=by omega
          have hg1:w.heap.size<W.heap.size:=by have:=HZ.out;have:=HJ.out.size;omega
          have hg2:w.heap.size+1<W.heap.size:=by have:=HZ.out;have:=HJ.out.size;omega
          have hg3:br<W.heap.size:=by omega
          have hg4:bs<W.heap.size:=by omega
          have B1:∀ o,Below W.heap.size W (W.alloc o):=fun o=>(Below.refl _ W).alloc (Nat.le_refl _) o
          have B2:∀ o o',Below W.heap.size W ((W.alloc o).alloc o'):=fun o o'=>(B1 o).alloc (B1 o).size o'
          have X0:∀ q,(W.alloc q).cell? ⟨w.heap.size,4,none⟩=some (.slice (some ⟨br,orr,none⟩) x.mx.length c2):=fun q=>((B1 q).cell (p:=⟨w.heap.size,4,none⟩) hg1).trans e4
          have Y0:∀ q q',((W.alloc q).alloc q').cell? ⟨w.heap.size,4,none⟩=some (.slice (some ⟨br,orr,none⟩) x.mx.length c2):=fun q q'=>((B2 q q').cell (p:=⟨w.heap.size,4,none⟩) hg1).trans e4
          have X1:∀ q,(W.alloc q).cell? ⟨w.heap.size+1,4,none⟩=some (.slice (some ⟨bs,os,none⟩) x.mx.length d2):=fun q=>((B1 q).cell (p:=⟨w.heap.size+1,4,none⟩) hg2).trans f4
          have Y1:∀ q q',((W.alloc q).alloc q').cell? ⟨w.heap.size+1,4,none⟩=some (.slice (some ⟨bs,os,none⟩) x.mx.length d2):=fun q q'=>((B2 q q').cell (p:=⟨w.heap.size+1,4,none⟩) hg2).trans f4
          have X2:∀ q,(W.alloc q).cell? ⟨br,orr+i*3,none⟩=some (.int .i64 r.wo):=fun q=>((B1 q).cell (p:=⟨br,orr+i*3,none⟩) hg3).trans m0
          have Y2:∀ q q',((W.alloc q).alloc q').cell? ⟨br,orr+i*3,none⟩=some (.int .i64 r.wo):=fun q q'=>((B2 q q').cell (p:=⟨br,orr+i*3,none⟩) hg3).trans m0
          have X3:∀ q,(W.alloc q).cell? ⟨br,orr+i*3+1,none⟩=some (.slice ra r.wa.length rc):=fun q=>((B1 q).cell (p:=⟨br,orr+i*3+1,none⟩) hg3).trans m1
          have Y3:∀ q q',((W.alloc q).alloc q').cell? ⟨br,orr+i*3+1,none⟩=some (.slice ra r.wa.length rc):=fun q q'=>((B2 q q').cell (p:=⟨br,orr+i*3+1,none⟩) hg3).trans m1
          have X4:∀ q,(W.alloc q).cell? ⟨br,orr+i*3+2,none⟩=some (.slice ra2 r.wd.length rc2):=fun q=>((B1 q).cell (p:=⟨br,orr+i*3+2,none⟩) hg3).trans m2'
          have Y4:∀ q q',((W.alloc q).alloc q').cell? ⟨br,orr+i*3+2,none⟩=some (.slice ra2 r.wd.length rc2):=fun q q'=>((B2 q q').cell (p:=⟨br,orr+i*3+2,none⟩) hg3).trans m2'
          have X5:∀ q,(W.alloc q).cell? ⟨bs,os+i*3,none⟩=some (.int .i64 r.wo):=fun q=>((B1 q).cell (p:=⟨bs,os+i*3,none⟩) hg4).trans n0
          have Y5:∀ q q',((W.alloc q).alloc q').cell? ⟨bs,os+i*3,none⟩=some (.int .i64 r.wo):=fun q q'=>((B2 q q').cell (p:=⟨bs,os+i*3,none⟩) hg4).trans n0
          have X6:∀ q,(W.alloc q).cell? ⟨bs,os+i*3+1,none⟩=some (.slice sa r.wa.length sc):=fun q=>((B1 q).cell (p:=⟨bs,os+i*3+1,none⟩) hg4).trans n1
          have Y6:∀ q q',((W.alloc q).alloc q').cell? ⟨bs,os+i*3+1,none⟩=some (.slice sa r.wa.length sc):=fun q q'=>((B2 q q').cell (p:=⟨bs,os+i*3+1,none⟩) hg4).trans n1
          have X7:∀ q,(W.alloc q).cell? ⟨bs,os+i*3+2,none⟩=some (.slice sa2 r.wd.length sc2):=fun q=>((B1 q).cell (p:=⟨bs,os+i*3+2,none⟩) hg4).trans n2'
          have Y7:∀ q q',((W.alloc q).alloc q').cell? ⟨bs,os+i*3+2,none⟩=some (.slice sa2 r.wd.length sc2):=fun q q'=>((B2 q q').cell (p:=⟨bs,os+i*3+2,none⟩) hg4).trans n2'
          have Z0:¬ (W.heap.size=w.heap.size):=by omega
          have V0:¬ (W.heap.size+1=w.heap.size):=by omega
          have Z1:¬ (W.heap.size=w.heap.size+1):=by omega
          have V1:¬ (W.heap.size+1=w.heap.size+1):=by omega
          have Z2:¬ (W.heap.size=br):=by omega
          have V2:¬ (W.heap.size+1=br):=by omega
          have Z3:¬ (W.heap.size=bs):=by omega
          have V3:¬ (W.heap.size+1=bs):=by omega
          have HC:=Lib.hid (And.intro hQ1 hQ2)
          have HW:=Lib.hid (And.intro (And.intro hsrc hsrd) (And.intro hsrc2 hsrd2))
          have HN:=Lib.hid (And.intro (Nat.le_trans hcap hcc) (Nat.le_trans hcap2 hcc2))
          clear B1 B2 hQ1 hQ2 hcell hcell2 hS hS2 hr hsrc hsrd hsrc2 hsrd2 hcap hcc hcap2 hcc2
          go_wp2
          go_region
          all_goals clear X0 X1 X2 X3 X4 X5 X6 X7 Y0 Y1 Y2 Y3 Y4 Y5 Y6 Y7
          · obtain ⟨r1,r2,hb3⟩:=two_boxes W #[.int .i64 r.wo,.slice ra r.wa.length rc,.slice ra2 r.wd.length rc2] #[.int .i64 r.wo,.slice sa r.wa.length sc,.slice sa2 r.wd.length sc2] 99
            generalize ((W.alloc (.cells #[.int .i64 r.wo,.slice ra r.wa.length rc,.slice ra2 r.wd.length rc2] 99)).alloc (.cells #[.int .i64 r.wo,.slice sa r.wa.length sc,.slice sa2 r.wd.length sc2] 99)).drew=W3 at r1 r2 hb3 ⊢
            have c00:W3.cell? ⟨W.heap.size,0,none⟩=some (.int .i64 r.wo):=by rw [cell_of_row _ _ _ _ _ _ r1];rfl
            have c01:W3.cell? ⟨W.heap.size,1,none⟩=some (.slice ra r.wa.length rc):=by rw [cell_of_row _ _ _ _ _ _ r1];rfl
            have c02:W3.cell? ⟨W.heap.size,2,none⟩=some (.slice ra2 r.wd.length rc2):=by rw [cell_of_row _ _ _ _ _ _ r1];rfl
            have c10:W3.cell? ⟨W.heap.size+1,0,none⟩=some (.int .i64 r.wo):=by rw [cell_of_row _ _ _ _ _ _ r2];rfl
            have c11:W3.cell? ⟨W.heap.size+1,1,none⟩=some (.slice sa r.wa.length sc):=by rw [cell_of_row _ _ _ _ _ _ r2];rfl
            have c12:W3.cell? ⟨W.heap.size+1,2,none⟩=some (.slice sa2 r.wd.length sc2):=by rw [cell_of_row _ _ _ _ _ _ r2];rfl
            have hz3:=hb3.size
            have HX:=Lib.hid (fun (V:World) (hV:∃ n,V=W3.drewN n)=>show Calls Tryz.prog 50 #[.slice ra r.wa.length rc,.slice sa r.wa.length sc] V (fun e w'=>e=.returned (.bool true)∧∃ q,w'=V.drewN q) from by
              obtain ⟨n,rfl⟩:=hV
              exact same_q r.wa ra rc sa sc (W3.drewN n) (Src.wider (w:=W3) (HW.out.1.1.below hb3 (by omega)) (by show _≤W3.heap.size;omega)) (Src.wider (w:=W3) (HW.out.2.1.below hb3 (by omega)) (by show _≤W3.heap.size;omega)) HN.out.1)
            have HY:=Lib.hid (fun (V:World) (hV:∃ n,V=W3.drewN n)=>show Calls Tryz.prog 50 #[.slice ra2 r.wd.length rc2,.slice sa2 r.wd.length sc2] V (fun e w'=>e=.returned (.bool true)∧∃ q,w'=V.drewN q) from by
              obtain ⟨n,rfl⟩:=hV
              exact same_q r.wd ra2 rc2 sa2 sc2 (W3.drewN n) (Src.wider (w:=W3) (HW.out.1.2.below hb3 (by omega)) (by show _≤W3.heap.size;omega)) (Src.wider (w:=W3) (HW.out.2.2.below hb3 (by omega)) (by show _≤W3.heap.size;omega)) HN.out.2)
            have HD:=Lib.hid (below_on HJ.out (hb3.mono (Nat.le_refl _)))
            clear r1 r2 hb3 hz3
            go_wp2_with (first
              | (go_at_call 50;refine (HX.out _ ⟨0,rfl⟩).mono ?_;clear HX;rintro e w5 ⟨rfl,q5,rfl⟩)
              | (go_at_call 50;refine (HY.out _ ⟨_,rfl⟩).mono ?_;clear HY;rintro e w6 ⟨rfl,q6,rfl⟩))
            go_roundg (m2 - 1)
            case measure=>omega
            case rel=>exact ⟨i+1,_,by omega,by first | rfl | simp,by repeat (first | exact HD.out | refine below_drewN ?_ _),rfl⟩
          · obtain ⟨r1,r2,hb3⟩:=two_boxes W #[.int .i64 r.wo,.slice sa r.wa.length sc,.slice sa2 r.wd.length sc2] #[.int .i64 r.wo,.slice ra r.wa.length rc,.slice ra2 r.wd.length rc2] 99
            generalize ((W.alloc (.cells #[.int .i64 r.wo,.slice sa r.wa.length sc,.slice sa2 r.wd.length sc2] 99)).alloc (.cells #[.int .i64 r.wo,.slice ra r.wa.length rc,.slice ra2 r.wd.length rc2] 99)).drew=W3 at r1 r2 hb3 ⊢
            have c00:W3.cell? ⟨W.heap.size,0,none⟩=some (.int .i64 r.wo):=by rw [cell_of_row _ _ _ _ _ _ r1];rfl
            have c01:W3.cell? ⟨W.heap.size,1,none⟩=some (.slice sa r.wa.length sc):=by rw [cell_of_row _ _ _ _ _ _ r1];rfl
            have c02:W3.cell? ⟨W.heap.size,2,none⟩=some (.slice sa2 r.wd.length sc2):=by rw [cell_of_row _ _ _ _ _ _ r1];rfl
            have c10:W3.cell? ⟨W.heap.size+1,0,none⟩=some (.int .i64 r.wo):=by rw [cell_of_row _ _ _ _ _ _ r2];rfl
            have c11:W3.cell? ⟨W.heap.size+1,1,none⟩=some (.slice ra r.wa.length rc):=by rw [cell_of_row _ _ _ _ _ _ r2];rfl
            have c12:W3.cell? ⟨W.heap.size+1,2,none⟩=some (.slice ra2 r.wd.length rc2):=by rw [cell_of_row _ _ _ _ _ _ r2];rfl
            have hz3:=hb3.size
            have HX:=Lib.hid (fun (V:World) (hV:∃ n,V=W3.drewN n)=>show Calls Tryz.prog 50 #[.slice ra r.wa.length rc,.slice sa r.wa.length sc] V (fun e w'=>e=.returned (.bool true)∧∃ q,w'=V.drewN q) from by
              obtain ⟨n,rfl⟩:=hV
              exact same_q r.wa ra rc sa sc (W3.drewN n) (Src.wider (w:=W3) (HW.out.1.1.below hb3 (by omega)) (by show _≤W3.heap.size;omega)) (Src.wider (w:=W3) (HW.out.2.1.below hb3 (by omega)) (by show _≤W3.heap.size;omega)) HN.out.1)
            have HY:=Lib.hid (fun (V:World) (hV:∃ n,V=W3.drewN n)=>show Calls Tryz.prog 50 #[.slice ra2 r.wd.length rc2,.slice sa2 r.wd.length sc2] V (fun e w'=>e=.returned (.bool true)∧∃ q,w'=V.drewN q) from by
              obtain ⟨n,rfl⟩:=hV
              exact same_q r.wd ra2 rc2 sa2 sc2 (W3.drewN n) (Src.wider (w:=W3) (HW.out.1.2.below hb3 (by omega)) (by show _≤W3.heap.size;omega)) (Src.wider (w:=W3) (HW.out.2.2.below hb3 (by omega)) (by show _≤W3.heap.size;omega)) HN.out.2)
            have HD:=Lib.hid (below_on HJ.out (hb3.mono (Nat.le_refl _)))
            clear r1 r2 hb3 hz3
            go_wp2_with (first
              | (go_at_call 50;refine (HX.out _ ⟨0,rfl⟩).mono ?_;clear HX;rintro e w5 ⟨rfl,q5,rfl⟩)
              | (go_at_call 50;refine (HY.out _ ⟨_,rfl⟩).mono ?_;clear HY;rintro e w6 ⟨rfl,q6,rfl⟩))
            go_roundg (m2 - 1)
            case measure=>omega
            case rel=>exact ⟨i+1,_,by omega,by first | rfl | simp,by repeat (first | exact HD.out | refine below_drewN ?_ _),rfl⟩
        · have hiln:¬ ((i:Int)<(x.mx.length:Int)):=by omega
          go_wp2
          go_ret
          exact ⟨rfl,below_on HB.out HJ.out⟩
theorem neq_latch (a b c:Int) (w:World):(binOp .neq 48 (.agg #[.int .i64 a,.int .i64 b,.int .i64 c]) (.agg #[.int .i64 a,.int .i64 b,.int .i64 c])).run Tryz.prog w=.ok (.bool false) w:=by
  have u3:=Tryz.underlying3
  have a3:=Tryz.isAgg3
  have z3:=Tryz.sizeOf3
  have hS:Tryz.prog.underlying 48=some (.struct (Tryz.prog.fieldsOf 48)):=by kernel_rfl
  have hp:Tryz.prog.stoodInHeld 48=false:=by kernel_rfl
  rw [run_neq_struct,show (10000:Nat)=9999+1 from rfl,run_equalIn_agg w 9999 48 _ _ hS hp]
  simp only [Program.fieldsOf,Tryz.underlying48]
  go_simp
theorem guard_latch (op:BinOp) (x y:Operand) (xs ys:Array Value) (w:World):(eqGuard op 48 x y (.agg xs) (.agg ys)).run Tryz.prog w=.ok () w:=run_eqGuard_agg w op 48 x y xs ys (by kernel_rfl)
theorem neq_and (a b c:Int) (w:World):(binOp .neq 57 (.agg #[.int .i64 a,.int .i64 b,.int .i64 c]) (.agg #[.int .i64 a,.int .i64 b,.int .i64 c])).run Tryz.prog w=.ok (.bool false) w:=by
  have u3:=Tryz.underlying3
  have a3:=Tryz.isAgg3
  have z3:=Tryz.sizeOf3
  have hS:Tryz.prog.underlying 57=some (.struct (Tryz.prog.fieldsOf 57)):=by kernel_rfl
  have hp:Tryz.prog.stoodInHeld 57=false:=by kernel_rfl
  rw [run_neq_struct,show (10000:Nat)=9999+1 from rfl,run_equalIn_agg w 9999 57 _ _ hS hp]
  simp only [Program.fieldsOf,Tryz.underlying57]
  go_simp
theorem guard_and (op:BinOp) (x y:Operand) (xs ys:Array Value) (w:World):(eqGuard op 57 x y (.agg xs) (.agg ys)).run Tryz.prog w=.ok () w:=run_eqGuard_agg w op 57 x y xs ys (by kernel_rfl)
set_option maxRecDepth 100000 in
set_option maxHeartbeats 8000000 in
theorem same5_any (n:PNet) (S T:NetS) (w:World) (h1:NetAt w w.heap.size S n) (h2:NetAt w w.heap.size T n) :
    Calls Tryz.prog 15 #[.agg #[.int .i64 n.vars,.slice S.i n.inputs.length S.ic,.slice S.l n.latches.length S.lc,.slice S.o n.outs.length S.oc,.slice S.b n.bads.length S.bc,.slice S.c n.cons.length S.cc,.slice S.m n.mems.length S.mc,.slice S.a n.ands.length S.ac],.agg #[.int .i64 n.vars,.slice T.i n.inputs.length T.ic,.slice T.l n.latches.length T.lc,.slice T.o n.outs.length T.oc,.slice T.b n.bads.length T.bc,.slice T.c n.cons.length T.cc,.slice T.m n.mems.length T.mc,.slice T.a n.ands.length T.ac]] w fun e w'=>e=.returned (.bool true)∧Below w.heap.size w w':=by
  obtain ⟨w1,hw1⟩:∃ w1,w.alloc (.cells #[.int .i64 n.vars,.slice S.i n.inputs.length S.ic,.slice S.l n.latches.length S.lc,.slice S.o n.outs.length S.oc,.slice S.b n.bads.length S.bc,.slice S.c n.cons.length S.cc,.slice S.m n.mems.length S.mc,.slice S.a n.ands.length S.ac] 27)=w1:=⟨_,rfl⟩
  have hb1:Below w.heap.size w w1:=by rw [← hw1];exact below_box _ _ _
  have hz1:w1.heap.size=w.heap.size+1:=by rw [← hw1];simp
  have hm1:NetBox w1 w.heap.size n S:=by rw [← hw1];exact netBox_new w n S _
  obtain ⟨w2,hw2⟩:∃ w2,w1.alloc (.cells #[.int .i64 n.vars,.slice T.i n.inputs.length T.ic,.slice T.l n.latches.length T.lc,.slice T.o n.outs.length T.oc,.slice T.b n.bads.length T.bc,.slice T.c n.cons.length T.cc,.slice T.m n.mems.length T.mc,.slice T.a n.ands.length T.ac] 27)=w2:=⟨_,rfl⟩
  have hb2:Below w1.heap.size w1 w2:=by rw [← hw2];exact below_box _ _ _
  have hz2:w2.heap.size=w.heap.size+2:=by rw [← hw2];simp;omega
  have HM2:=Lib.hid (show NetBox w2 (w.heap.size+1) n T by rw [← hz1,← hw2];exact netBox_new w1 n T _)
  have HM1:=Lib.hid (hm1.below hb2 (by omega))
  have HB:=Lib.hid (below_on hb1 hb2)
  have HZ:=Lib.hid hz2
  have HN1:=Lib.hid (NetAt.below HB.out (Nat.le_refl _) h1)
  have HN2:=Lib.hid (NetAt.below HB.out (Nat.le_refl _) h2)
  have hl1:n.latches.length≤9223372036854775807:=Nat.le_trans h1.caps.2.1 h1.room.2.1
  have hl2:n.ands.length≤9223372036854775807:=Nat.le_trans h1.caps.2.2.2.2.2.2 h1.room.2.2.2.2.2.2
  have hl3:n.mems.length≤9223372036854775807:=Nat.le_trans h1.caps.2.2.2.2.2.1 h1.room.2.2.2.2.2.1
  have hsz:∀ m:Nat,w.heap.size≤(w2.drewN m).heap.size:=fun m=>by show w.heap.size≤w2.heap.size;omega
  have HI:=Lib.hid (fun (V:World) (hV:∃ n,V=w2.drewN n)=>show Calls Tryz.prog 50 #[.slice S.i n.inputs.length S.ic,.slice T.i n.inputs.length T.ic] V (fun e w'=>e=.returned (.bool true)∧∃ q,w'=V.drewN q) from by
    obtain ⟨k,rfl⟩:=hV
    exact same_q n.inputs S.i S.ic T.i T.ic (w2.drewN k) (Src.wider (w:=w2) HN1.out.inputs (hsz k)) (Src.wider (w:=w2) HN2.out.inputs (hsz k)) (Nat.le_trans h1.caps.1 h1.room.1))
  have HR:=Lib.hid (fun (l:List Int) (a b:Option Addr) (c d:Nat) (V:World) (hb:Below w2.heap.size w2 V) (ha:Src w2 w.heap.size a l) (hb2:Src w2 w.heap.size b l) (hn:l.length≤9223372036854775807)=>same_q l a c b d V (Src.wider (Src.below ha hb (by omega)) (by have:=hb.size;omega)) (Src.wider (Src.below hb2 hb (by omega)) (by have:=hb.size;omega)) hn)
  have HL:=Lib.hid (And.intro (Nat.le_trans h1.caps.2.2.1 h1.room.2.2.1) (And.intro (Nat.le_trans h1.caps.2.2.2.1 h1.room.2.2.2.1) (Nat.le_trans h1.caps.2.2.2.2.1 h1.room.2.2.2.2.1)))
  obtain ⟨e0,e1,e2,e3,e4,e5,e6,e7,e8⟩:=HM1.out
  obtain ⟨f0,f1,f2,f3,f4,f5,f6,f7,f8⟩:=HM2.out
  clear hb1 hb2 hm1 hz2 h1 h2 hsz
  go_enter Tryz.func15,Tryz.ntmps15
  go_wp2_with (first
    | (go_at_call 50;refine (HI.out _ ⟨0,rfl⟩).mono ?_;clear HI hw1 hw2 hz1;rintro e w5 ⟨rfl,q5,rfl⟩))
  go_loopg [5] n.latches.length (fun m s5 wx=>∃ k q:Nat,k+m=n.latches.length∧s5=.int .i64 k∧wx=w2.drewN q)
  case atStart=>exact ⟨0,_,by omega,rfl,rfl⟩
  case round =>
    obtain ⟨k,q,hk,rfl,rfl⟩:=hrel
    generalize gk=m at *
    by_cases hlt:k<n.latches.length
    · obtain ⟨r,hr⟩:=some_of_lt hlt
      obtain ⟨br,orr,hS,hbg,hcell⟩:=HN1.out.latches.at hr
      obtain ⟨m0,m1,m2⟩:=hcell k r hr
      obtain ⟨bs,os,hS2,hbg2,hcell2⟩:=HN2.out.latches.at hr
      obtain ⟨p0,p1,p2⟩:=hcell2 k r hr
      rw [hS] at e2
      rw [hS2] at f2
      have hne:=neq_latch
      have hgd:=guard_latch
      have hltI:(k:Int)<(n.latches.length:Int):=by omega
      have hk0:(0:Int)≤(k:Int):=by omega
      clear hS hS2 hcell hcell2 hr
      go_wp2
      go_quiet (fail)
      go_wp2
      go_roundg (m - 1)
      case measure=>omega
      case rel=>exact ⟨k+1,_,by omega,by first | rfl | simp,rfl⟩
    · have hltn:¬ ((k:Int)<(n.latches.length:Int)):=by omega
      go_wp2
      go_loopg [6] n.ands.length (fun m s6 wx=>∃ k q:Nat,k+m=n.ands.length∧s6=.int .i64 k∧wx=w2.drewN q)
      case atStart=>exact ⟨0,_,by omega,rfl,rfl⟩
      case round =>
        obtain ⟨k,q,hk,rfl,rfl⟩:=hrel
        generalize gk=m at *
        by_cases hlt:k<n.ands.length
        · obtain ⟨r,hr⟩:=some_of_lt hlt
          obtain ⟨br,orr,hS,hbg,hcell⟩:=HN1.out.ands.at hr
          obtain ⟨m0,m1,m2⟩:=hcell k r hr
          obtain ⟨bs,os,hS2,hbg2,hcell2⟩:=HN2.out.ands.at hr
          obtain ⟨p0,p1,p2⟩:=hcell2 k r hr
          rw [hS] at e7
          rw [hS2] at f7
          have hne:=neq_and
          have hgd:=guard_and
          have hltI:(k:Int)<(n.ands.length:Int):=by omega
          have hk0:(0:Int)≤(k:Int):=by omega
          clear hS hS2 hcell hcell2 hr
          go_wp2
          go_quiet (fail)
          go_wp2
          go_roundg (m - 1)
          case measure=>omega
          case rel=>exact ⟨k+1,_,by omega,by first | rfl | simp,rfl⟩
        · have hltn:¬ ((k:Int)<(n.ands.length:Int)):=by omega
          go_wp2
          go_loopg [7] n.mems.length (fun m s7 wx=>∃ (k:Nat) (W:World),k+m=n.mems.length∧s7=.int .i64 k∧Aside (Below w2.heap.size w2 W)∧W=wx)
          case atStart=>exact ⟨0,_,by omega,rfl,below_drewN (Below.refl _ _) _,rfl⟩
          case round =>
            obtain ⟨i,W,hi,rfl,HJ,rfl⟩:=hrel
            generalize gk=m2 at *
            clear e0 e1 e2 e3 e4 e5 e6 e7 e8 f0 f1 f2 f3 f4 f5 f6 f7 f8
            have HJ:Hid (Below w2.heap.size w2 W):=Lib.hid HJ
            obtain ⟨e0,e1,e2,e3,e4,e5,e6,e7,e8⟩:=HM1.out.below HJ.out (by have:=HZ.out;omega)
            obtain ⟨f0,f1,f2,f3,f4,f5,f6,f7,f8⟩:=HM2.out.below HJ.out (by have:=HZ.out;omega)
            by_cases hil:i<n.mems.length
            · obtain ⟨x,hx⟩:=some_of_lt hil
              obtain ⟨br,orr,hS,hbg,hcell⟩:=(NetAt.below HJ.out (by have:=HZ.out;omega) HN1.out).mems.at hx
              obtain ⟨a,c,a2,c2,m0,m1,m2',m3,m4,hP⟩:=hcell i x hx
              obtain ⟨bs,os,hS2,hbg2,hcell2⟩:=(NetAt.below HJ.out (by have:=HZ.out;omega) HN2.out).mems.at hx
              obtain ⟨b,d,b2,d2,n0,n1,n2,n3,n4,hP2⟩:=hcell2 i x hx
              rw [hS] at e6
              rw [hS2] at f6
              have hltI:(i:Int)<(n.mems.length:Int):=by omega
              have hi0:(0:Int)≤(i:Int):=by omega
              have hg1:w.heap.size<W.heap.size:=e8
              have hg2:w.heap.size+1<W.heap.size:=f8
              have hg3:br<W.heap.size:=by omega
              have hg4:bs<W.heap.size:=by omega
              have HK:=Lib.hid fun (V:World) (hV:Below W.heap.size W V)=>show (V.cell? ⟨w.heap.size,6,none⟩=some (.slice (some ⟨br,orr,none⟩) n.mems.length S.mc)∧V.cell? ⟨w.heap.size+1,6,none⟩=some (.slice (some ⟨bs,os,none⟩) n.mems.length T.mc)∧V.cell? ⟨br,orr+i*5,none⟩=some (.int .i64 x.ma)∧V.cell? ⟨br,orr+i*5+1,none⟩=some (.int .i64 x.mw)∧V.cell? ⟨br,orr+i*5+2,none⟩=some (.bool x.mn)∧V.cell? ⟨br,orr+i*5+3,none⟩=some (.slice a x.mr.length c)∧V.cell? ⟨br,orr+i*5+4,none⟩=some (.slice a2 x.mx.length c2)∧V.cell? ⟨bs,os+i*5,none⟩=some (.int .i64 x.ma)∧V.cell? ⟨bs,os+i*5+1,none⟩=some (.int .i64 x.mw)∧V.cell? ⟨bs,os+i*5+2,none⟩=some (.bool x.mn)∧V.cell? ⟨bs,os+i*5+3,none⟩=some (.slice b x.mr.length d)∧V.cell? ⟨bs,os+i*5+4,none⟩=some (.slice b2 x.mx.length d2))∧Hid (Below W.heap.size W V) from
                ⟨⟨(hV.cell (p:=⟨w.heap.size,6,none⟩) hg1).trans e6,(hV.cell (p:=⟨w.heap.size+1,6,none⟩) hg2).trans f6,(hV.cell (p:=⟨br,orr+i*5,none⟩) hg3).trans m0,(hV.cell (p:=⟨br,orr+i*5+1,none⟩) hg3).trans m1,(hV.cell (p:=⟨br,orr+i*5+2,none⟩) hg3).trans m2',(hV.cell (p:=⟨br,orr+i*5+3,none⟩) hg3).trans m3,(hV.cell (p:=⟨br,orr+i*5+4,none⟩) hg3).trans m4,(hV.cell (p:=⟨bs,os+i*5,none⟩) hg4).trans n0,(hV.cell (p:=⟨bs,os+i*5+1,none⟩) hg4).trans n1,(hV.cell (p:=⟨bs,os+i*5+2,none⟩) hg4).trans n2,(hV.cell (p:=⟨bs,os+i*5+3,none⟩) hg4).trans n3,(hV.cell (p:=⟨bs,os+i*5+4,none⟩) hg4).trans n4⟩,Lib.hid hV⟩
              have HT:=Lib.hid fun (V V':World) (hV:(V.cell? ⟨w.heap.size,6,none⟩=some (.slice (some ⟨br,orr,none⟩) n.mems.length S.mc)∧V.cell? ⟨w.heap.size+1,6,none⟩=some (.slice (some ⟨bs,os,none⟩) n.mems.length T.mc)∧V.cell? ⟨br,orr+i*5,none⟩=some (.int .i64 x.ma)∧V.cell? ⟨br,orr+i*5+1,none⟩=some (.int .i64 x.mw)∧V.cell? ⟨br,orr+i*5+2,none⟩=some (.bool x.mn)∧V.cell? ⟨br,orr+i*5+3,none⟩=some (.slice a x.mr.length c)∧V.cell? ⟨br,orr+i*5+4,none⟩=some (.slice a2 x.mx.length c2)∧V.cell? ⟨bs,os+i*5,none⟩=some (.int .i64 x.ma)∧V.cell? ⟨bs,os+i*5+1,none⟩=some (.int .i64 x.mw)∧V.cell? ⟨bs,os+i*5+2,none⟩=some (.bool x.mn)∧V.cell? ⟨bs,os+i*5+3,none⟩=some (.slice b x.mr.length d)∧V.cell? ⟨bs,os+i*5+4,none⟩=some (.slice b2 x.mx.length d2))∧Hid (Below W.heap.size W V)) (hV':Below V.heap.size V V')=>HK.out V' (below_on hV.2.out hV')
              have HQ:=Lib.hid fun (V:World) (hV:(V.cell? ⟨w.heap.size,6,none⟩=some (.slice (some ⟨br,orr,none⟩) n.mems.length S.mc)∧V.cell? ⟨w.heap.size+1,6,none⟩=some (.slice (some ⟨bs,os,none⟩) n.mems.length T.mc)∧V.cell? ⟨br,orr+i*5,none⟩=some (.int .i64 x.ma)∧V.cell? ⟨br,orr+i*5+1,none⟩=some (.int .i64 x.mw)∧V.cell? ⟨br,orr+i*5+2,none⟩=some (.bool x.mn)∧V.cell? ⟨br,orr+i*5+3,none⟩=some (.slice a x.mr.length c)∧V.cell? ⟨br,orr+i*5+4,none⟩=some (.slice a2 x.mx.length c2)∧V.cell? ⟨bs,os+i*5,none⟩=some (.int .i64 x.ma)∧V.cell? ⟨bs,os+i*5+1,none⟩=some (.int .i64 x.mw)∧V.cell? ⟨bs,os+i*5+2,none⟩=some (.bool x.mn)∧V.cell? ⟨bs,os+i*5+3,none⟩=some (.slice b x.mr.length d)∧V.cell? ⟨bs,os+i*5+4,none⟩=some (.slice b2 x.mx.length d2))∧Hid (Below W.heap.size W V))=>smem_any x a c a2 c2 b d b2 d2 V (Ports.wider (by have:=hV.2.out.size;omega) (Ports.below hV.2.out (by omega) hP)) (Ports.wider (by have:=hV.2.out.size;omega) (Ports.below hV.2.out (by omega) hP2))
              have HW:=Lib.hid fun (V:World) (hV:(V.cell? ⟨w.heap.size,6,none⟩=some (.slice (some ⟨br,orr,none⟩) n.mems.length S.mc)∧V.cell? ⟨w.heap.size+1,6,none⟩=some (.slice (some ⟨bs,os,none⟩) n.mems.length T.mc)∧V.cell? ⟨br,orr+i*5,none⟩=some (.int .i64 x.ma)∧V.cell? ⟨br,orr+i*5+1,none⟩=some (.int .i64 x.mw)∧V.cell? ⟨br,orr+i*5+2,none⟩=some (.bool x.mn)∧V.cell? ⟨br,orr+i*5+3,none⟩=some (.slice a x.mr.length c)∧V.cell? ⟨br,orr+i*5+4,none⟩=some (.slice a2 x.mx.length c2)∧V.cell? ⟨bs,os+i*5,none⟩=some (.int .i64 x.ma)∧V.cell? ⟨bs,os+i*5+1,none⟩=some (.int .i64 x.mw)∧V.cell? ⟨bs,os+i*5+2,none⟩=some (.bool x.mn)∧V.cell? ⟨bs,os+i*5+3,none⟩=some (.slice b x.mr.length d)∧V.cell? ⟨bs,os+i*5+4,none⟩=some (.slice b2 x.mx.length d2))∧Hid (Below W.heap.size W V))=>hV.2.out
              unfold MemC at HQ
              clear hS hS2 hcell hcell2 hx hP hP2 e0 e1 e2 e3 e4 e5 e7 f0 f1 f2 f3 f4 f5 f7
              go_wp2
              go_region_held3 (fun V=>(V.cell? ⟨w.heap.size,6,none⟩=some (.slice (some ⟨br,orr,none⟩) n.mems.length S.mc)∧V.cell? ⟨w.heap.size+1,6,none⟩=some (.slice (some ⟨bs,os,none⟩) n.mems.length T.mc)∧V.cell? ⟨br,orr+i*5,none⟩=some (.int .i64 x.ma)∧V.cell? ⟨br,orr+i*5+1,none⟩=some (.int .i64 x.mw)∧V.cell? ⟨br,orr+i*5+2,none⟩=some (.bool x.mn)∧V.cell? ⟨br,orr+i*5+3,none⟩=some (.slice a x.mr.length c)∧V.cell? ⟨br,orr+i*5+4,none⟩=some (.slice a2 x.mx.length c2)∧V.cell? ⟨bs,os+i*5,none⟩=some (.int .i64 x.ma)∧V.cell? ⟨bs,os+i*5+1,none⟩=some (.int .i64 x.mw)∧V.cell? ⟨bs,os+i*5+2,none⟩=some (.bool x.mn)∧V.cell? ⟨bs,os+i*5+3,none⟩=some (.slice b x.mr.length d)∧V.cell? ⟨bs,os+i*5+4,none⟩=some (.slice b2 x.mx.length d2))∧Hid (Below W.heap.size W V)) (first | exact HK.out _ (Below.refl _ _).drew | exact HT.out _ _ (by assumption) (by assumption) | go_keep)
                (first
                  | (go_at_call 51;refine (HQ.out _ (by assumption)).mono ?_;rintro e w5 ⟨rfl,hb5⟩)
                  | fail)
              all_goals
                have HD:=Lib.hid (below_on HJ.out (HW.out _ (by assumption)))
                rename_i hlast
                clear hlast
                go_wp2
                go_roundg (m2 - 1)
                case measure=>omega
                case rel=>exact ⟨i+1,_,by omega,by first | rfl | simp,HD.out,rfl⟩
            · have hiln:¬ ((i:Int)<(n.mems.length:Int)):=by omega
              have HO:=Lib.hid (HR.out n.outs S.o T.o S.oc T.oc W HJ.out HN1.out.outs HN2.out.outs HL.out.1)
              have HD:=Lib.hid (fun q=>HR.out n.bads S.b T.b S.bc T.bc (W.drewN q) (below_drewN HJ.out q) HN1.out.bads HN2.out.bads HL.out.2.1)
              have HE:=Lib.hid (fun q=>HR.out n.cons S.c T.c S.cc T.cc (W.drewN q) (below_drewN HJ.out q) HN1.out.cons HN2.out.cons HL.out.2.2)
              go_wp2_with (first
                | (go_at_call 50;refine HO.out.mono ?_;clear HO;rintro e w5 ⟨rfl,q5,rfl⟩)
                | (go_at_call 50;refine (HD.out _).mono ?_;clear HD;rintro e w6 ⟨rfl,q6,rfl⟩)
                | (go_at_call 50;refine (HE.out _).mono ?_;clear HE;rintro e w7 ⟨rfl,q7,rfl⟩))
              go_ret
              exact ⟨rfl,below_on HB.out (by repeat (first | exact HJ.out | refine below_drewN ?_ _))⟩
end Go.Proofs.YtldnepogjnahfaaGreatDoor
