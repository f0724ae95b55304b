/- The document's own reader of texts by contracts: Writes (conditions: the reader lies in memory; at most 400000 bytes; the memory's widths). -/
import Derived.Test.YtldnepogjnahfaaGreatDoorVQ4
import Derived.Test.YtldnepogjnahfaaGreatDoorVCx
set_option linter.unusedVariables false
namespace Go.Proofs.YtldnepogjnahfaaGreatDoor
open Go.ChangeShapes Go.WideShapes Go.RowKit
structure R1 (x y g B:Nat) (xs:List Int) (mk:Bool) (V:Int) (w0:World) (b:Nat) (t:TypeId) (w:World) (cs:Array Value) (s:Ps):Prop where
  pat:RAt x y g B xs mk V w s
  kept:Kept3 x y g w0 w
  row:w.heap[b]?=some (.cells cs t (0,0))
  base:w0.heap.size≤b
  old:x<w0.heap.size∧y<w0.heap.size∧g<w0.heap.size
section
variable {x y g B:Nat} {xs:List Int} {mk:Bool} {V:Int} {w0 w:World} {s:Ps} {b:Nat} {t:TypeId} {cs:Array Value}
theorem R1.new (h:RAt x y g B xs mk V w s) (hg:g<w.heap.size):R1 x y g B xs mk V w w.heap.size t (w.alloc (.cells cs t)) cs s:=by
  have hb:Below w.heap.size w (w.alloc (.cells cs t)):=(Below.refl _ w).alloc (Nat.le_refl _) _
  exact ⟨h.below hb,Kept3.of_below hb,heap_alloc_new w _,Nat.le_refl _,h.lt.1,h.lt.2.1,hg⟩
theorem R1.call {w':World} {s':Ps} (h:R1 x y g B xs mk V w0 b t w cs s) (hP:RAt x y g B xs mk V w' s') (hK:Kept3 x y g w w'):R1 x y g B xs mk V w0 b t w' cs s':=by
  have ho:=h.old
  have hb:=h.base
  exact ⟨hP,h.kept.trans hK,(hK.block _ (lt_of_row h.row) (by omega) (by omega) (by omega)).trans h.row,h.base,h.old⟩
theorem R1.cell {j:Nat} {v:Value} (h:R1 x y g B xs mk V w0 b t w cs s) (hj:cs[j]?=some v):w.cell? ⟨b,j,none⟩=some v:=by
  rw [cell_of_row _ _ _ _ _ _ h.row];exact hj
theorem R1.grown {w':World} {base e size n:Nat} {v:Value} {zs:List Value} (h:R1 x y g B xs mk V w0 b t w cs s) (ho:w.ownsRow base e size v n zs) (hb:b<base) (hg:w.grownBy w' v.ownBlock):R1 x y g B xs mk V w0 b t w' cs s:=by
  have hold:=h.old
  have hbs:=h.base
  refine ⟨h.pat.grown ho ⟨by omega,fun _=>by omega⟩ hg,h.kept.grown ho (by omega) hg,(hg.block b (lt_of_row h.row) (fun e'=>by have:=(ho.lt _ e'.symm).1;omega)).trans h.row,h.base,h.old⟩
theorem R1.alloc (h:R1 x y g B xs mk V w0 b t w cs s) (o:Obj):R1 x y g B xs mk V w0 b t (w.alloc o) cs s :=
  h.call (h.pat.below ((Below.refl _ w).alloc (Nat.le_refl _) o)) ((Kept3.refl _ _ _ w).alloc o)
end
theorem rp_writes {x y g base:Nat} {W:World} {v:Value} {ys:List (PWrite × (Option Addr × Nat) × (Option Addr × Nat))} (h:W.ownsRow base 99 3 v ys.length (ys.flatMap fun z=>writeCells z)) (hl:∀ z∈ys,LPwrite x y g W z) (hb:x<base∧y<base∧g<base) :
    ∃ A c,v=.slice A ys.length c∧RP 99 x y g 3 (PWriteAt x y g) W A c (ys.map (·.1)):=by
  obtain ⟨A,c,rfl,hR⟩:=RP.of_own (p:=x) (r:=y) (g:=g) (k:=3) (base:=base) (cells:=fun z:PWrite × (Option Addr × Nat) × (Option Addr × Nat)=>writeCells z) (At:=fun W b o z=>∀ i u,(writeCells z)[i]?=some u→W.cell? ⟨b,o+i,none⟩=some u) (fun _=>rfl) (fun b o x h=>h) h hb
  refine ⟨A,c,rfl,fun hn=>?_,by rw [List.length_map];exact hR.2.1,hR.2.2⟩
  obtain ⟨b,o,e,hbb,hc⟩:=hR.1 (by intro e;apply hn;rw [e];rfl)
  refine ⟨b,o,e,hbb,fun j z hj=>?_⟩
  rw [List.getElem?_map] at hj
  obtain ⟨q,hq,rfl⟩:=Option.map_eq_some_iff.1 hj
  have hyc:=hc j q hq
  have hyl:=hl q (mem_of_some hq)
  exact ⟨_,_,_,_,hyc 0 _ rfl,hyc 1 _ rfl,hyc 2 _ rfl,hyl.1,hyl.2⟩
theorem rp_reads {x y g base:Nat} {W:World} {v:Value} {ys:List (PRead × Option Addr × Nat)} (h:W.ownsRow base 97 2 v ys.length (ys.flatMap fun z=>readCells z)) (hl:∀ z∈ys,LPread x y g W z) (hb:x<base∧y<base∧g<base) :
    ∃ A c,v=.slice A ys.length c∧RP 97 x y g 2 (PReadAt x y g) W A c (ys.map (·.1)):=by
  obtain ⟨A,c,rfl,hR⟩:=RP.of_own (p:=x) (r:=y) (g:=g) (k:=2) (base:=base) (cells:=fun z:PRead × Option Addr × Nat=>readCells z) (At:=fun W b o z=>∀ i u,(readCells z)[i]?=some u→W.cell? ⟨b,o+i,none⟩=some u) (fun _=>rfl) (fun b o x h=>h) h hb
  refine ⟨A,c,rfl,fun hn=>?_,by rw [List.length_map];exact hR.2.1,hR.2.2⟩
  obtain ⟨b,o,e,hbb,hc⟩:=hR.1 (by intro e;apply hn;rw [e];rfl)
  refine ⟨b,o,e,hbb,fun j z hj=>?_⟩
  rw [List.getElem?_map] at hj
  obtain ⟨q,hq,rfl⟩:=Option.map_eq_some_iff.1 hj
  have hyc:=hc j q hq
  exact ⟨_,_,hyc 0 _ rfl,hyc 1 _ rfl,hl q (mem_of_some hq)⟩
def Ps.litsQ (V:Int) (k:Nat) (s:Ps):List Int × Ps:=qloop (fun t:Ps=>t.nextLiteral V) k ([],s)
def Ps.writeQ (V:Int) (a wd:Nat) (s:Ps):PWrite × Ps :=
  let o:=(s.expect [119]).litsQ V 1
  let l:=o.2.litsQ V a
  let d:=l.2.litsQ V wd
  (⟨o.1.getD 0 0,l.1,d.1⟩,d.2.expect [10])
theorem Ps.expect_none {s:Ps} {b:List Int} (h:(s.expect b).e=none):s.e=none:=by
  unfold Ps.expect at h
  cases he:s.e with
  | some x=>rw [he] at h;simp [he] at h
  | none=>rfl
theorem qloop_none {α:Type} {f:Ps→α × Ps} (hf:∀ t,(f t).2.e=none→t.e=none):∀ (k:Nat) (a:List α × Ps),(qloop f k a).2.e=none→a.2.e=none
  | 0,a,h=>h
  | k+1,a,h=>by
    unfold qloop at h
    split at h
    · exact h
    · rename_i h1
      cases he:a.2.e with
      | none=>rfl
      | some z=>exact absurd (by rw [he];rfl) h1
theorem litsQ_none {V:Int} {k:Nat} {s:Ps} (h:(s.litsQ V k).2.e=none):s.e=none:=by
  unfold Ps.litsQ at h
  cases k with
  | zero=>exact h
  | succ k =>
    unfold qloop at h
    split at h
    · exact h
    · rename_i h1
      cases he:s.e with
      | none=>rfl
      | some z=>exact absurd (by show s.e.isSome=true;rw [he];rfl) h1
theorem litsQ_one {V:Int} {s:Ps} {l:List Int} {s':Ps} (h:s.litsQ V 1=(l,s')) (he:s'.e=none):∃ o,l=[o]:=by
  unfold Ps.litsQ qloop at h
  split at h
  · rename_i h1
    injection h with h2 h3
    subst h3
    have h1':s.e.isSome=true:=h1
    have he':s.e=none:=he
    rw [he'] at h1'
    cases h1'
  · unfold qloop at h
    injection h with h2 h3
    exact ⟨_,h2.symm⟩
section
variable {x y g B:Nat} {xs:List Int} {mk:Bool} {V:Int} {w:World} {s:Ps}
set_option maxRecDepth 100000 in
set_option maxHeartbeats 8000000 in
theorem writes7_any (k0:Nat) (hk0:k0≤1000000) (a wd:Nat) (sn:Bool) (v3 v4:Value) (ma mw:Int) (hm:s.e=none→(ma=a∧a≤62)∧(mw=wd∧wd≤64)) (h:RAt x y g B xs mk V w s) (hg:g<w.heap.size) :
    Calls Tryz.prog 86 #[.pointer (some ⟨x,0,none⟩),.agg #[.int .i64 ma,.int .i64 mw,.bool sn,v3,v4],.int .i64 k0] w fun e w'=>∃ A c,e=.returned (.slice A (eachF (Ps.writeQ V a wd) push k0 (s,[])).2.length c)∧RP 99 x y g 3 (PWriteAt x y g) w' A c (eachF (Ps.writeQ V a wd) push k0 (s,[])).2∧RAt x y g B xs mk V w' (eachF (Ps.writeQ V a wd) push k0 (s,[])).1∧Kept3 x y g w w':=by
  obtain ⟨i0,hi,hz0,hz1,hz2⟩:=info_parts write_info
  have hgs:=h.gsz
  have hys:=h.lt.2.1
  have HB:=Lib.hid (R1.new (cs:=#[.int .i64 ma,.int .i64 mw,.bool sn,v3,v4]) (t:=54) h hg)
  have HO:=Lib.hid (World.ownsRow_nil (w.alloc (.cells #[.int .i64 ma,.int .i64 mw,.bool sn,v3,v4] 54)) (w.heap.size+1) 99 3)
  have HM:=Lib.hid hm
  obtain ⟨Z,hZ⟩:∃ Z,eachF (Ps.writeQ V a wd) push k0 (s,[])=Z:=⟨_,rfl⟩
  rw [hZ]
  have HZ:=Lib.hid hZ
  clear h hZ hm
  go_enter Tryz.func86,Tryz.ntmps86
  go_wp2_with fail
  go_loopg [7,8] k0 (fun m' s7 s8 wx=>∃ (k:Nat) (ys:List (PWrite × (Option Addr × Nat) × (Option Addr × Nat))) (t:Ps),k+m'=k0∧s8=.int .i64 k∧ys.length≤k∧wx.ownsRow (w.heap.size+1) 99 3 s7 ys.length (ys.flatMap fun z=>writeCells z)∧(∀ z∈ys,LPwrite x y g wx z)∧R1 x y g B xs mk V w w.heap.size 54 wx #[.int .i64 ma,.int .i64 mw,.bool sn,v3,v4] t∧Aside (eachF (Ps.writeQ V a wd) push m' (t,ys.map (·.1))=Z∧(t.e=none→s.e=none)))
  case atStart=>exact ⟨0,[],s,by omega,rfl,Nat.le_refl _,HO.out,fun z hz=>(by cases hz),HB.out,HZ.out,fun h=>h⟩
  case round =>
    obtain ⟨k,ys,t,hk,rfl,hl,ho,hls,hP,HL⟩:=hrel
    generalize gk=m' at *
    obtain ⟨-,c1,-,-,-,-,-⟩:=hP.pat.cells
    by_cases hlt:k<k0
    · have hltI:(k:Int)<(k0:Int):=by omega
      obtain ⟨m2,rfl⟩:∃ m2,m'=m2+1:=⟨m' - 1,by omega⟩
      cases he:t.e with
      | some z =>
        rw [he] at c1
        have hkz:=hP.pat.kind z he
        obtain ⟨q1,q2⟩:=z
        have hq1:¬ q1=0:=hkz
        unfold fK at c1
        dsimp only at c1
        obtain ⟨A,c,rfl,hR⟩:=rp_writes ho hls ⟨by omega,by omega,by omega⟩
        have HX:=Lib.hid (And.intro hR hP)
        have HQ:=Lib.hid (show (t,ys.map (·.1))=Z from by rw [← HL.out.1];exact (eachF_bad (by simp [he]) _).symm)
        clear hkz ho hls hP HL he hR
        go_wp2_with fail
        go_ret
        rw [← HQ.out]
        exact ⟨A,c,by rw [List.length_map];rfl,HX.out.1,HX.out.2.pat,HX.out.2.kept⟩
      | none =>
        rw [he] at c1
        unfold fK at c1
        obtain ⟨⟨rfl,ha62⟩,⟨rfl,hw64⟩⟩:=HM.out (HL.out.2 he)
        have d0:=hP.cell (j:=0) rfl
        have d1:=hP.cell (j:=1) rfl
        have HE0:=Lib.hid (sb_w ▸ rwant7_any ⟨#[119]⟩ (by decide) hP.pat)
        obtain ⟨s1,e1⟩:∃ X,t.expect [119]=X:=⟨_,rfl⟩
        rw [e1] at HE0
        obtain ⟨⟨lo,s2⟩,e2⟩:∃ X,s1.litsQ V 1=X:=⟨_,rfl⟩
        have HL1:=Lib.hid (fun (W:World) (h:RAt x y g B xs mk V W s1) (hg:g<W.heap.size)=>(show qloop (fun t:Ps=>t.nextLiteral V) 1 ([],s1)=(lo,s2) from e2) ▸ lits7_any 1 (by omega) h hg)
        obtain ⟨⟨la,s3⟩,e3⟩:∃ X,s2.litsQ V a=X:=⟨_,rfl⟩
        have HL2:=Lib.hid (fun (W:World) (h:RAt x y g B xs mk V W s2) (hg:g<W.heap.size)=>(show qloop (fun t:Ps=>t.nextLiteral V) a ([],s2)=(la,s3) from e3) ▸ lits7_any a (by omega) h hg)
        obtain ⟨⟨ld,s4⟩,e4⟩:∃ X,s3.litsQ V wd=X:=⟨_,rfl⟩
        have HL3:=Lib.hid (fun (W:World) (h:RAt x y g B xs mk V W s3) (hg:g<W.heap.size)=>(show qloop (fun t:Ps=>t.nextLiteral V) wd ([],s3)=(ld,s4) from e4) ▸ lits7_any wd (by omega) h hg)
        obtain ⟨s5,e5⟩:∃ X,s4.expect [10]=X:=⟨_,rfl⟩
        have HE1:=Lib.hid (fun (W:World) (h:RAt x y g B xs mk V W s4)=>e5 ▸ sb_lf ▸ rwant7_any ⟨#[10]⟩ (by decide) h)
        have hwq:Ps.writeQ V a wd t=(⟨lo.getD 0 0,la,ld⟩,s5):=by unfold Ps.writeQ;rw [e1];dsimp only;rw [e2];dsimp only;rw [e3];dsimp only;rw [e4];dsimp only;rw [e5]
        have HGO:=Lib.hid (fun (h:s5.e=none)=>eachF_next (wf:=Ps.writeQ V a wd) (nx:=push) (s:=(t,ys.map (·.1))) he hwq h m2)
        have HST:=Lib.hid (fun (h:s5.e.isSome=true)=>eachF_stop (wf:=Ps.writeQ V a wd) (nx:=push) (s:=(t,ys.map (·.1))) he hwq h m2)
        have HONE:=Lib.hid (fun (h:s5.e=none)=>litsQ_one e2 (by
          have h4:s4.e=none:=Ps.expect_none (b:=[10]) (by rw [e5];exact h)
          have h3:s3.e=none:=litsQ_none (V:=V) (k:=wd) (by rw [e4];exact h4)
          exact litsQ_none (V:=V) (k:=a) (by rw [e3];exact h3)))
        have HX:=Lib.hid (And.intro ho (And.intro hls hP))
        have HSE:=Lib.hid (HL.out.2 he)
        have HLZ:=Lib.hid HL.out.1
        have hl2:ys.length≤1000000:=by omega
        clear ho hls hP HL e1 e2 e3 e4 e5 he hwq
        cases he5:s5.e with
        | some z =>
          go_wp2_with (first
            | (go_at_call 44;refine HE0.out.mono ?_;clear HE0;rintro e w1 ⟨rfl,hP1,hK1⟩;have hR1:=HX.out.2.2.call hP1 hK1;have b0:=hR1.cell (j:=0) rfl;have b1:=hR1.cell (j:=1) rfl;have HB1:=Lib.hid (And.intro hR1 (And.intro (own_step HX.out.1 hK1 ⟨by omega,by omega,by omega⟩) (fun z hz=>(HX.out.2.1 z hz).kept hK1)));clear hP1 hK1 hR1 HX)
            | (go_at_call 48;refine (HL1.out _ HB1.out.1.pat (by have:=HB1.out.1.kept.size;omega)).mono ?_;clear HL1;rintro e w2 ⟨v2,rfl,hO2,hP2,hK2⟩;obtain ⟨A1,c1',rfl,hLP⟩:=LP.of_own (p:=x) (r:=y) (g:=g) hO2 (by have:=HB1.out.1.kept.size;omega);have hR2:=HB1.out.1.call hP2 hK2;have b0':=hR2.cell (j:=0) rfl;have b1':=hR2.cell (j:=1) rfl;have HB2:=Lib.hid (And.intro hR2 (And.intro (own_step HB1.out.2.1 hK2 ⟨by omega,by omega,by omega⟩) (And.intro (fun z hz=>(HB1.out.2.2 z hz).kept hK2) hLP)));clear hO2 hP2 hK2 hR2 hLP HB1)
            | (go_at_call 48;refine (HL2.out _ HB2.out.1.pat (by have:=HB2.out.1.kept.size;omega)).mono ?_;clear HL2;rintro e w3 ⟨v3',rfl,hO2,hP2,hK2⟩;obtain ⟨A2,c2,rfl,hLP⟩:=LP.of_own (p:=x) (r:=y) (g:=g) hO2 (by have:=HB2.out.1.kept.size;omega);have hR2:=HB2.out.1.call hP2 hK2;have b0'':=hR2.cell (j:=0) rfl;have b1'':=hR2.cell (j:=1) rfl;have HB3:=Lib.hid (And.intro hR2 (And.intro (own_step HB2.out.2.1 hK2 ⟨by omega,by omega,by omega⟩) (And.intro (fun z hz=>(HB2.out.2.2.1 z hz).kept hK2) (And.intro (HB2.out.2.2.2.kept hK2) hLP))));clear hO2 hP2 hK2 hR2 hLP HB2)
            | (go_at_call 48;refine (HL3.out _ HB3.out.1.pat (by have:=HB3.out.1.kept.size;omega)).mono ?_;clear HL3;rintro e w4 ⟨v4',rfl,hO2,hP2,hK2⟩;obtain ⟨A3,c3,rfl,hLP⟩:=LP.of_own (p:=x) (r:=y) (g:=g) hO2 (by have:=HB3.out.1.kept.size;omega);have hR2:=HB3.out.1.call hP2 hK2;have HB4:=Lib.hid (And.intro hR2 (And.intro (own_step HB3.out.2.1 hK2 ⟨by omega,by omega,by omega⟩) (And.intro (fun z hz=>(HB3.out.2.2.1 z hz).kept hK2) (And.intro (HB3.out.2.2.2.1.kept hK2) (And.intro (HB3.out.2.2.2.2.kept hK2) hLP)))));clear hO2 hP2 hK2 hR2 hLP HB3)
            | (go_at_call 44;refine (HE1.out _ HB4.out.1.pat).mono ?_;rintro e w5 ⟨rfl,hP5,hK5⟩;have hkz:=hP5.kind z he5;obtain ⟨-,e1',-,-,-,-,-⟩:=hP5.cells;rw [he5] at e1';unfold fK at e1';dsimp only at e1';have HB5:=Lib.hid (HB4.out.1.call hP5 hK5);have HO5:=Lib.hid (And.intro (own_step HB4.out.2.1 hK5 ⟨by omega,by omega,by omega⟩) (fun z hz=>(HB4.out.2.2.1 z hz).kept hK5));clear hP5 hK5))
          go_roundg m2
          case measure=>omega
          case rel=>exact ⟨k+1,ys,s5,by omega,by first | rfl | simp,by omega,HO5.out.1,HO5.out.2,HB5.out,by rw [eachF_bad (by simp [he5]),← HST.out (by simp [he5])];exact HLZ.out,fun _=>HSE.out⟩
        | none =>
          obtain ⟨o1,rfl⟩:=HONE.out he5
          go_wp2_with (first
            | (go_at_call 44;refine HE0.out.mono ?_;clear HE0;rintro e w1 ⟨rfl,hP1,hK1⟩;have hR1:=HX.out.2.2.call hP1 hK1;have b0:=hR1.cell (j:=0) rfl;have b1:=hR1.cell (j:=1) rfl;have HB1:=Lib.hid (And.intro hR1 (And.intro (own_step HX.out.1 hK1 ⟨by omega,by omega,by omega⟩) (fun z hz=>(HX.out.2.1 z hz).kept hK1)));clear hP1 hK1 hR1 HX)
            | (go_at_call 48;refine (HL1.out _ HB1.out.1.pat (by have:=HB1.out.1.kept.size;omega)).mono ?_;clear HL1;rintro e w2 ⟨v2,rfl,hO2,hP2,hK2⟩;obtain ⟨A1,c1',rfl,hLP⟩:=LP.of_own (p:=x) (r:=y) (g:=g) hO2 (by have:=HB1.out.1.kept.size;omega);have hR2:=HB1.out.1.call hP2 hK2;have b0':=hR2.cell (j:=0) rfl;have b1':=hR2.cell (j:=1) rfl;have HB2:=Lib.hid (And.intro hR2 (And.intro (own_step HB1.out.2.1 hK2 ⟨by omega,by omega,by omega⟩) (And.intro (fun z hz=>(HB1.out.2.2 z hz).kept hK2) hLP)));clear hO2 hP2 hK2 hR2 hLP HB1)
            | (go_at_call 48;refine (HL2.out _ HB2.out.1.pat (by have:=HB2.out.1.kept.size;omega)).mono ?_;clear HL2;rintro e w3 ⟨v3',rfl,hO2,hP2,hK2⟩;obtain ⟨A2,c2,rfl,hLP⟩:=LP.of_own (p:=x) (r:=y) (g:=g) hO2 (by have:=HB2.out.1.kept.size;omega);have hR2:=HB2.out.1.call hP2 hK2;have b0'':=hR2.cell (j:=0) rfl;have b1'':=hR2.cell (j:=1) rfl;have HB3:=Lib.hid (And.intro hR2 (And.intro (own_step HB2.out.2.1 hK2 ⟨by omega,by omega,by omega⟩) (And.intro (fun z hz=>(HB2.out.2.2.1 z hz).kept hK2) (And.intro (HB2.out.2.2.2.kept hK2) hLP))));clear hO2 hP2 hK2 hR2 hLP HB2)
            | (go_at_call 48;refine (HL3.out _ HB3.out.1.pat (by have:=HB3.out.1.kept.size;omega)).mono ?_;clear HL3;rintro e w4 ⟨v4',rfl,hO2,hP2,hK2⟩;obtain ⟨A3,c3,rfl,hLP⟩:=LP.of_own (p:=x) (r:=y) (g:=g) hO2 (by have:=HB3.out.1.kept.size;omega);have hR2:=HB3.out.1.call hP2 hK2;have HB4:=Lib.hid (And.intro hR2 (And.intro (own_step HB3.out.2.1 hK2 ⟨by omega,by omega,by omega⟩) (And.intro (fun z hz=>(HB3.out.2.2.1 z hz).kept hK2) (And.intro (HB3.out.2.2.2.1.kept hK2) (And.intro (HB3.out.2.2.2.2.kept hK2) hLP)))));clear hO2 hP2 hK2 hR2 hLP HB3)
            | (go_at_call 44;refine (HE1.out _ HB4.out.1.pat).mono ?_;rintro e w5 ⟨rfl,hP5,hK5⟩;obtain ⟨-,e1',-,-,-,-,-⟩:=hP5.cells;rw [he5] at e1';unfold fK at e1';have HB5:=Lib.hid (HB4.out.1.call hP5 hK5);have hO1:=own_step HB4.out.2.1 hK5 ⟨by omega,by omega,by omega⟩;have HO5:=Lib.hid (fun z hz=>(HB4.out.2.2.1 z hz).kept hK5);have hLo:=(HB4.out.2.2.2.1).kept hK5;have HLL:=Lib.hid (And.intro ((HB4.out.2.2.2.2.1).kept hK5) ((HB4.out.2.2.2.2.2).kept hK5));obtain ⟨bo,oo,rfl,-,hco⟩:=hLo.1 (by simp);have t0:w5.cell? ⟨bo,oo,none⟩=some (.int .i64 o1):=(by have:=hco 0 o1 rfl;simpa using this);have hcn:=cells_new w5 (writeCells (⟨o1,la,ld⟩,(A2,c2),(A3,c3))) 99;unfold writeCells at hcn;clear hP5 hK5 hco hLo)
            | (at_builtin;refine wpList_append_own _ rfl _ _ 52 rfl (w.heap.size+1) 99 i0 (.agg #[.int .i64 0,.slice none 0 0,.slice none 0 0]) 3 56 Tryz.underlying52 hi hz0 hz1 hz2 rfl (by decide) _ _ _ rfl (hO1.alloc _) ⟨w5.heap.size,0,none⟩ 1 1 [Value.int .i64 o1,Value.slice A2 la.length c2,Value.slice A3 ld.length c3] rfl rfl hcn (by simp [Value.oneCell']) (by unfold maxLen;omega) (by omega) (by have:=HB5.out.kept.size;have:=HB5.out.base;have:=lt_of_row HB5.out.row;simp;omega) ?_;intro v' w6 hO2 hgrow _;have hoa:=hO1.alloc (.cells #[.int .i64 o1,.slice A2 la.length c2,.slice A3 ld.length c3] 99);have HB6:=Lib.hid ((HB5.out.alloc (.cells #[.int .i64 o1,.slice A2 la.length c2,.slice A3 ld.length c3] 99)).grown hoa (Nat.lt_succ_self _) hgrow);have HO6:=Lib.hid (And.intro hO2 (And.intro (fun z (hz:z∈ys)=>And.intro (((HO5.out z hz).1.kept ((Kept3.refl x y g w5).alloc (.cells #[.int .i64 o1,.slice A2 la.length c2,.slice A3 ld.length c3] 99))).grown hoa (by decide) hgrow) (((HO5.out z hz).2.kept ((Kept3.refl x y g w5).alloc (.cells #[.int .i64 o1,.slice A2 la.length c2,.slice A3 ld.length c3] 99))).grown hoa (by decide) hgrow)) (And.intro ((HLL.out.1.kept ((Kept3.refl x y g w5).alloc (.cells #[.int .i64 o1,.slice A2 la.length c2,.slice A3 ld.length c3] 99))).grown hoa (by decide) hgrow) ((HLL.out.2.kept ((Kept3.refl x y g w5).alloc (.cells #[.int .i64 o1,.slice A2 la.length c2,.slice A3 ld.length c3] 99))).grown hoa (by decide) hgrow))));clear hO2 hgrow hO1 hoa hcn))
          go_roundg m2
          case measure=>omega
          case rel=>exact ⟨k+1,ys++[(⟨o1,la,ld⟩,(A2,c2),(A3,c3))],s5,by omega,by first | rfl | simp,by rw [List.length_append,List.length_singleton];omega,by rw [List.flatMap_append,List.length_append];exact HO6.out.1,fun z hz=>by
            rcases List.mem_append.1 hz with hz | hz
            · exact HO6.out.2.1 z hz
            · rw [List.mem_singleton] at hz
              subst hz
              exact HO6.out.2.2,HB6.out,by rw [List.map_append];rw [← HLZ.out];exact (HGO.out he5).symm,fun _=>HSE.out⟩
    · have hltn:¬ ((k:Int)<(k0:Int)):=by omega
      obtain rfl:m'=0:=by omega
      obtain ⟨A,c,rfl,hR⟩:=rp_writes ho hls ⟨by omega,by omega,by omega⟩
      have HX:=Lib.hid (And.intro hR hP)
      have HQ:=Lib.hid (show (t,ys.map (·.1))=Z from HL.out.1)
      clear ho hls hP HL c1 hR
      go_wp2_with fail
      go_ret
      rw [← HQ.out]
      exact ⟨A,c,by rw [List.length_map];rfl,HX.out.1,HX.out.2.pat,HX.out.2.kept⟩
end
end Go.Proofs.YtldnepogjnahfaaGreatDoor
