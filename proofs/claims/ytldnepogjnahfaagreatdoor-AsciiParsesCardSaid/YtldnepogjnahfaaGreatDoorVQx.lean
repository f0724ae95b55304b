/- The document's own reader of texts (layer 7) by contracts: Fail, Want, Num, Upto, Lit (conditions: the reader lies in memory; at most 400000 bytes); The document's own reader of texts by contracts: Upto, Lit, Def (conditions: the reader lies in memory; at most 400000 bytes); The document's own reader of texts by contracts: Lits, Lines, Latch (conditions: the reader lies in memory; at most 400000 bytes); The document's own reader of texts by contracts: Latch, Begin, Shape (conditions: the reader lies in memory; at most 400000 bytes). -/
import Derived.Test.YtldnepogjnahfaaGreatDoorVSB
import Derived.Test.YtldnepogjnahfaaGreatDoorVPx
import Derived.Test.YtldnepogjnahfaaGreatDoorVPFirst
import Derived.Test.YtldnepogjnahfaaGreatDoorVTx
set_option linter.unusedVariables false
namespace Go.Proofs.YtldnepogjnahfaaGreatDoor
open Go.ChangeShapes Go.WideShapes Go.RowKit
def fK:Option (Int × Int)→Int
  | none=>0
  | some y=>y.1
def fA:Option (Int × Int)→Int
  | none=>0
  | some y=>y.2
def sval (mk:Bool) (g:Nat) (V:Int):Value:=if mk then .slice (some ⟨g,0,none⟩) (V.toNat+1) (V.toNat+1) else .slice none 0 0
structure RAt (x y g B:Nat) (xs:List Int) (mk:Bool) (V:Int) (w:World) (s:Ps):Prop where
  row:w.heap[x]?=some (.cells #[.pointer (some ⟨y,0,none⟩),.int .i64 (fK s.e),.int .i64 (fA s.e),.int .i64 V,sval mk g V] 75 (0,0))
  rf:Sc.Rf w y B xs s.i
  eq:s.l=xs.drop s.i
  marks:mk=true→Marked w g (V.toNat+1) s.seen
  kind:∀ z,s.e=some z→z.1≠0
  byte:∀ z∈xs,0≤z∧z<256
  ord:B≤y∧y<x∧(mk=true→x<g)
  vars:0≤V∧V≤2000
def RStep (x y g B:Nat) (xs:List Int) (mk:Bool) (V:Int) (w:World) (v:Value) (s:Ps) (e:Ending) (w':World):Prop:=e=.returned v∧RAt x y g B xs mk V w' s∧Kept3 x y g w w'
section
variable {x y g B:Nat} {xs:List Int} {mk:Bool} {V:Int} {w:World} {s:Ps}
theorem RAt.lt (h:RAt x y g B xs mk V w s):x<w.heap.size∧y<w.heap.size∧B≤w.heap.size∧(mk=true→g<w.heap.size):=by
  have h1:=lt_of_row h.row
  have h2:=h.rf.lt
  have h3:=h.ord
  exact ⟨h1,h2,by omega,fun e=>(h.marks e).lt⟩
theorem RAt.stay {w':World} {Z:Nat} (h:RAt x y g B xs mk V w s) (hs:w.heap.size≤w'.heap.size) (hb:∀ k,k<Z→k<w.heap.size→w'.heap[k]?=w.heap[k]?) (hz:x<Z∧(mk=true→g<Z)):RAt x y g B xs mk V w' s:=by
  obtain ⟨h1,h2,h3,h4,h5,h6,h7,h8⟩:=h
  have hl:=lt_of_row h1
  refine ⟨(hb x hz.1 hl).trans h1,?_,h3,fun e=>(h4 e).same (hb g (hz.2 e) (h4 e).lt),h5,h6,h7,h8⟩
  obtain ⟨a,c,k1,k2,k3,k4⟩:=h2
  refine ⟨a,c,(hb y (by omega) (lt_of_row k1)).trans k1,k2,k3,fun hn=>?_⟩
  obtain ⟨b,o,e1,e2,e3,e4⟩:=k4 hn
  exact ⟨b,o,e1,e2,Nat.lt_of_lt_of_le e3 hs,fun j hj=>(World.cell?_of_block (a:=⟨b,o+j,none⟩) (hb b (by omega) e3)).trans (e4 j hj)⟩
theorem RAt.below {w':World} (h:RAt x y g B xs mk V w s) (hb:Below w.heap.size w w'):RAt x y g B xs mk V w' s :=
  h.stay (Z:=w.heap.size) hb.size (fun k _ hk=>hb.block k hk) ⟨h.lt.1,fun e=>h.lt.2.2.2 e⟩
theorem RAt.setBox {q j:Nat} {v:Value} (h:RAt x y g B xs mk V w s) (hz:x<q∧(mk=true→g<q)):RAt x y g B xs mk V (w.setCell ⟨q,j,none⟩ v) s :=
  h.stay (Z:=q) (by simp) (fun k hk _=>heap_setCell_other _ _ _ _ (by show k≠q;omega)) hz
theorem RAt.grown {w':World} {base e size n:Nat} {v:Value} {zs:List Value} (h:RAt x y g B xs mk V w s) (ho:w.ownsRow base e size v n zs) (hz:x<base∧(mk=true→g<base)) (hg:w.grownBy w' v.ownBlock):RAt x y g B xs mk V w' s :=
  h.stay (Z:=base) hg.size (fun k hk hl=>hg.block k hl fun e'=>by have:=(ho.lt k e'.symm).1;omega) hz
theorem RAt.cells (h:RAt x y g B xs mk V w s):w.cell? ⟨x,0,none⟩=some (.pointer (some ⟨y,0,none⟩))∧w.cell? ⟨x,1,none⟩=some (.int .i64 (fK s.e))∧w.cell? ⟨x,2,none⟩=some (.int .i64 (fA s.e))∧w.cell? ⟨x,3,none⟩=some (.int .i64 V)∧w.cell? ⟨x,4,none⟩=some (sval mk g V)∧w.cell? ⟨y,1,none⟩=some (.int .i64 s.i)∧∀ j,w.frozen? ⟨x,j,none⟩=false:=by
  obtain ⟨a,c,k1,k2,k3⟩:=h.rf.cells
  refine ⟨?_,?_,?_,?_,?_,k2,fun j=>frozen_of_row _ _ _ _ _ h.row⟩
  all_goals rw [cell_of_row _ _ _ _ _ _ h.row];rfl
theorem RAt.setF {k a:Int} (h:RAt x y g B xs mk V w s) (hk:k≠0) (he:s.e=none):RAt x y g B xs mk V ((w.setCell ⟨x,1,none⟩ (.int .i64 k)).setCell ⟨x,2,none⟩ (.int .i64 a)) { s with e:=some (k,a) }:=by
  obtain ⟨h1,h2,h3,h4,h5,h6,h7,h8⟩:=h
  have hother:∀ q,q≠x→((w.setCell ⟨x,1,none⟩ (.int .i64 k)).setCell ⟨x,2,none⟩ (.int .i64 a)).heap[q]?=w.heap[q]?:=fun q hq=>(heap_setCell_other _ _ _ _ (by simpa using hq)).trans (heap_setCell_other _ _ _ _ (by simpa using hq))
  refine ⟨?_,?_,h3,fun e=>(h4 e).same (hother g (by have:=h7.2.2 e;omega)),fun z hz=>by cases hz;exact hk,h6,h7,h8⟩
  · have k1:=heap_setCell_same w x 1 _ _ (.int .i64 k) h1
    have k2:=heap_setCell_same _ x 2 _ _ (.int .i64 a) k1
    exact k2
  · obtain ⟨a',c,k1,k2,k3,k4⟩:=h2
    exact ⟨a',c,(hother y (by omega)).trans k1,k2,k3,k4.keep (r:=x) (fun q _ hq=>hother q hq) (by simp) (by omega)⟩
theorem RAt.go {w':World} {n:Nat} (h:RAt x y g B xs mk V w s) (hR:Sc.Rf w' y B xs (s.i+n)) (hO:Sc.Only y w w'):RAt x y g B xs mk V w' (s.skip n):=by
  obtain ⟨h1,h2,h3,h4,h5,h6,h7,h8⟩:=h
  exact ⟨(hO.block x (lt_of_row h1) (by omega)).trans h1,hR,by show s.l.drop n=xs.drop (s.i+n);rw [h3,List.drop_drop],fun e=>(h4 e).same (hO.block g (h4 e).lt (by have:=h7.2.2 e;omega)),h5,h6,h7,h8⟩
theorem Kept3.of_onlyY {w':World} (h:Sc.Only y w w'):Kept3 x y g w w':=Kept3.of_only h
theorem fail_any (k a:Int) (hk:k≠0) (h:RAt x y g B xs mk V w s) :
    Calls Tryz.prog 65 #[.pointer (some ⟨x,0,none⟩),.int .i64 k,.int .i64 a] w (RStep x y g B xs mk V w (.tuple #[]) (s.refuse k a)):=by
  obtain ⟨c0,c1,c2,c3,c4,c5,cf⟩:=h.cells
  have H:=Lib.hid h
  cases he:s.e with
  | some z =>
    have hz:=h.kind z he
    rw [he] at c1
    rw [Ps.refuse_some he]
    obtain ⟨z1,z2⟩:=z
    have hz1:¬ z1=0:=hz
    unfold fK at c1
    dsimp only at c1
    clear h c0 c2 c3 c4 c5 cf he hz
    go_enter Tryz.func65,Tryz.ntmps65
    go_wp2
    go_end0
    exact ⟨rfl,H.out,Kept3.refl _ _ _ _⟩
  | none =>
    rw [he] at c1
    rw [Ps.refuse_none he hk]
    have f1:=cf 1
    have f2:=cf 2
    have HF:=Lib.hid (H.out.setF (a:=a) hk he)
    unfold fK at c1
    clear h c0 c3 c4 c5 cf he
    go_enter Tryz.func65,Tryz.ntmps65
    go_wp2
    go_end0
    exact ⟨rfl,HF.out,((Kept3.refl _ _ _ _).put 1 _).put 2 _⟩
set_option maxHeartbeats 1000000 in
theorem rwant7_any (b:ByteArray) (hb:b.size≤1000) (h:RAt x y g B xs mk V w s) :
    Calls Tryz.prog 44 #[.pointer (some ⟨x,0,none⟩),.string b] w (RStep x y g B xs mk V w (.tuple #[]) (s.expect (Sc.sbytes b))):=by
  obtain ⟨c0,c1,c2,c3,c4,c5,cf⟩:=h.cells
  have H:=Lib.hid h
  cases he:s.e with
  | some z =>
    have hz:=h.kind z he
    rw [he] at c1
    rw [show s.expect (Sc.sbytes b)=s by unfold Ps.expect;rw [he]]
    obtain ⟨z1,z2⟩:=z
    have hz1:¬ z1=0:=hz
    unfold fK at c1
    dsimp only at c1
    clear h c0 c2 c3 c4 c5 cf he hz
    go_enter Tryz.func44,Tryz.ntmps44
    go_wp2
    go_end0
    exact ⟨rfl,H.out,Kept3.refl _ _ _ _⟩
  | none =>
    rw [he] at c1
    rw [show s.expect (Sc.sbytes b)=(s.skip (Sc.wantN s.l (Sc.sbytes b))).refuse (Sc.wantA s.l (Sc.sbytes b) s.i).2 (Sc.wantA s.l (Sc.sbytes b) s.i).1 by unfold Ps.expect;rw [he]]
    have HW:=Lib.hid (Sc.rwant_any y B s.i xs b w h.rf h.ord.1 hb)
    rw [← h.eq] at HW
    unfold Sc.two at HW
    generalize Sc.wantA s.l (Sc.sbytes b) s.i=A at *
    generalize Sc.wantN s.l (Sc.sbytes b)=n at *
    obtain ⟨a1,a2⟩:=A
    unfold fK at c1
    dsimp only at HW ⊢
    clear h c2 c3 c4 c5 cf he
    by_cases h2:a2=0
    · subst h2
      rw [Ps.refuse_ok]
      go_enter Tryz.func44,Tryz.ntmps44
      go_wp2_with (first
        | (go_at_call 80;refine HW.out.mono ?_;rintro e w1 ⟨rfl,hR,hO⟩;have HP:=Lib.hid (And.intro (H.out.go hR hO) (Kept3.of_onlyY (x:=x) (g:=g) hO));clear hR hO))
      go_end0
      exact ⟨rfl,HP.out.1,HP.out.2⟩
    · go_enter Tryz.func44,Tryz.ntmps44
      go_wp2_with (first
        | (go_at_call 80;refine HW.out.mono ?_;rintro e w1 ⟨rfl,hR,hO⟩;have HP:=Lib.hid (And.intro (H.out.go hR hO) (Kept3.of_onlyY (x:=x) (g:=g) hO));clear hR hO)
        | (go_at_call 65;refine (fail_any _ _ h2 HP.out.1).mono ?_;rintro e w2 ⟨rfl,hP,hK⟩))
      go_end0
      exact ⟨rfl,hP,HP.out.2.trans hK⟩
def Ps.num (most:Int) (s:Ps):(Int × Int) × Ps:=match s.e with
  | some _=>((0,s.i),s)
  | none=>(((Sc.numA s.l most).1,s.i),(s.skip (Sc.numN s.l most)).refuse (Sc.numA s.l most).2 s.i)
theorem rnumber_any (most:Int) (hm:-9223372036854775808≤most) (hm2:most<9223372036854775808) (h:RAt x y g B xs mk V w s) :
    Calls Tryz.prog 138 #[.pointer (some ⟨y,0,none⟩),.int .i64 most] w (Sc.RReads y B w (Sc.two (Sc.numA s.l most)) xs (s.i+Sc.numN s.l most)):=by
  have hl:=h.eq
  obtain ⟨_,_,_,hn,hi,_⟩:=h.rf
  by_cases h1:s.i=xs.length
  · have h2:s.l=[]:=by rw [hl,h1];exact List.drop_length
    rw [h2]
    have:=Sc.rnum_none y B s.i xs most w h.rf h.ord.1 h1
    exact this
  · have hlt:s.i<xs.length:=by omega
    have hd:∀ k,s.l.getD k 0=xs.getD (s.i+k) 0:=fun k=>by rw [hl];exact Sc.drop_at xs s.i k
    have hlen:s.i+s.l.length=xs.length:=by rw [hl,List.length_drop];omega
    have hne:s.l≠[]:=fun e=>by rw [e] at hlen;simp at hlen;omega
    obtain ⟨z,zs,hzz⟩:=List.exists_cons_of_ne_nil hne
    have h0:s.l.getD 0 0=xs.getD s.i 0:=by have:=hd 0;simpa using this
    have hz0:s.l.getD 0 0=z:=by rw [hzz];rfl
    by_cases hx:Sc.isDig z=true
    · refine Sc.rnum_dig y B s.i xs s.l most w h.rf h.ord.1 hlt hm hm2 hn hlen hd (fun j hj=>?_) (by rw [hz0];exact hx)
      have hm3:s.l.getD j 0∈s.l:=by
        simp only [List.getD,List.getElem?_eq_getElem hj,Option.getD_some]
        exact List.getElem_mem hj
      exact h.byte _ (List.mem_of_mem_drop (i:=s.i) (by rw [← hl];exact hm3))
    · have hxf:Sc.isDig z=false:=by simpa using hx
      have e1:Sc.numA s.l most=(0,2):=by rw [hzz];unfold Sc.numA;rw [if_neg (by simp),if_pos (by simpa using hxf)]
      have e2:Sc.numN s.l most=0:=by rw [hzz];unfold Sc.numN;rw [if_neg (by simp),if_pos (by simpa using hxf)]
      rw [e1,e2]
      exact Sc.rnum_no y B s.i xs most w h.rf h.ord.1 hlt (by rw [← h0,hz0];exact hxf)
set_option maxHeartbeats 1000000 in
theorem num7_any (most:Int) (hm:-9223372036854775808≤most) (hm2:most<9223372036854775808) (h:RAt x y g B xs mk V w s) :
    Calls Tryz.prog 82 #[.pointer (some ⟨x,0,none⟩),.int .i64 most] w (RStep x y g B xs mk V w (.tuple #[.int .i64 (s.num most).1.1,.int .i64 (s.num most).1.2]) (s.num most).2):=by
  obtain ⟨c0,c1,c2,c3,c4,c5,cf⟩:=h.cells
  have H:=Lib.hid h
  cases he:s.e with
  | some z =>
    have hz:=h.kind z he
    rw [he] at c1
    rw [show s.num most=((0,(s.i:Int)),s) by unfold Ps.num;rw [he]]
    obtain ⟨z1,z2⟩:=z
    have hz1:¬ z1=0:=hz
    unfold fK at c1
    dsimp only at c1
    clear h c2 c3 c4 cf he hz
    go_enter Tryz.func82,Tryz.ntmps82
    go_wp2
    go_ret2
    exact ⟨rfl,H.out,Kept3.refl _ _ _ _⟩
  | none =>
    rw [he] at c1
    rw [show s.num most=(((Sc.numA s.l most).1,(s.i:Int)),(s.skip (Sc.numN s.l most)).refuse (Sc.numA s.l most).2 s.i) by unfold Ps.num;rw [he]]
    have HW:=Lib.hid (rnumber_any most hm hm2 h)
    unfold Sc.two at HW
    generalize Sc.numA s.l most=A at *
    generalize Sc.numN s.l most=n at *
    obtain ⟨a1,a2⟩:=A
    unfold fK at c1
    dsimp only at HW ⊢
    clear h c2 c3 c4 cf he
    by_cases h2:a2=0
    · subst h2
      rw [Ps.refuse_ok]
      go_enter Tryz.func82,Tryz.ntmps82
      go_wp2_with (first
        | (go_at_call 138;refine HW.out.mono ?_;rintro e w1 ⟨rfl,hR,hO⟩;have HP:=Lib.hid (And.intro (H.out.go hR hO) (Kept3.of_onlyY (x:=x) (g:=g) hO));clear hR hO))
      go_ret2
      exact ⟨rfl,HP.out.1,HP.out.2⟩
    · go_enter Tryz.func82,Tryz.ntmps82
      go_wp2_with (first
        | (go_at_call 138;refine HW.out.mono ?_;rintro e w1 ⟨rfl,hR,hO⟩;have HP:=Lib.hid (And.intro (H.out.go hR hO) (Kept3.of_onlyY (x:=x) (g:=g) hO));clear hR hO)
        | (go_at_call 65;refine (fail_any _ _ h2 HP.out.1).mono ?_;rintro e w2 ⟨rfl,hP,hK⟩))
      go_ret2
      exact ⟨rfl,hP,HP.out.2.trans hK⟩
theorem Ps.num_in (s:Ps):0≤(s.num maxN).1.1∧(s.num maxN).1.1≤maxN:=by
  unfold Ps.num
  split
  · exact ⟨Int.le_refl _,(show (0:Int)≤maxN by decide)⟩
  · exact numA_in s.l maxN (by decide)
theorem Ps.num_upto (s:Ps) (hi k:Int):s.within 0 hi k=if hi<(s.num maxN).1.1∧(s.num maxN).2.e=none then (0,(s.num maxN).2.refuse k (s.num maxN).1.2) else ((if (s.num maxN).2.e=none then (s.num maxN).1.1 else 0),(s.num maxN).2):=by
  have hin:=s.num_in
  unfold Ps.within Ps.num at *
  cases he:s.e with
  | some z=>simp [he]
  | none =>
    simp only [he] at hin ⊢
    have h0:=hin.1
    by_cases h2:(Sc.numA s.l maxN).2=0
    · rw [if_neg (by simpa using h2),h2,Ps.refuse_ok]
      have e2:(s.skip (Sc.numN s.l maxN)).e=none:=he
      by_cases h3:hi<(Sc.numA s.l maxN).1
      · rw [if_pos (.inr h3),if_pos ⟨h3,e2⟩]
      · rw [if_neg (by omega),if_neg (fun h=>h3 h.1),if_pos e2]
    · rw [if_pos h2]
      have e1:((s.skip (Sc.numN s.l maxN)).refuse (Sc.numA s.l maxN).2 s.i).e≠none:=by
        rw [Ps.refuse_none (show (s.skip (Sc.numN s.l maxN)).e=none from he) h2]
        simp
      rw [if_neg (fun h=>e1 h.2),if_neg e1]
end
theorem numA_zero {l:List Int} {most:Int} (h:(Sc.numA l most).2≠0):(Sc.numA l most).1=0:=by
  unfold Sc.numA at h ⊢
  split
  · rfl
  · rename_i h1
    rw [if_neg h1] at h
    split
    · rfl
    · rename_i h2
      rw [if_neg h2] at h
      split
      · rfl
      · rename_i h3
        rw [if_neg h3] at h
        exact absurd rfl h
theorem Ps.num_zero {s:Ps} (h:(s.num maxN).2.e≠none):(s.num maxN).1.1=0:=by
  unfold Ps.num at h ⊢
  cases he:s.e with
  | some z=>rfl
  | none =>
    rw [he] at h
    simp only at h ⊢
    by_cases h2:(Sc.numA s.l maxN).2=0
    · rw [h2,Ps.refuse_ok] at h
      exact absurd he h
    · exact numA_zero h2
theorem Ps.num_at (s:Ps):(s.num maxN).1.2=(s.i:Int):=by
  unfold Ps.num
  split <;> rfl
theorem Ps.num_seen (s:Ps):(s.num maxN).2.seen=s.seen:=by
  unfold Ps.num
  split
  · rfl
  · exact Ps.refuse_seen _ _ _
theorem Ps.within_num (s:Ps) {hi:Int} (h0:0≤hi) (k:Int):s.within 0 hi k=if hi<(s.num maxN).1.1 then (0,(s.num maxN).2.refuse k (s.num maxN).1.2) else ((s.num maxN).1.1,(s.num maxN).2):=by
  rw [Ps.num_upto]
  by_cases he:(s.num maxN).2.e=none
  · by_cases h1:hi<(s.num maxN).1.1
    · rw [if_pos ⟨h1,he⟩,if_pos h1]
    · rw [if_neg (fun h=>h1 h.1),if_neg h1,if_pos he]
  · have hz:=Ps.num_zero he
    rw [if_neg (fun h=>he h.2),if_neg he,if_neg (by omega),hz]
theorem rvar_any (l:Int) (h0:0≤l) (h1:l≤1099511627776) (w:World):Calls Tryz.prog 83 #[.int .i64 l] w fun e w'=>e=.returned (.int .i64 (l / 2))∧w=w':=by
  have hw:wrap64 (l / 2)=l / 2:=by unfold wrap64;omega
  go_enter Tryz.func83,Tryz.ntmps83
  go_wp2
  go_ret
  exact ⟨by first | rfl | simp,rfl⟩
theorem Ps.def_num (s:Ps) {V:Int} (hV:0≤V) (cnt:Nat):s.definition V cnt =
    if (s.num maxN).2.e≠none then (0,(s.num maxN).2)
    else if 2*V+1<(s.num maxN).1.1∨(s.num maxN).1.1<2∨(s.num maxN).1.1 % 2=1∨V - (s.num maxN).1.1 / 2+1<cnt then (0,(s.num maxN).2.refuse 5 (s.num maxN).1.2)
    else if hits s.seen ((s.num maxN).1.1 / 2) cnt=true then (0,(s.num maxN).2.refuse 6 (s.num maxN).1.2)
    else ((s.num maxN).1.1 / 2,{ (s.num maxN).2 with seen:=s.seen++spread ((s.num maxN).1.1 / 2) cnt }):=by
  have hin:=s.num_in
  have hat:=s.num_at
  have hz:=Ps.num_zero (s:=s)
  unfold Ps.definition Ps.literal
  rw [Ps.within_num s (by omega) 5]
  generalize (s.num maxN).2=t at *
  generalize (s.num maxN).1.2=a at *
  generalize (s.num maxN).1.1=n at *
  subst hat
  by_cases he:t.e=none
  · have e0:¬ (t.e≠none):=by simpa using he
    rw [if_neg e0]
    by_cases h1:2*V+1<n
    · have d1:2*V+1<n∨n<2∨n % 2=1∨V - n / 2+1<cnt:=.inl h1
      rw [if_pos h1,if_pos d1]
      dsimp only
      have d2:(0:Int) / 2=0∨(0:Int) % 2=1∨V+1<(0:Int) / 2+cnt:=.inl (by decide)
      rw [if_pos d2,Ps.refuse_none he (by decide)]
      rfl
    · rw [if_neg h1]
      dsimp only
      by_cases h2:n / 2=0∨n % 2=1∨V+1<n / 2+cnt
      · have d1:2*V+1<n∨n<2∨n % 2=1∨V - n / 2+1<cnt:=by omega
        rw [if_pos h2,if_pos d1]
      · have d1:¬ (2*V+1<n∨n<2∨n % 2=1∨V - n / 2+1<cnt):=by omega
        rw [if_neg h2,if_neg d1]
  · have e0:t.e≠none:=he
    have hn:=hz he
    have h1:¬ (2*V+1<n):=by omega
    rw [if_pos e0,if_neg h1,hn]
    dsimp only
    have d2:(0:Int) / 2=0∨(0:Int) % 2=1∨V+1<(0:Int) / 2+cnt:=.inl (by decide)
    rw [if_pos d2]
    cases hte:t.e with
    | none=>exact absurd hte he
    | some z=>rw [Ps.refuse_some hte]
section
variable {x y g B:Nat} {xs:List Int} {mk:Bool} {V:Int} {w:World} {s:Ps}
set_option maxHeartbeats 1000000 in
theorem upto_any (hi:Int) (h0:0≤hi) (h:RAt x y g B xs mk V w s) :
    Calls Tryz.prog 81 #[.pointer (some ⟨x,0,none⟩),.int .i64 hi] w (RStep x y g B xs mk V w (.int .i64 (s.within 0 hi 10).1) (s.within 0 hi 10).2):=by
  have HN:=Lib.hid (num7_any maxN (by decide) (by decide) h)
  unfold maxN at HN
  rw [show (1099511627776:Int)=maxN from rfl] at HN
  rw [Ps.within_num s h0]
  generalize s.num maxN=X at *
  obtain ⟨⟨n,a⟩,t⟩:=X
  dsimp only at HN ⊢
  rw [show maxN=(1099511627776:Int) from rfl] at HN
  clear h
  by_cases h1:hi<n
  · rw [if_pos h1]
    go_enter Tryz.func81,Tryz.ntmps81
    go_wp2_with (first
      | (go_at_call 82;refine HN.out.mono ?_;rintro e w1 ⟨rfl,hP,hK⟩;have HP:=Lib.hid (And.intro hP hK);clear hP hK)
      | (go_at_call 65;refine (fail_any 10 a (by decide) HP.out.1).mono ?_;rintro e w2 ⟨rfl,hP,hK⟩))
    go_ret
    exact ⟨rfl,hP,HP.out.2.trans hK⟩
  · rw [if_neg h1]
    go_enter Tryz.func81,Tryz.ntmps81
    go_wp2_with (first
      | (go_at_call 82;refine HN.out.mono ?_;rintro e w1 ⟨rfl,hP,hK⟩;have HP:=Lib.hid (And.intro hP hK);clear hP hK))
    go_ret
    exact ⟨rfl,HP.out.1,HP.out.2⟩
set_option maxHeartbeats 1000000 in
theorem lit_any (h:RAt x y g B xs mk V w s) :
    Calls Tryz.prog 84 #[.pointer (some ⟨x,0,none⟩)] w (RStep x y g B xs mk V w (.int .i64 (s.literal V).1) (s.literal V).2):=by
  have hv:=h.vars
  have HN:=Lib.hid (num7_any maxN (by decide) (by decide) h)
  unfold Ps.literal
  rw [Ps.within_num s (by omega)]
  generalize s.num maxN=X at *
  obtain ⟨⟨n,a⟩,t⟩:=X
  dsimp only at HN ⊢
  rw [show maxN=(1099511627776:Int) from rfl] at HN
  clear h
  by_cases h1:2*V+1<n
  · rw [if_pos h1]
    go_enter Tryz.func84,Tryz.ntmps84
    go_wp2_with (first
      | (go_at_call 82;refine HN.out.mono ?_;rintro e w1 ⟨rfl,hP,hK⟩;obtain ⟨-,-,-,d3,-,-,-⟩:=hP.cells;have HP:=Lib.hid (And.intro hP hK);clear hP hK)
      | (go_at_call 65;refine (fail_any 5 a (by decide) HP.out.1).mono ?_;rintro e w2 ⟨rfl,hP,hK⟩))
    go_ret
    exact ⟨rfl,hP,HP.out.2.trans hK⟩
  · rw [if_neg h1]
    go_enter Tryz.func84,Tryz.ntmps84
    go_wp2_with (first
      | (go_at_call 82;refine HN.out.mono ?_;rintro e w1 ⟨rfl,hP,hK⟩;obtain ⟨-,-,-,d3,-,-,-⟩:=hP.cells;have HP:=Lib.hid (And.intro hP hK);clear hP hK))
    go_ret
    exact ⟨rfl,HP.out.1,HP.out.2⟩
theorem RAt.mark (h:RAt x y g B xs true V w s) {z:Int} (h0:0≤z) (h1:z≤V):RAt x y g B xs true V (w.setCell ⟨g,z.toNat,none⟩ (.bool true)) { s with seen:=s.seen++[z] }:=by
  have hM:=(h.marks rfl).set (x:=z.toNat) (by omega)
  rw [show ((z.toNat:Nat):Int)=z by omega] at hM
  obtain ⟨k1,k2,k3,k4,k5,k6,k7,k8⟩:=h
  have hg:=k7.2.2 rfl
  have hother:∀ k,k≠g→(w.setCell ⟨g,z.toNat,none⟩ (.bool true)).heap[k]?=w.heap[k]?:=fun k hk=>heap_setCell_other _ _ _ _ (by simpa using hk)
  refine ⟨(hother x (by omega)).trans k1,?_,k3,fun _=>hM,k5,k6,k7,k8⟩
  obtain ⟨a',c,e1,e2,e3,e4⟩:=k2
  exact ⟨a',c,(hother y (by omega)).trans e1,e2,e3,e4.keep (r:=g) (fun q _ hq=>hother q hq) (by simp) (by omega)⟩
set_option maxRecDepth 100000 in
set_option maxHeartbeats 8000000 in
theorem def7_any (cnt:Nat) (hc:cnt≤1000) (h:RAt x y g B xs true V w s) :
    Calls Tryz.prog 43 #[.pointer (some ⟨x,0,none⟩),.int .i64 cnt] w (RStep x y g B xs true V w (.int .i64 (s.definition V cnt).1) (s.definition V cnt).2):=by
  have hv:=h.vars
  have hin:=s.num_in
  have HSN:=Lib.hid s.num_seen
  have HN:=Lib.hid (num7_any maxN (by decide) (by decide) h)
  rw [Ps.def_num s hv.1]
  generalize hseen:s.seen=sn at *
  generalize s.num maxN=X at *
  obtain ⟨⟨n,a⟩,t⟩:=X
  dsimp only at HN HSN hin ⊢
  have hin2:n≤1099511627776:=hin.2
  have hin1:=hin.1
  rw [show maxN=(1099511627776:Int) from rfl] at HN
  clear h hseen hin
  have HK:=Lib.hid (fun (W:World) (h:RAt x y g B xs true V W t)=>h.kind)
  cases he:t.e with
  | some z =>
    rw [if_pos (by simp)]
    go_enter Tryz.func43,Tryz.ntmps43
    go_wp2_with (first
      | (go_at_call 82;refine HN.out.mono ?_;rintro e w1 ⟨rfl,hP,hK⟩;obtain ⟨-,d1,-,d3,d4,-,-⟩:=hP.cells;rw [he] at d1;have hz1:¬ z.1=0:=HK.out _ hP z he;unfold fK at d1;dsimp only at d1;have HP:=Lib.hid (And.intro hP hK);clear hP hK))
    go_ret
    exact ⟨rfl,HP.out.1,HP.out.2⟩
  | none =>
    rw [if_neg (by simp)]
    have HE:=Lib.hid he
    by_cases h1:2*V+1<n∨n<2∨n % 2=1∨V - n / 2+1<cnt
    · rw [if_pos h1]
      by_cases a1:2*V+1<n
      · clear h1 he
        go_enter Tryz.func43,Tryz.ntmps43
        go_wp2_with (first
          | (go_at_call 82;refine HN.out.mono ?_;rintro e w1 ⟨rfl,hP,hK⟩;obtain ⟨-,d1,-,d3,d4,-,-⟩:=hP.cells;rw [HE.out] at d1;unfold fK at d1;have HP:=Lib.hid (And.intro hP hK);clear hP hK)
          | (go_at_call 83;refine (rvar_any _ hin1 hin2 _).mono ?_;rintro e w2 ⟨rfl,rfl⟩)
          | (go_at_call 65;refine (fail_any 5 a (by decide) HP.out.1).mono ?_;rintro e w2 ⟨rfl,hP,hK⟩))
        go_ret
        exact ⟨rfl,hP,HP.out.2.trans hK⟩
      · by_cases a2:n<2
        · clear h1 he
          go_enter Tryz.func43,Tryz.ntmps43
          go_wp2_with (first
            | (go_at_call 82;refine HN.out.mono ?_;rintro e w1 ⟨rfl,hP,hK⟩;obtain ⟨-,d1,-,d3,d4,-,-⟩:=hP.cells;rw [HE.out] at d1;unfold fK at d1;have HP:=Lib.hid (And.intro hP hK);clear hP hK)
            | (go_at_call 83;refine (rvar_any _ hin1 hin2 _).mono ?_;rintro e w2 ⟨rfl,rfl⟩)
            | (go_at_call 65;refine (fail_any 5 a (by decide) HP.out.1).mono ?_;rintro e w2 ⟨rfl,hP,hK⟩))
          go_ret
          exact ⟨rfl,hP,HP.out.2.trans hK⟩
        · by_cases a3:n % 2=1
          · have a3':n % 2=1:=a3
            clear h1 he a3
            go_enter Tryz.func43,Tryz.ntmps43
            go_wp2_with (first
              | (go_at_call 82;refine HN.out.mono ?_;rintro e w1 ⟨rfl,hP,hK⟩;obtain ⟨-,d1,-,d3,d4,-,-⟩:=hP.cells;rw [HE.out] at d1;unfold fK at d1;have HP:=Lib.hid (And.intro hP hK);clear hP hK)
              | (go_at_call 83;refine (rvar_any _ hin1 hin2 _).mono ?_;rintro e w2 ⟨rfl,rfl⟩)
              | (go_at_call 65;refine (fail_any 5 a (by decide) HP.out.1).mono ?_;rintro e w2 ⟨rfl,hP,hK⟩))
            go_ret
            exact ⟨rfl,hP,HP.out.2.trans hK⟩
          · have a3':n % 2=0:=by omega
            obtain ⟨v,hve⟩:∃ v:Nat,(v:Int)=n / 2:=⟨(n / 2).toNat,by omega⟩
            rw [← hve] at h1
            have a4:V - (v:Int)+1<(cnt:Int):=by omega
            have HV:=Lib.hid hve
            have hv2:(v:Int)≤1099511627776:=by omega
            clear h1 he a3 hve
            go_enter Tryz.func43,Tryz.ntmps43
            go_wp2_with (first
              | (go_at_call 82;refine HN.out.mono ?_;rintro e w1 ⟨rfl,hP,hK⟩;obtain ⟨-,d1,-,d3,d4,-,-⟩:=hP.cells;rw [HE.out] at d1;unfold fK at d1;have HP:=Lib.hid (And.intro hP hK);clear hP hK)
              | (go_at_call 83;refine (rvar_any _ hin1 hin2 _).mono ?_;rintro e w2 ⟨rfl,rfl⟩;rw [← HV.out])
              | (go_at_call 65;refine (fail_any 5 a (by decide) HP.out.1).mono ?_;rintro e w2 ⟨rfl,hP,hK⟩))
            go_ret
            exact ⟨rfl,hP,HP.out.2.trans hK⟩
    · rw [if_neg h1]
      have a1:¬ 2*V+1<n:=by omega
      have a2:¬ n<2:=by omega
      have a3':n % 2=0:=by omega
      obtain ⟨v,hve⟩:∃ v:Nat,(v:Int)=n / 2:=⟨(n / 2).toNat,by omega⟩
      obtain ⟨m,hme⟩:∃ m:Nat,V.toNat+1=m:=⟨_,rfl⟩
      rw [← hve] at h1 ⊢
      have a4:¬ V - (v:Int)+1<(cnt:Int):=by omega
      have hvm:v+cnt≤m:=by omega
      have HV:=Lib.hid hve
      have hv1:(1:Int)≤(v:Int):=by omega
      have hv2:(v:Int)≤1099511627776:=by omega
      have hmm:(m:Int)=V+1:=by omega
      have hm2:m≤2001:=by omega
      clear h1 he hve
      cases hh:hits sn (v:Int) cnt with
      | true =>
        rw [if_pos rfl]
        obtain ⟨k0,hk0,hk1⟩:∃ k0:Nat,k0<cnt∧(v:Int)+(k0:Int)∈sn:=by
          unfold hits at hh
          rw [List.any_eq_true] at hh
          obtain ⟨k,h1,h2⟩:=hh
          exact ⟨k,by simpa using h1,by simpa using h2⟩
        have HKX:=Lib.hid (And.intro hk0 hk1)
        clear hh hk0 hk1
        go_enter Tryz.func43,Tryz.ntmps43
        go_wp2_with (first
          | (go_at_call 82;refine HN.out.mono ?_;rintro e w1 ⟨rfl,hP,hK⟩;obtain ⟨-,d1,-,d3,d4,-,-⟩:=hP.cells;rw [HE.out] at d1;unfold fK at d1;unfold sval at d4;rw [if_pos rfl,hme] at d4;have HMR:=Lib.hid (HSN.out ▸ hme ▸ hP.marks rfl:Marked w1 g m sn);have HP:=Lib.hid (And.intro hP hK);clear hP hK)
          | (go_at_call 83;refine (rvar_any _ hin1 hin2 _).mono ?_;rintro e w2 ⟨rfl,rfl⟩;rw [← HV.out]))
        go_loopg [8] cnt (fun m' s8 wx=>∃ k:Nat,k+m'=cnt∧s8=.int .i64 k∧Aside (∀ j:Nat,j<k→¬ (v:Int)+(j:Int)∈sn)∧w1=wx)
        case atStart=>exact ⟨0,by omega,rfl,fun j hj=>by omega,rfl⟩
        case round =>
          obtain ⟨k,hk,rfl,HI,rfl⟩:=hrel
          generalize gk=m' at *
          have hk00:(0:Int)≤(k:Int):=by omega
          by_cases hlt:k<cnt
          · have hltI:(k:Int)<(cnt:Int):=by omega
            have hidx:(v:Int)+(k:Int)<(m:Int):=by omega
            have hidx0:(0:Int)≤(v:Int)+(k:Int):=by omega
            have hcell:=HMR.out.cell (i:=v+k) (by omega)
            have hto:((v:Int)+(k:Int)).toNat=v+k:=by omega
            by_cases hx:(v:Int)+(k:Int)∈sn
            · rw [show decide (((v+k:Nat):Int)∈sn)=true by simpa using hx] at hcell
              clear HI hx
              go_wp2_with (first
                | (go_at_call 65;refine (fail_any 6 a (by decide) HP.out.1).mono ?_;rintro e w2 ⟨rfl,hP,hK⟩))
              go_ret
              exact ⟨rfl,hP,HP.out.2.trans hK⟩
            · rw [show decide (((v+k:Nat):Int)∈sn)=false by simpa using hx] at hcell
              have HI2:=Lib.hid (show ∀ j:Nat,j<k+1→¬ (v:Int)+(j:Int)∈sn from fun j hj=>by
                by_cases e:j=k
                · subst e;exact hx
                · exact HI.out j (by omega))
              clear HI hx
              go_wp2_with fail
              go_roundg (m' - 1)
              case measure=>omega
              case rel=>exact ⟨k+1,by omega,by first | rfl | simp,HI2.out,rfl⟩
          · exact absurd HKX.out.2 (HI.out k0 (by have:=HKX.out.1;omega))
      | false =>
        rw [if_neg (by simp)]
        have HKX:=Lib.hid (show ∀ k:Nat,k<cnt→¬ (v:Int)+(k:Int)∈sn from fun k hk hx=>by
          have:=hits_yes hk hx
          rw [hh] at this
          cases this)
        clear hh
        go_enter Tryz.func43,Tryz.ntmps43
        go_wp2_with (first
          | (go_at_call 82;refine HN.out.mono ?_;rintro e w1 ⟨rfl,hP,hK⟩;obtain ⟨-,d1,-,d3,d4,-,-⟩:=hP.cells;rw [HE.out] at d1;unfold fK at d1;unfold sval at d4;rw [if_pos rfl,hme] at d4;have HMR:=Lib.hid (HSN.out ▸ hme ▸ hP.marks rfl:Marked w1 g m sn);have HP:=Lib.hid (And.intro hP hK);clear hP hK)
          | (go_at_call 83;refine (rvar_any _ hin1 hin2 _).mono ?_;rintro e w2 ⟨rfl,rfl⟩;rw [← HV.out]))
        go_loopg [8] cnt (fun m' s8 wx=>∃ k:Nat,k+m'=cnt∧s8=.int .i64 k∧w1=wx)
        case atStart=>exact ⟨0,by omega,rfl,rfl⟩
        case round =>
          obtain ⟨k,hk,rfl,rfl⟩:=hrel
          generalize gk=m' at *
          have hk00:(0:Int)≤(k:Int):=by omega
          by_cases hlt:k<cnt
          · have hltI:(k:Int)<(cnt:Int):=by omega
            have hidx:(v:Int)+(k:Int)<(m:Int):=by omega
            have hidx0:(0:Int)≤(v:Int)+(k:Int):=by omega
            have hcell:=HMR.out.cell (i:=v+k) (by omega)
            have hto:((v:Int)+(k:Int)).toNat=v+k:=by omega
            rw [show decide (((v+k:Nat):Int)∈sn)=false by simpa using HKX.out k hlt] at hcell
            go_wp2_with fail
            go_roundg (m' - 1)
            case measure=>omega
            case rel=>exact ⟨k+1,by omega,by first | rfl | simp,rfl⟩
          · have hltn:¬ ((k:Int)<(cnt:Int)):=by omega
            clear d1 d3 d4
            go_wp2_with fail
            go_loopg [9] cnt (fun m' s9 wx=>∃ k:Nat,k+m'=cnt∧s9=.int .i64 k∧RAt x y g B xs true V wx { t with seen:=sn++spread v k }∧Kept3 x y g w wx)
            case atStart=>exact ⟨0,by omega,rfl,by have:=HP.out.1;rw [show ({ t with seen:=sn++spread (v:Int) 0 }:Ps)=t from by rw [← HSN.out];simp [spread]];exact this,HP.out.2⟩
            case round =>
              clear hk hlt hltn hk00
              obtain ⟨k2,hk,rfl,hP,hK⟩:=hrel
              generalize gk=m2 at *
              have hk00:(0:Int)≤(k2:Int):=by omega
              by_cases hlt:k2<cnt
              · have hltI:(k2:Int)<(cnt:Int):=by omega
                have hidx:(v:Int)+(k2:Int)<(m:Int):=by omega
                have hidx0:(0:Int)≤(v:Int)+(k2:Int):=by omega
                have hto:((v:Int)+(k2:Int)).toNat=v+k2:=by omega
                have hPM:=hP.mark (z:=(v:Int)+(k2:Int)) hidx0 (by omega)
                have hKM:=hK.mark ((v:Int)+(k2:Int)).toNat (.bool true)
                obtain ⟨-,-,-,-,e4,-,-⟩:=hP.cells
                unfold sval at e4
                rw [if_pos rfl,hme] at e4
                have hcell:=(hP.marks rfl).look (v:=(v:Int)+(k2:Int)) hidx0 (by omega)
                have hf:=(hP.marks rfl).free ((v:Int)+(k2:Int)).toNat
                rw [hto] at hcell hf hPM hKM
                have HM:=Lib.hid (And.intro hPM hKM)
                clear hP hK hPM hKM
                go_wp2_with fail
                go_roundg (m2 - 1)
                case measure=>omega
                case rel =>
                  have h9:=HM.out
                  refine ⟨k2+1,by omega,by first | rfl | simp,?_,h9.2⟩
                  rw [show sn++spread (v:Int) (k2+1)=sn++spread (v:Int) k2++[(v:Int)+(k2:Int)] from by rw [List.append_assoc];rfl]
                  exact h9.1
              · have hkc:k2=cnt:=by omega
                have hltn:¬ ((k2:Int)<(cnt:Int)):=by omega
                have HM:=Lib.hid (And.intro hP hK)
                clear hP hK
                go_wp2_with fail
                go_ret
                subst hkc
                have h9:=HM.out.1
                rw [HE.out] at h9
                exact ⟨rfl,h9,HM.out.2⟩
end
def qloop {α:Type} (f:Ps→α × Ps):Nat→List α × Ps→List α × Ps
  | 0,a=>a
  | k+1,a=>if a.2.e.isSome then a else qloop f k (a.1++[(f a.2).1],(f a.2).2)
theorem qloop_bad {α:Type} {f:Ps→α × Ps} {a:List α × Ps} (h:a.2.e.isSome=true) (k:Nat):qloop f k a=a:=by
  cases k with
  | zero=>rfl
  | succ k=>unfold qloop;rw [if_pos h]
theorem qloop_go {α:Type} {f:Ps→α × Ps} {l:List α} {s:Ps} (h:s.e=none) (k:Nat):qloop f (k+1) (l,s)=qloop f k (l++[(f s).1],(f s).2):=by
  conv=>lhs;unfold qloop
  rw [if_neg (by simp [h])]
def RList (x y g B:Nat) (xs:List Int) (mk:Bool) (V:Int) (w:World) (z:List Int × Ps) (e:Ending) (w':World):Prop :=
  ∃ v,e=.returned v∧w'.ownsRow w.heap.size 3 1 v z.1.length (z.1.map (Value.int .i64))∧RAt x y g B xs mk V w' z.2∧Kept3 x y g w w'
theorem RAt.gsz {x y g B:Nat} {xs:List Int} {mk:Bool} {V:Int} {w:World} {s:Ps} (h:RAt x y g B xs mk V w s):x<w.heap.size∧(mk=true→g<w.heap.size):=⟨h.lt.1,h.lt.2.2.2⟩
section
variable {x y g B:Nat} {xs:List Int} {mk:Bool} {V:Int} {w:World} {s:Ps}
set_option maxRecDepth 100000 in
set_option maxHeartbeats 2000000 in
theorem lits7_any (k0:Nat) (hk0:k0≤1000000) (h:RAt x y g B xs mk V w s) (hg:g<w.heap.size) :
    Calls Tryz.prog 48 #[.pointer (some ⟨x,0,none⟩),.int .i64 k0] w (RList x y g B xs mk V w (qloop (fun t:Ps=>t.nextLiteral V) k0 ([],s))):=by
  obtain ⟨i0,hi,hz0,hz1,hz2⟩:=info_parts int_info
  have hgs:=h.gsz
  have hys:=h.lt.2.1
  have H:=Lib.hid h
  have HO:=Lib.hid (World.ownsRow_nil w w.heap.size 3 1)
  obtain ⟨Z,hZ⟩:∃ Z,qloop (fun t:Ps=>t.nextLiteral V) k0 ([],s)=Z:=⟨_,rfl⟩
  rw [hZ]
  have HZ:=Lib.hid hZ
  clear h hZ
  go_enter Tryz.func48,Tryz.ntmps48
  go_wp2_with fail
  go_loopg [5,6] k0 (fun m' s5 s6 wx=>∃ (k:Nat) (l:List Int) (t:Ps),k+m'=k0∧s6=.int .i64 k∧l.length=k∧wx.ownsRow w.heap.size 3 1 s5 l.length (l.map (Value.int .i64))∧RAt x y g B xs mk V wx t∧Kept3 x y g w wx∧Aside (qloop (fun t:Ps=>t.nextLiteral V) m' (l,t)=Z))
  case atStart=>exact ⟨0,[],s,by omega,rfl,rfl,HO.out,H.out,Kept3.refl _ _ _ _,HZ.out⟩
  case round =>
    obtain ⟨k,l,t,hk,rfl,hl,ho,hP,hK,HL⟩:=hrel
    generalize gk=m' at *
    obtain ⟨-,c1,-,-,-,-,-⟩:=hP.cells
    by_cases hlt:k<k0
    · have hltI:(k:Int)<(k0:Int):=by omega
      obtain ⟨m2,rfl⟩:∃ m2,m'=m2+1:=⟨m' - 1,by omega⟩
      cases he:t.e with
      | some z =>
        rw [he] at c1
        have hkz:=hP.kind z he
        obtain ⟨q1,q2⟩:=z
        have hq1:¬ q1=0:=hkz
        unfold fK at c1
        dsimp only at c1
        clear hkz
        have HX:=Lib.hid (And.intro ho (And.intro hP hK))
        have HQ:=Lib.hid (show (l,t)=Z from by rw [← HL.out];exact (qloop_bad (by simp [he]) _).symm)
        clear ho hP hK HL he
        go_wp2_with fail
        go_ret
        rw [← HQ.out]
        exact ⟨_,rfl,HX.out.1,HX.out.2.1,HX.out.2.2⟩
      | none =>
        rw [he] at c1
        unfold fK at c1
        have hq:=qloop_go (f:=fun t:Ps=>t.nextLiteral V) (l:=l) he m2
        have HE:=Lib.hid (sb_space ▸ rwant7_any ⟨#[32]⟩ (by decide) hP)
        obtain ⟨v1,t2,e1⟩:∃ v1 t2,t.nextLiteral V=(v1,t2):=⟨_,_,rfl⟩
        have HN:=Lib.hid (fun (W:World) (h:RAt x y g B xs mk V W (t.expect [32]))=>(show (t.expect [32]).literal V=(v1,t2) from e1) ▸ lit_any h)
        try dsimp only at hq
        rw [e1] at hq
        clear e1
        have HQ:=Lib.hid (show qloop (fun t:Ps=>t.nextLiteral V) m2 (l++[v1],t2)=Z from by rw [← HL.out,hq])
        have HX:=Lib.hid (And.intro ho hK)
        have hl2:l.length≤1000000:=by omega
        clear ho hP hK HL hq he
        go_wp2_with (first
          | (go_at_call 44;refine HE.out.mono ?_;rintro e w1 ⟨rfl,hP1,hK1⟩;have HP1:=Lib.hid (And.intro hP1 hK1);clear hP1 hK1)
          | (go_at_call 84;refine (HN.out _ HP1.out.1).mono ?_;rintro e w2 ⟨rfl,hP2,hK2⟩;have hO1:=own_step (own_step HX.out.1 HP1.out.2 ⟨hgs.1,hys,hg⟩) hK2 ⟨hgs.1,hys,hg⟩;have HP2:=Lib.hid (And.intro hP2 ((HX.out.2.trans HP1.out.2).trans hK2));clear hP2 hK2)
          | (at_builtin;refine wpList_append_own _ rfl _ _ 22 rfl w.heap.size 3 i0 (.int .i64 0) 1 8 Tryz.underlying22 hi hz0 hz1 hz2 rfl (by decide) _ _ _ rfl (hO1.alloc _) ⟨w2.heap.size,0,none⟩ 1 1 [Value.int .i64 v1] rfl rfl (cell_one_new _ _ _) (by simp [Value.oneCell']) (by unfold maxLen;omega) (by omega) (by have:=HP2.out.2.size;simp;omega) ?_;intro v' w3 hO2 hgrow _;have HY:=Lib.hid (And.intro hO2 (And.intro ((HP2.out.1.below ((Below.refl _ w2).alloc (Nat.le_refl _) _)).grown (hO1.alloc _) ⟨hgs.1,fun _=>hg⟩ hgrow) ((HP2.out.2.alloc _).grown (hO1.alloc _) (Nat.le_refl _) hgrow)));clear hO2 hgrow hO1))
        go_roundg m2
        case measure=>omega
        case rel=>exact ⟨k+1,l++[v1],t2,by omega,by first | rfl | simp,by simp [hl],by rw [List.length_append,List.map_append];exact HY.out.1,HY.out.2.1,HY.out.2.2,HQ.out⟩
    · have hltn:¬ ((k:Int)<(k0:Int)):=by omega
      obtain rfl:m'=0:=by omega
      have HX:=Lib.hid (And.intro ho (And.intro hP hK))
      have HQ:=Lib.hid (show (l,t)=Z from HL.out)
      clear ho hP hK HL c1
      go_wp2_with fail
      go_ret
      rw [← HQ.out]
      exact ⟨_,rfl,HX.out.1,HX.out.2.1,HX.out.2.2⟩
set_option maxRecDepth 100000 in
set_option maxHeartbeats 2000000 in
theorem lines7_any (k0:Nat) (hk0:k0≤1000000) (h:RAt x y g B xs mk V w s) (hg:g<w.heap.size) :
    Calls Tryz.prog 46 #[.pointer (some ⟨x,0,none⟩),.int .i64 k0] w (RList x y g B xs mk V w (qloop (Ps.ln (fun t:Ps=>t.literal V)) k0 ([],s))):=by
  obtain ⟨i0,hi,hz0,hz1,hz2⟩:=info_parts int_info
  have hgs:=h.gsz
  have hys:=h.lt.2.1
  have H:=Lib.hid h
  have HO:=Lib.hid (World.ownsRow_nil w w.heap.size 3 1)
  obtain ⟨Z,hZ⟩:∃ Z,qloop (Ps.ln (fun t:Ps=>t.literal V)) k0 ([],s)=Z:=⟨_,rfl⟩
  rw [hZ]
  have HZ:=Lib.hid hZ
  clear h hZ
  go_enter Tryz.func46,Tryz.ntmps46
  go_wp2_with fail
  go_loopg [5,6] k0 (fun m' s5 s6 wx=>∃ (k:Nat) (l:List Int) (t:Ps),k+m'=k0∧s6=.int .i64 k∧l.length=k∧wx.ownsRow w.heap.size 3 1 s5 l.length (l.map (Value.int .i64))∧RAt x y g B xs mk V wx t∧Kept3 x y g w wx∧Aside (qloop (Ps.ln (fun t:Ps=>t.literal V)) m' (l,t)=Z))
  case atStart=>exact ⟨0,[],s,by omega,rfl,rfl,HO.out,H.out,Kept3.refl _ _ _ _,HZ.out⟩
  case round =>
    obtain ⟨k,l,t,hk,rfl,hl,ho,hP,hK,HL⟩:=hrel
    generalize gk=m' at *
    obtain ⟨-,c1,-,-,-,-,-⟩:=hP.cells
    by_cases hlt:k<k0
    · have hltI:(k:Int)<(k0:Int):=by omega
      obtain ⟨m2,rfl⟩:∃ m2,m'=m2+1:=⟨m' - 1,by omega⟩
      cases he:t.e with
      | some z =>
        rw [he] at c1
        have hkz:=hP.kind z he
        obtain ⟨q1,q2⟩:=z
        have hq1:¬ q1=0:=hkz
        unfold fK at c1
        dsimp only at c1
        clear hkz
        have HX:=Lib.hid (And.intro ho (And.intro hP hK))
        have HQ:=Lib.hid (show (l,t)=Z from by rw [← HL.out];exact (qloop_bad (by simp [he]) _).symm)
        clear ho hP hK HL he
        go_wp2_with fail
        go_ret
        rw [← HQ.out]
        exact ⟨_,rfl,HX.out.1,HX.out.2.1,HX.out.2.2⟩
      | none =>
        rw [he] at c1
        unfold fK at c1
        have hq:=qloop_go (f:=Ps.ln (fun t:Ps=>t.literal V)) (l:=l) he m2
        have HN:=Lib.hid (lit_any hP)
        obtain ⟨v1,t1,e1⟩:∃ v1 t1,t.literal V=(v1,t1):=⟨_,_,rfl⟩
        obtain ⟨t2,e2⟩:∃ t2,t1.expect [10]=t2:=⟨_,rfl⟩
        rw [e1] at HN
        have HE:=Lib.hid (fun (W:World) (h:RAt x y g B xs mk V W t1)=>e2 ▸ sb_lf ▸ rwant7_any ⟨#[10]⟩ (by decide) h)
        rw [show Ps.ln (fun t:Ps=>t.literal V) t=(v1,t2) from by (show ((t.literal V).1,(t.literal V).2.expect [10])=(v1,t2));rw [e1,← e2]] at hq
        clear e1 e2
        have HQ:=Lib.hid (show qloop (Ps.ln (fun t:Ps=>t.literal V)) m2 (l++[v1],t2)=Z from by rw [← HL.out,hq])
        have HX:=Lib.hid (And.intro ho hK)
        have hl2:l.length≤1000000:=by omega
        clear ho hP hK HL hq he
        go_wp2_with (first
          | (go_at_call 84;refine HN.out.mono ?_;rintro e w1 ⟨rfl,hP1,hK1⟩;have hO1:=own_step HX.out.1 hK1 ⟨hgs.1,hys,hg⟩;have HP1:=Lib.hid (And.intro hP1 (HX.out.2.trans hK1));clear hP1 hK1)
          | (at_builtin;refine wpList_append_own _ rfl _ _ 22 rfl w.heap.size 3 i0 (.int .i64 0) 1 8 Tryz.underlying22 hi hz0 hz1 hz2 rfl (by decide) _ _ _ rfl (hO1.alloc _) ⟨w1.heap.size,0,none⟩ 1 1 [Value.int .i64 v1] rfl rfl (cell_one_new _ _ _) (by simp [Value.oneCell']) (by unfold maxLen;omega) (by omega) (by have:=HP1.out.2.size;simp;omega) ?_;intro v' w3 hO2 hgrow _;have HY1:=Lib.hid (And.intro hO2 (And.intro ((HP1.out.1.below ((Below.refl _ w1).alloc (Nat.le_refl _) _)).grown (hO1.alloc _) ⟨hgs.1,fun _=>hg⟩ hgrow) ((HP1.out.2.alloc _).grown (hO1.alloc _) (Nat.le_refl _) hgrow)));clear hO2 hgrow hO1)
          | (go_at_call 44;refine (HE.out _ HY1.out.2.1).mono ?_;rintro e w4 ⟨rfl,hP2,hK2⟩;have HY:=Lib.hid (And.intro (own_step HY1.out.1 hK2 ⟨hgs.1,hys,hg⟩) (And.intro hP2 (HY1.out.2.2.trans hK2)));clear hP2 hK2))
        go_roundg m2
        case measure=>omega
        case rel=>exact ⟨k+1,l++[v1],t2,by omega,by first | rfl | simp,by simp [hl],by rw [List.length_append,List.map_append];exact HY.out.1,HY.out.2.1,HY.out.2.2,HQ.out⟩
    · have hltn:¬ ((k:Int)<(k0:Int)):=by omega
      obtain rfl:m'=0:=by omega
      have HX:=Lib.hid (And.intro ho (And.intro hP hK))
      have HQ:=Lib.hid (show (l,t)=Z from HL.out)
      clear ho hP hK HL c1
      go_wp2_with fail
      go_ret
      rw [← HQ.out]
      exact ⟨_,rfl,HX.out.1,HX.out.2.1,HX.out.2.2⟩
end
structure R2 (x y g B:Nat) (xs:List Int) (mk:Bool) (V:Int) (w0:World) (b:Nat) (b2:Nat) (t:TypeId) (w:World) (cs cs2:Array Value) (s:Ps):Prop where
  pat:RAt x y g B xs mk V w s
  kept:Kept3 x y g w0 w
  row:w.heap[b]?=some (.cells cs t (0,0))
  two:w.heap[b2]?=some (.cells cs2 t (0,0))
  base:w0.heap.size≤b∧w0.heap.size≤b2∧b≠b2
  old:x<w0.heap.size∧y<w0.heap.size∧g<w0.heap.size
section
variable {x y g B:Nat} {xs:List Int} {mk:Bool} {V:Int} {w0 w:World} {s:Ps} {b b2:Nat} {t:TypeId} {cs cs2:Array Value}
theorem R2.new (h:RAt x y g B xs mk V w s) (hg:g<w.heap.size):R2 x y g B xs mk V w w.heap.size (w.heap.size+1) t ((w.alloc (.cells cs t)).alloc (.cells cs2 t)) cs cs2 s:=by
  have hb:Below w.heap.size w ((w.alloc (.cells cs t)).alloc (.cells cs2 t)):=((Below.refl _ w).alloc (Nat.le_refl _) _).alloc (by simp) _
  have h1:=heap_alloc_new w (.cells cs t)
  have h2:=heap_alloc_new (w.alloc (.cells cs t)) (.cells cs2 t)
  rw [show (w.alloc (.cells cs t)).heap.size=w.heap.size+1 by simp] at h2
  exact ⟨h.below hb,Kept3.of_below hb,(Below.heap_alloc _ _ _ (by simp)).trans h1,h2,by omega,h.lt.1,h.lt.2.1,hg⟩
theorem R2.call {w':World} {s':Ps} (h:R2 x y g B xs mk V w0 b b2 t w cs cs2 s) (hP:RAt x y g B xs mk V w' s') (hK:Kept3 x y g w w'):R2 x y g B xs mk V w0 b b2 t w' cs cs2 s':=by
  have ho:=h.old
  have hb:=h.base
  exact ⟨hP,h.kept.trans hK,(hK.block _ (lt_of_row h.row) (by omega) (by omega) (by omega)).trans h.row,(hK.block _ (lt_of_row h.two) (by omega) (by omega) (by omega)).trans h.two,h.base,h.old⟩
theorem R2.hz (h:R2 x y g B xs mk V w0 b b2 t w cs cs2 s):(x<b∧(mk=true→g<b))∧(x<b2∧(mk=true→g<b2)):=by
  have ho:=h.old
  have hb:=h.base
  exact ⟨⟨by omega,fun _=>by omega⟩,by omega,fun _=>by omega⟩
theorem R2.set (h:R2 x y g B xs mk V w0 b b2 t w cs cs2 s) (j:Nat) (v:Value):R2 x y g B xs mk V w0 b b2 t (w.setCell ⟨b,j,none⟩ v) (cs.setIfInBounds j v) cs2 s:=by
  have hb:=h.base
  exact ⟨h.pat.setBox h.hz.1,h.kept.setBox hb.1,heap_setCell_same _ b j cs t v h.row,(heap_setCell_other _ _ _ _ (by show b2≠b;omega)).trans h.two,h.base,h.old⟩
theorem R2.set2 (h:R2 x y g B xs mk V w0 b b2 t w cs cs2 s) (j:Nat) (v:Value):R2 x y g B xs mk V w0 b b2 t (w.setCell ⟨b2,j,none⟩ v) cs (cs2.setIfInBounds j v) s:=by
  have hb:=h.base
  exact ⟨h.pat.setBox h.hz.2,h.kept.setBox hb.2.1,(heap_setCell_other _ _ _ _ (by show b≠b2;omega)).trans h.row,heap_setCell_same _ b2 j cs2 t v h.two,h.base,h.old⟩
theorem R2.cell {j:Nat} {v:Value} (h:R2 x y g B xs mk V w0 b b2 t w cs cs2 s) (hj:cs[j]?=some v):w.cell? ⟨b,j,none⟩=some v:=by
  rw [cell_of_row _ _ _ _ _ _ h.row];exact hj
theorem R2.free (h:R2 x y g B xs mk V w0 b b2 t w cs cs2 s) (j:Nat):w.frozen? ⟨b,j,none⟩=false:=frozen_of_row _ _ _ _ _ h.row
theorem R2.cell2 {j:Nat} {v:Value} (h:R2 x y g B xs mk V w0 b b2 t w cs cs2 s) (hj:cs2[j]?=some v):w.cell? ⟨b2,j,none⟩=some v:=by
  rw [cell_of_row _ _ _ _ _ _ h.two];exact hj
theorem R2.free2 (h:R2 x y g B xs mk V w0 b b2 t w cs cs2 s) (j:Nat):w.frozen? ⟨b2,j,none⟩=false:=frozen_of_row _ _ _ _ _ h.two
end
section
variable {x y g B:Nat} {xs:List Int} {mk:Bool} {V:Int} {w:World} {s:Ps}
theorem Ps.start_num (v:Int) (s:Ps):s.start v=if (s.num maxN).1.1=0∨(s.num maxN).1.1=1 then ((s.num maxN).1.1,(s.num maxN).2) else if (s.num maxN).1.1=2*v then (2,(s.num maxN).2) else (0,(s.num maxN).2.refuse 14 (s.num maxN).1.2):=by
  have hin:=s.num_in
  have hat:=s.num_at
  have h0:¬ maxN<(s.num maxN).1.1:=by omega
  have e:s.anyNumber=((s.num maxN).1.1,(s.num maxN).2):=by
    unfold Ps.anyNumber
    rw [Ps.within_num s (by decide),if_neg h0]
  unfold Ps.start
  rw [e,hat]
set_option maxRecDepth 100000 in
set_option maxHeartbeats 8000000 in
theorem latch7_any (v:Int) (hv0:0≤v) (hv1:v≤100000) (h:RAt x y g B xs mk V w s) (hg:g<w.heap.size) :
    Calls Tryz.prog 45 #[.pointer (some ⟨x,0,none⟩),.int .i64 v] w (RStep x y g B xs mk V w (.agg #[.int .i64 (Ps.ln (fun t=>t.latchV V v) s).1.lv,.int .i64 (Ps.ln (fun t=>t.latchV V v) s).1.ln,.int .i64 (Ps.ln (fun t=>t.latchV V v) s).1.li]) (Ps.ln (fun t=>t.latchV V v) s).2):=by
  have HB:=Lib.hid (R2.new (cs:=#[.int .i64 0,.int .i64 0,.int .i64 0]) (cs2:=#[.int .i64 v,.int .i64 0,.int .i64 0]) (t:=48) h hg)
  have hl:Ps.ln (fun t=>t.latchV V v) s=(⟨v,(s.literal V).1,(((s.literal V).2.expect [32]).start v).1⟩,(((s.literal V).2.expect [32]).start v).2.expect [10]):=rfl
  rw [hl]
  have HL:=Lib.hid (lit_any HB.out.pat)
  clear h hl
  generalize s.literal V=A at *
  obtain ⟨a1,s2⟩:=A
  have HE:=Lib.hid (fun (W:World) (h:RAt x y g B xs mk V W s2)=>sb_space ▸ rwant7_any ⟨#[32]⟩ (by decide) h)
  dsimp only at HL ⊢
  generalize s2.expect [32]=s3 at *
  rw [Ps.start_num]
  have HN:=Lib.hid (fun (W:World) (h:RAt x y g B xs mk V W s3)=>num7_any maxN (by decide) (by decide) h)
  have hat:=s3.num_at
  generalize s3.num maxN=X at *
  obtain ⟨⟨n,a⟩,t⟩:=X
  rw [show maxN=(1099511627776:Int) from rfl] at HN
  have HX:=Lib.hid (fun (W:World) (t:Ps) (h:RAt x y g B xs mk V W t)=>sb_lf ▸ rwant7_any ⟨#[10]⟩ (by decide) h)
  dsimp only at HN hat ⊢
  clear hat
  have hvv:2*v≤200000:=by omega
  by_cases h01:n=0∨n=1
  · rw [if_pos h01]
    rcases h01 with rfl | rfl
    · go_enter Tryz.func45,Tryz.ntmps45
      go_wp2_with (first
        | (go_at_call 84;refine HL.out.mono ?_;rintro e w1 ⟨rfl,hP,hK⟩;have hB:=HB.out.call hP hK;have c1:=hB.cell2 (j:=1) rfl;have f1:=hB.free2 1;have HB1:=Lib.hid (hB.set2 1 (.int .i64 a1));clear hP hK hB)
        | (go_at_call 44;refine (HE.out _ HB1.out.pat).mono ?_;rintro e w2 ⟨rfl,hP,hK⟩;have HB2:=Lib.hid (HB1.out.call hP hK);clear hP hK HB1)
        | (go_at_call 82;refine (HN.out _ HB2.out.pat).mono ?_;rintro e w3 ⟨rfl,hP,hK⟩;have hB:=HB2.out.call hP hK;have c2:=hB.cell2 (j:=2) rfl;have f2:=hB.free2 2;have HB3:=Lib.hid (hB.set2 2 (.int .i64 0));clear hP hK hB HB2)
        | (go_at_call 44;refine (HX.out _ _ HB3.out.pat).mono ?_;rintro e w5 ⟨rfl,hP,hK⟩;have HB5:=Lib.hid (HB3.out.call hP hK);have u0:=HB5.out.cell2 (j:=0) rfl;have u1:=HB5.out.cell2 (j:=1) rfl;have u2:=HB5.out.cell2 (j:=2) (v:=.int .i64 0) rfl;have k0:=HB5.out.cell (j:=0) rfl;have k1:=HB5.out.cell (j:=1) rfl;have k2:=HB5.out.cell (j:=2) rfl;have j0:=HB5.out.free 0;have j1:=HB5.out.free 1;have j2:=HB5.out.free 2;clear hP hK HB3))
      try simp only [Exit.inBlock,Exit.then]
      have HC:=((HB5.out.set 0 (.int .i64 v)).set 1 (.int .i64 a1)).set 2 (.int .i64 0)
      refine bodyPost_ret (results_cell_row rfl _ _ w.heap.size 48 _ (0,0) _ rfl HC.row Tryz.underlying48 rfl (by kernel_rfl)) rfl ?_
      exact ⟨rfl,HC.pat,HC.kept⟩
    · go_enter Tryz.func45,Tryz.ntmps45
      go_wp2_with (first
        | (go_at_call 84;refine HL.out.mono ?_;rintro e w1 ⟨rfl,hP,hK⟩;have hB:=HB.out.call hP hK;have c1:=hB.cell2 (j:=1) rfl;have f1:=hB.free2 1;have HB1:=Lib.hid (hB.set2 1 (.int .i64 a1));clear hP hK hB)
        | (go_at_call 44;refine (HE.out _ HB1.out.pat).mono ?_;rintro e w2 ⟨rfl,hP,hK⟩;have HB2:=Lib.hid (HB1.out.call hP hK);clear hP hK HB1)
        | (go_at_call 82;refine (HN.out _ HB2.out.pat).mono ?_;rintro e w3 ⟨rfl,hP,hK⟩;have hB:=HB2.out.call hP hK;have c2:=hB.cell2 (j:=2) rfl;have f2:=hB.free2 2;have HB3:=Lib.hid (hB.set2 2 (.int .i64 1));clear hP hK hB HB2)
        | (go_at_call 44;refine (HX.out _ _ HB3.out.pat).mono ?_;rintro e w5 ⟨rfl,hP,hK⟩;have HB5:=Lib.hid (HB3.out.call hP hK);have u0:=HB5.out.cell2 (j:=0) rfl;have u1:=HB5.out.cell2 (j:=1) rfl;have u2:=HB5.out.cell2 (j:=2) (v:=.int .i64 1) rfl;have k0:=HB5.out.cell (j:=0) rfl;have k1:=HB5.out.cell (j:=1) rfl;have k2:=HB5.out.cell (j:=2) rfl;have j0:=HB5.out.free 0;have j1:=HB5.out.free 1;have j2:=HB5.out.free 2;clear hP hK HB3))
      try simp only [Exit.inBlock,Exit.then]
      have HC:=((HB5.out.set 0 (.int .i64 v)).set 1 (.int .i64 a1)).set 2 (.int .i64 1)
      refine bodyPost_ret (results_cell_row rfl _ _ w.heap.size 48 _ (0,0) _ rfl HC.row Tryz.underlying48 rfl (by kernel_rfl)) rfl ?_
      exact ⟨rfl,HC.pat,HC.kept⟩
  · rw [if_neg h01]
    have h0:¬ n=0:=fun e=>h01 (.inl e)
    have h1:¬ n=1:=fun e=>h01 (.inr e)
    by_cases h2:n=2*v
    · rw [if_pos h2]
      subst h2
      go_enter Tryz.func45,Tryz.ntmps45
      go_wp2_with (first
        | (go_at_call 84;refine HL.out.mono ?_;rintro e w1 ⟨rfl,hP,hK⟩;have hB:=HB.out.call hP hK;have c1:=hB.cell2 (j:=1) rfl;have f1:=hB.free2 1;have HB1:=Lib.hid (hB.set2 1 (.int .i64 a1));clear hP hK hB)
        | (go_at_call 44;refine (HE.out _ HB1.out.pat).mono ?_;rintro e w2 ⟨rfl,hP,hK⟩;have HB2:=Lib.hid (HB1.out.call hP hK);clear hP hK HB1)
        | (go_at_call 82;refine (HN.out _ HB2.out.pat).mono ?_;rintro e w3 ⟨rfl,hP,hK⟩;have hB:=HB2.out.call hP hK;have c2:=hB.cell2 (j:=2) rfl;have f2:=hB.free2 2;have HB3:=Lib.hid (hB.set2 2 (.int .i64 2));clear hP hK hB HB2)
        | (go_at_call 44;refine (HX.out _ _ HB3.out.pat).mono ?_;rintro e w5 ⟨rfl,hP,hK⟩;have HB5:=Lib.hid (HB3.out.call hP hK);have u0:=HB5.out.cell2 (j:=0) rfl;have u1:=HB5.out.cell2 (j:=1) rfl;have u2:=HB5.out.cell2 (j:=2) (v:=.int .i64 2) rfl;have k0:=HB5.out.cell (j:=0) rfl;have k1:=HB5.out.cell (j:=1) rfl;have k2:=HB5.out.cell (j:=2) rfl;have j0:=HB5.out.free 0;have j1:=HB5.out.free 1;have j2:=HB5.out.free 2;clear hP hK HB3))
      try simp only [Exit.inBlock,Exit.then]
      have HC:=((HB5.out.set 0 (.int .i64 v)).set 1 (.int .i64 a1)).set 2 (.int .i64 2)
      refine bodyPost_ret (results_cell_row rfl _ _ w.heap.size 48 _ (0,0) _ rfl HC.row Tryz.underlying48 rfl (by kernel_rfl)) rfl ?_
      exact ⟨rfl,HC.pat,HC.kept⟩
    · rw [if_neg h2]
      go_enter Tryz.func45,Tryz.ntmps45
      go_wp2_with (first
        | (go_at_call 84;refine HL.out.mono ?_;rintro e w1 ⟨rfl,hP,hK⟩;have hB:=HB.out.call hP hK;have c1:=hB.cell2 (j:=1) rfl;have f1:=hB.free2 1;have HB1:=Lib.hid (hB.set2 1 (.int .i64 a1));clear hP hK hB)
        | (go_at_call 44;refine (HE.out _ HB1.out.pat).mono ?_;rintro e w2 ⟨rfl,hP,hK⟩;have HB2:=Lib.hid (HB1.out.call hP hK);clear hP hK HB1)
        | (go_at_call 82;refine (HN.out _ HB2.out.pat).mono ?_;rintro e w3 ⟨rfl,hP,hK⟩;have hB:=HB2.out.call hP hK;have c2:=hB.cell2 (j:=2) rfl;have f2:=hB.free2 2;have HB3:=Lib.hid hB;clear hP hK hB HB2)
        | (go_at_call 65;refine (fail_any 14 a (by decide) HB3.out.pat).mono ?_;rintro e w4 ⟨rfl,hP,hK⟩;have HB4:=Lib.hid (HB3.out.call hP hK);clear hP hK HB3)
        | (go_at_call 44;refine (HX.out _ _ HB4.out.pat).mono ?_;rintro e w5 ⟨rfl,hP,hK⟩;have HB5:=Lib.hid (HB4.out.call hP hK);have u0:=HB5.out.cell2 (j:=0) rfl;have u1:=HB5.out.cell2 (j:=1) rfl;have u2:=HB5.out.cell2 (j:=2) (v:=.int .i64 0) rfl;have k0:=HB5.out.cell (j:=0) rfl;have k1:=HB5.out.cell (j:=1) rfl;have k2:=HB5.out.cell (j:=2) rfl;have j0:=HB5.out.free 0;have j1:=HB5.out.free 1;have j2:=HB5.out.free 2;clear hP hK HB4))
      try simp only [Exit.inBlock,Exit.then]
      have HC:=((HB5.out.set 0 (.int .i64 v)).set 1 (.int .i64 a1)).set 2 (.int .i64 0)
      refine bodyPost_ret (results_cell_row rfl _ _ w.heap.size 48 _ (0,0) _ rfl HC.row Tryz.underlying48 rfl (by kernel_rfl)) rfl ?_
      exact ⟨rfl,HC.pat,HC.kept⟩
end
end Go.Proofs.YtldnepogjnahfaaGreatDoor
