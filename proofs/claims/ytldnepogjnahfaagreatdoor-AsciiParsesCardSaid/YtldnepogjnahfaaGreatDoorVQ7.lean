/- The document's own reader of texts by contracts: Counts (conditions: the reader lies in memory; at most 400000 bytes). -/
import Derived.Test.YtldnepogjnahfaaGreatDoorVQ6
set_option linter.unusedVariables false
namespace Go.Proofs.YtldnepogjnahfaaGreatDoor
open Go.ChangeShapes Go.WideShapes Go.RowKit
def lim (k:Nat):Int:=[2000,2000,2000,1099511627776,2000,1099511627776,1099511627776,4].getD k 0
def limA:Array Value:=#[.int .i64 2000,.int .i64 2000,.int .i64 2000,.int .i64 1099511627776,.int .i64 2000,.int .i64 1099511627776,.int .i64 1099511627776,.int .i64 4]
def cv (f:Nat→Int):Array Value:=#[.int .i64 (f 0),.int .i64 (f 1),.int .i64 (f 2),.int .i64 (f 3),.int .i64 (f 4),.int .i64 (f 5),.int .i64 (f 6),.int .i64 (f 7)]
def upd (f:Nat→Int) (k:Nat) (v:Int):Nat→Int:=fun j=>if j=k then v else f j
theorem cv_set (f:Nat→Int) (k:Nat) (v:Int) (hk:k<8):(cv f).setIfInBounds k (.int .i64 v)=cv (upd f k v):=by
  rcases (by omega:k=0∨k=1∨k=2∨k=3∨k=4∨k=5∨k=6∨k=7) with rfl | rfl | rfl | rfl | rfl | rfl | rfl | rfl <;> rfl
theorem cv_get (f:Nat→Int) (k:Nat) (hk:k<8):(cv f)[k]?=some (.int .i64 (f k)):=by
  rcases (by omega:k=0∨k=1∨k=2∨k=3∨k=4∨k=5∨k=6∨k=7) with rfl | rfl | rfl | rfl | rfl | rfl | rfl | rfl <;> rfl
theorem lim_get (k:Nat) (hk:k<8):limA[k]?=some (.int .i64 (lim k)):=by
  rcases (by omega:k=0∨k=1∨k=2∨k=3∨k=4∨k=5∨k=6∨k=7) with rfl | rfl | rfl | rfl | rfl | rfl | rfl | rfl <;> rfl
theorem lim_in (k:Nat):0≤lim k∧lim k≤1099511627776:=by
  rcases (by omega:k=0∨k=1∨k=2∨k=3∨k=4∨k=5∨k=6∨k=7∨8≤k) with rfl | rfl | rfl | rfl | rfl | rfl | rfl | rfl | h
  all_goals first | decide | (unfold lim;rw [List.getD_eq_getElem?_getD,List.getElem?_eq_none (by simpa using h)];decide)
def Ps.countT (k:Nat) (s:Ps):Ps:=if k=0 then s else s.expect [32]
def Ps.countQ (k:Nat) (f:Nat→Int) (s:Ps):(Nat→Int) × Ps :=
  let u:=(s.countT k).within 0 (lim k) 10
  let f':=upd f k u.1
  (f',if (k=6∧u.2.e=none∧1000<f' 3+f' 5+f' 6)∨(k=7∧f' 7=0) then u.2.refuse 10 (s.countT k).i else u.2)
def countsQ:Nat→Nat→(Nat→Int) × Ps→(Nat→Int) × Ps
  | 0,_,a=>a
  | m+1,k,a=>if a.2.e.isSome then a else countsQ m (k+1) (a.2.countQ k a.1)
def Ps.counts7 (mems:Bool) (s:Ps):(Nat→Int) × Ps :=
  let a:=countsQ (if mems then 8 else 7) 0 (fun _=>0,s)
  (a.1,a.2.expect [10])
theorem countsQ_bad {a:(Nat→Int) × Ps} (h:a.2.e.isSome=true) (m k:Nat):countsQ m k a=a:=by
  cases m with
  | zero=>rfl
  | succ m=>show (if a.2.e.isSome then a else _)=a;rw [if_pos h]
theorem countsQ_go {f:Nat→Int} {s:Ps} (h:s.e=none) (m k:Nat):countsQ (m+1) k (f,s)=countsQ m (k+1) (s.countQ k f):=by
  show (if s.e.isSome then _ else _)=_
  rw [h];rfl
section
variable {x y g B:Nat} {xs:List Int} {mk:Bool} {V:Int} {w0 w:World} {s:Ps} {b b2:Nat} {cs cs2:Array Value}
theorem RAt.other {q j:Nat} {v:Value} (h:RAt x y g B xs mk V w s) (hq:q≠x∧q≠y∧(mk=true→q≠g)∧B≤q):RAt x y g B xs mk V (w.setCell ⟨q,j,none⟩ v) s:=by
  obtain ⟨h1,h2,h3,h4,h5,h6,h7,h8⟩:=h
  have ho:∀ k,k≠q→(w.setCell ⟨q,j,none⟩ v).heap[k]?=w.heap[k]?:=fun k hk=>heap_setCell_other _ _ _ _ (by simpa using hk)
  refine ⟨(ho x (Ne.symm hq.1)).trans h1,?_,h3,fun e=>(h4 e).same (ho g (Ne.symm (hq.2.2.1 e))),h5,h6,h7,h8⟩
  obtain ⟨a',c,k1,k2,k3,k4⟩:=h2
  exact ⟨a',c,(ho y (Ne.symm hq.2.1)).trans k1,k2,k3,k4.keep (r:=q) (fun q' _ hq'=>ho q' hq') (by simp) hq.2.2.2⟩
theorem RAt.made (h:RAt x y g B xs false 0 w s) (hs:s.seen=[]) {v:Int} (hv:0≤v∧v≤2000):∃ W,W=((w.setCell ⟨x,3,none⟩ (.int .i64 v)).alloc (.cells (madeCells #[.bool false] (v.toNat+1)) 4)).setCell ⟨x,4,none⟩ (.slice (some ⟨w.heap.size,0,none⟩) (v.toNat+1) (v.toNat+1))∧RAt x y w.heap.size B xs true v W s∧(∀ k,k<w.heap.size→k≠x→W.heap[k]?=w.heap[k]?)∧W.heap.size=w.heap.size+1∧Kept3 x y g w W:=by
  have hl:=h.lt
  obtain ⟨h1,h2,h3,h4,h5,h6,h7,h8⟩:=h
  have hM:=Marked.new (w.setCell ⟨x,3,none⟩ (.int .i64 v)) (v.toNat+1)
  rw [World.size_setCell] at hM
  have ho:∀ k,k<w.heap.size→k≠x→(((w.setCell ⟨x,3,none⟩ (.int .i64 v)).alloc (.cells (madeCells #[.bool false] (v.toNat+1)) 4)).setCell ⟨x,4,none⟩ (.slice (some ⟨w.heap.size,0,none⟩) (v.toNat+1) (v.toNat+1))).heap[k]?=w.heap[k]?:=fun k hk hx=>(heap_setCell_other _ _ _ _ (by simpa using hx)).trans ((Below.heap_alloc _ _ _ (by simpa using hk)).trans (heap_setCell_other _ _ _ _ (by simpa using hx)))
  refine ⟨_,rfl,⟨?_,?_,h3,fun _=>?_,h5,h6,⟨h7.1,h7.2.1,fun _=>hl.1⟩,hv⟩,ho,by simp,⟨rfl,rfl,rfl,by simp,fun k hk hx _ _=>ho k hk hx⟩⟩
  · have k1:=heap_setCell_same w x 3 _ _ (.int .i64 v) h1
    have k2:=(Below.heap_alloc _ (.cells (madeCells #[.bool false] (v.toNat+1)) 4) _ (by simpa using hl.1)).trans k1
    exact heap_setCell_same _ x 4 _ _ _ k2
  · obtain ⟨a',c,k1,k2,k3,k4⟩:=h2
    refine ⟨a',c,(ho y hl.2.1 (by omega)).trans k1,k2,k3,fun hn=>?_⟩
    obtain ⟨b,o,e1,e2,e3,e4⟩:=k4 hn
    exact ⟨b,o,e1,e2,by simp;omega,fun j hj=>(World.cell?_of_block (a:=⟨b,o+j,none⟩) (ho b e3 (by omega))).trans (e4 j hj)⟩
  · rw [hs]
    exact hM.same (heap_setCell_other _ _ _ _ (by show w.heap.size≠x;omega))
theorem made_at {t:TypeId} (h:R2 x y x B xs false 0 w0 b b2 t w cs cs2 s) (hs:s.seen=[]) {v:Int} (hv:0≤v∧v≤2000):∃ W,W=((w.setCell ⟨x,3,none⟩ (.int .i64 v)).alloc (.cells (madeCells #[.bool false] (v.toNat+1)) 4)).setCell ⟨x,4,none⟩ (.slice (some ⟨w.heap.size,0,none⟩) (v.toNat+1) (v.toNat+1))∧RAt x y w.heap.size B xs true v W s∧W.heap[b]?=some (.cells cs t (0,0))∧W.heap[b2]?=some (.cells cs2 t (0,0))∧Kept3 x y x w0 W:=by
  obtain ⟨W,hW,hA,hO,hsz,hK⟩:=h.pat.made hs hv
  have hz:=h.hz
  have hold:=h.old
  have hbs:=h.base
  exact ⟨W,hW,hA,(hO b (lt_of_row h.row) (by omega)).trans h.row,(hO b2 (lt_of_row h.two) (by omega)).trans h.two,h.kept.trans hK⟩
theorem RAt.before (h:RAt x y g B xs false 0 w s) (v:Int):((w.setCell ⟨x,3,none⟩ (.int .i64 v)).alloc (.cells (madeCells #[.bool false] (v.toNat+1)) 4)).cell? ⟨x,4,none⟩=some (.slice none 0 0)∧((w.setCell ⟨x,3,none⟩ (.int .i64 v)).alloc (.cells (madeCells #[.bool false] (v.toNat+1)) 4)).frozen? ⟨x,4,none⟩=false:=by
  have k1:=heap_setCell_same w x 3 _ _ (.int .i64 v) h.row
  have k2:=(Below.heap_alloc (w.setCell ⟨x,3,none⟩ (.int .i64 v)) (.cells (madeCells #[.bool false] (v.toNat+1)) 4) _ (by simpa using h.lt.1)).trans k1
  exact ⟨by rw [cell_of_row _ _ _ _ _ _ k2];rfl,frozen_of_row _ _ _ _ _ k2⟩
theorem fin8 {W:World} {t:TypeId} {f0:Nat→Int} (h:RAt x y g B xs true V W s) (hr:W.heap[b]?=some (.cells (cv f0) t (0,0))) (hk:Kept3 x y x w0 W) (hb:w0.heap.size≤b∧b≠x∧b≠y∧b≠g∧B≤b) (f:Nat→Int) :
    ∃ W',W'=((((((((W.setCell ⟨b,0,none⟩ (.int .i64 (f 0))).setCell ⟨b,1,none⟩ (.int .i64 (f 1))).setCell ⟨b,2,none⟩ (.int .i64 (f 2))).setCell ⟨b,3,none⟩ (.int .i64 (f 3))).setCell ⟨b,4,none⟩ (.int .i64 (f 4))).setCell ⟨b,5,none⟩ (.int .i64 (f 5))).setCell ⟨b,6,none⟩ (.int .i64 (f 6))).setCell ⟨b,7,none⟩ (.int .i64 (f 7)))∧RAt x y g B xs true V W' s∧W'.heap[b]?=some (.cells (cv f) t (0,0))∧Kept3 x y x w0 W':=by
  have hq:b≠x∧b≠y∧(true=true→b≠g)∧B≤b:=⟨hb.2.1,hb.2.2.1,fun _=>hb.2.2.2.1,hb.2.2.2.2⟩
  have h1:=h.other (j:=0) (v:=.int .i64 (f 0)) hq
  have k1:=heap_setCell_same _ b 0 _ _ (.int .i64 (f 0)) hr
  have q1:=hk.setBox (j:=0) (v:=.int .i64 (f 0)) hb.1
  have h2:=h1.other (j:=1) (v:=.int .i64 (f 1)) hq
  have k2:=heap_setCell_same _ b 1 _ _ (.int .i64 (f 1)) k1
  have q2:=q1.setBox (j:=1) (v:=.int .i64 (f 1)) hb.1
  have h3:=h2.other (j:=2) (v:=.int .i64 (f 2)) hq
  have k3:=heap_setCell_same _ b 2 _ _ (.int .i64 (f 2)) k2
  have q3:=q2.setBox (j:=2) (v:=.int .i64 (f 2)) hb.1
  have h4:=h3.other (j:=3) (v:=.int .i64 (f 3)) hq
  have k4:=heap_setCell_same _ b 3 _ _ (.int .i64 (f 3)) k3
  have q4:=q3.setBox (j:=3) (v:=.int .i64 (f 3)) hb.1
  have h5:=h4.other (j:=4) (v:=.int .i64 (f 4)) hq
  have k5:=heap_setCell_same _ b 4 _ _ (.int .i64 (f 4)) k4
  have q5:=q4.setBox (j:=4) (v:=.int .i64 (f 4)) hb.1
  have h6:=h5.other (j:=5) (v:=.int .i64 (f 5)) hq
  have k6:=heap_setCell_same _ b 5 _ _ (.int .i64 (f 5)) k5
  have q6:=q5.setBox (j:=5) (v:=.int .i64 (f 5)) hb.1
  have h7:=h6.other (j:=6) (v:=.int .i64 (f 6)) hq
  have k7:=heap_setCell_same _ b 6 _ _ (.int .i64 (f 6)) k6
  have q7:=q6.setBox (j:=6) (v:=.int .i64 (f 6)) hb.1
  have h8:=h7.other (j:=7) (v:=.int .i64 (f 7)) hq
  have k8:=heap_setCell_same _ b 7 _ _ (.int .i64 (f 7)) k7
  have q8:=q7.setBox (j:=7) (v:=.int .i64 (f 7)) hb.1
  simp only [cv_set _ _ _ (by decide:0<8),cv_set _ _ _ (by decide:1<8),cv_set _ _ _ (by decide:2<8),cv_set _ _ _ (by decide:3<8),cv_set _ _ _ (by decide:4<8),cv_set _ _ _ (by decide:5<8),cv_set _ _ _ (by decide:6<8),cv_set _ _ _ (by decide:7<8)] at k8
  have e:cv (upd (upd (upd (upd (upd (upd (upd (upd f0 0 (f 0)) 1 (f 1)) 2 (f 2)) 3 (f 3)) 4 (f 4)) 5 (f 5)) 6 (f 6)) 7 (f 7))=cv f:=by simp [cv,upd]
  rw [e] at k8
  exact ⟨_,rfl,h8,k8,q8⟩
theorem upd_in {f:Nat→Int} {k:Nat} {v:Int} (h:∀ j,0≤f j∧f j≤lim j) (hv:0≤v∧v≤lim k):∀ j,0≤upd f k v j∧upd f k v j≤lim j:=by
  intro j
  unfold upd
  split
  · rename_i e;subst e;exact hv
  · exact h j
theorem Ps.countQ_in {f:Nat→Int} {k:Nat} {s:Ps} (h:∀ j,0≤f j∧f j≤lim j):∀ j,0≤(s.countQ k f).1 j∧(s.countQ k f).1 j≤lim j:=by
  refine upd_in h ?_
  rcases Ps.within_in (s.countT k) 0 (lim k) 10 with h | h
  · rw [h];exact ⟨by decide,(lim_in k).1⟩
  · exact h
theorem Ps.countT_seen (k:Nat) (s:Ps):(s.countT k).seen=s.seen:=by
  unfold Ps.countT
  split
  · rfl
  · exact Ps.expect_seen _ _
end
section
variable {x y B:Nat} {xs:List Int} {w:World} {s:Ps}
set_option maxRecDepth 100000 in
set_option maxHeartbeats 8000000 in
theorem counts7_any (mems:Bool) (h:RAt x y x B xs false 0 w s) (hs:s.seen=[]) :
    Calls Tryz.prog 42 #[.pointer (some ⟨x,0,none⟩),.bool mems] w fun e w'=>∃ g,e=.returned (.agg (cv (s.counts7 mems).1))∧w.heap.size≤g∧RAt x y g B xs true ((s.counts7 mems).1 0) w' (s.counts7 mems).2∧Kept3 x y x w w':=by
  have hxs:=h.gsz.1
  have hys:=h.lt.2.1
  have hord:=h.ord
  have hB0:=R2.new (cs:=cv fun _=>0) (cs2:=cv fun _=>0) (t:=71) h hxs
  have HB:=Lib.hid (hB0.alloc (.cells limA 3))
  have hL:=heap_alloc_new ((w.alloc (.cells (cv fun _=>0) 71)).alloc (.cells (cv fun _=>0) 71)) (.cells limA 3)
  simp only [World.size_alloc] at hL
  have HL:=Lib.hid hL
  obtain ⟨Z,hZ⟩:∃ Z,countsQ (if mems then 8 else 7) 0 (fun _=>0,s)=Z:=⟨_,rfl⟩
  have hc:s.counts7 mems=(Z.1,Z.2.expect [10]):=by unfold Ps.counts7;rw [hZ]
  rw [hc]
  have HZ:=Lib.hid hZ
  obtain ⟨nm,hnm⟩:∃ nm,(if mems then 8 else 7)=nm:=⟨_,rfl⟩
  rw [hnm] at HZ
  have hn8:nm≤8:=by rw [← hnm];split <;> decide
  clear h hZ hc hB0 hL
  go_enter Tryz.func42,Tryz.ntmps42
  go_wp2_with fail
  go_loopg [7] nm (fun m' s7 wx=>∃ (k:Nat) (c:Int) (f:Nat→Int) (t:Ps),k+m'=nm∧s7=.int .i64 c∧c=(k:Int)∧(∀ j,0≤f j∧f j≤lim j)∧t.seen=[]∧R2 x y x B xs false 0 w w.heap.size (w.heap.size+1) 71 wx (cv fun _=>0) (cv f) t∧wx.heap[w.heap.size+1+1]?=some (.cells limA 3 (0,0))∧Aside (countsQ m' k (f,t)=Z))
  case atStart=>exact ⟨0,0,fun _=>0,s,by omega,rfl,rfl,fun j=>⟨Int.le_refl 0,(lim_in j).1⟩,hs,HB.out,HL.out,HZ.out⟩
  case round =>
    clear HB HL hs
    obtain ⟨k,c,f,t,hk,rfl,hck,hf,hts,hP,hL,HQ⟩:=hrel
    generalize gk=m' at *
    have hn7:7≤nm:=by rw [← hnm];split <;> decide
    have h0v:f 0≤2000:=(hf 0).2
    have h0u:0≤f 0:=(hf 0).1
    cases he:t.e with
    | some z =>
      have HQ2:=Lib.hid (show (f,t)=Z from by rw [← HQ.out];exact (countsQ_bad (by simp [he]) _ _).symm)
      obtain ⟨c0,c1,-,-,-,-,-⟩:=hP.pat.cells
      rw [he] at c1
      have hkz:=hP.pat.kind z he
      obtain ⟨q1,q2⟩:=z
      have hq1:¬ q1=0:=hkz
      unfold fK at c1
      dsimp only at c1
      by_cases h8:c<8
      · clear hkz he HQ c0
        go_wp2_with (go_at_call 44;refine (sb_lf ▸ rwant7_any ⟨#[10]⟩ (by decide) hP.pat).mono ?_;rintro e w5 ⟨rfl,hP5,hK5⟩;have hB5:=hP.call hP5 hK5;obtain ⟨-,-,-,x3,x4,-,xf⟩:=hP5.cells;have y3:=xf 3;have y4:=xf 4;have u0:=hB5.cell2 (cv_get f 0 (by decide));have hmk:=run_marks (f 0) (hf 0).1 (by have:=h0v;omega);obtain ⟨x5,y5⟩:=hP5.before (f 0);obtain ⟨W,hW,hA,hr1,hr2,hKK⟩:=made_at hB5 (by rw [Ps.expect_seen];exact hts) ⟨h0u,h0v⟩;have v0:W.cell? ⟨w.heap.size+1,0,none⟩=some (.int .i64 (f 0)):=(cell_of_row _ _ _ _ _ _ hr2).trans (cv_get f 0 (by decide));have k0:W.cell? ⟨w.heap.size,0,none⟩=some (.int .i64 0):=cell_of_row _ _ _ _ _ _ hr1;have l0:W.frozen? ⟨w.heap.size,0,none⟩=false:=frozen_of_row _ _ _ _ _ hr1;have v1:W.cell? ⟨w.heap.size+1,1,none⟩=some (.int .i64 (f 1)):=(cell_of_row _ _ _ _ _ _ hr2).trans (cv_get f 1 (by decide));have k1:W.cell? ⟨w.heap.size,1,none⟩=some (.int .i64 0):=cell_of_row _ _ _ _ _ _ hr1;have l1:W.frozen? ⟨w.heap.size,1,none⟩=false:=frozen_of_row _ _ _ _ _ hr1;have v2:W.cell? ⟨w.heap.size+1,2,none⟩=some (.int .i64 (f 2)):=(cell_of_row _ _ _ _ _ _ hr2).trans (cv_get f 2 (by decide));have k2:W.cell? ⟨w.heap.size,2,none⟩=some (.int .i64 0):=cell_of_row _ _ _ _ _ _ hr1;have l2:W.frozen? ⟨w.heap.size,2,none⟩=false:=frozen_of_row _ _ _ _ _ hr1;have v3:W.cell? ⟨w.heap.size+1,3,none⟩=some (.int .i64 (f 3)):=(cell_of_row _ _ _ _ _ _ hr2).trans (cv_get f 3 (by decide));have k3:W.cell? ⟨w.heap.size,3,none⟩=some (.int .i64 0):=cell_of_row _ _ _ _ _ _ hr1;have l3:W.frozen? ⟨w.heap.size,3,none⟩=false:=frozen_of_row _ _ _ _ _ hr1;have v4:W.cell? ⟨w.heap.size+1,4,none⟩=some (.int .i64 (f 4)):=(cell_of_row _ _ _ _ _ _ hr2).trans (cv_get f 4 (by decide));have k4:W.cell? ⟨w.heap.size,4,none⟩=some (.int .i64 0):=cell_of_row _ _ _ _ _ _ hr1;have l4:W.frozen? ⟨w.heap.size,4,none⟩=false:=frozen_of_row _ _ _ _ _ hr1;have v5:W.cell? ⟨w.heap.size+1,5,none⟩=some (.int .i64 (f 5)):=(cell_of_row _ _ _ _ _ _ hr2).trans (cv_get f 5 (by decide));have k5:W.cell? ⟨w.heap.size,5,none⟩=some (.int .i64 0):=cell_of_row _ _ _ _ _ _ hr1;have l5:W.frozen? ⟨w.heap.size,5,none⟩=false:=frozen_of_row _ _ _ _ _ hr1;have v6:W.cell? ⟨w.heap.size+1,6,none⟩=some (.int .i64 (f 6)):=(cell_of_row _ _ _ _ _ _ hr2).trans (cv_get f 6 (by decide));have k6:W.cell? ⟨w.heap.size,6,none⟩=some (.int .i64 0):=cell_of_row _ _ _ _ _ _ hr1;have l6:W.frozen? ⟨w.heap.size,6,none⟩=false:=frozen_of_row _ _ _ _ _ hr1;have v7:W.cell? ⟨w.heap.size+1,7,none⟩=some (.int .i64 (f 7)):=(cell_of_row _ _ _ _ _ _ hr2).trans (cv_get f 7 (by decide));have k7:W.cell? ⟨w.heap.size,7,none⟩=some (.int .i64 0):=cell_of_row _ _ _ _ _ _ hr1;have l7:W.frozen? ⟨w.heap.size,7,none⟩=false:=frozen_of_row _ _ _ _ _ hr1;have hb5:w.heap.size<w5.heap.size:=lt_of_row hB5.row;have HB5:=Lib.hid (And.intro hA (And.intro hr1 hKK));subst hW;clear xf x4 y4 hr1 hr2 hA hKK hB5 hP5 hK5)
        try simp only [Exit.inBlock,Exit.then]
        obtain ⟨W8,hW8,hA8,hr8,hK8⟩:=fin8 HB5.out.1 HB5.out.2.1 HB5.out.2.2 (by omega) f
        subst hW8
        refine bodyPost_ret (results_cell_row rfl _ _ w.heap.size 71 _ (0,0) _ rfl hr8 Tryz.underlying71 rfl (by kernel_rfl)) rfl ?_
        rw [← HQ2.out]
        exact ⟨_,rfl,Nat.le_of_lt hb5,hA8,hK8⟩
      · clear hkz he HQ c0 c1
        go_wp2_with (go_at_call 44;refine (sb_lf ▸ rwant7_any ⟨#[10]⟩ (by decide) hP.pat).mono ?_;rintro e w5 ⟨rfl,hP5,hK5⟩;have hB5:=hP.call hP5 hK5;obtain ⟨-,-,-,x3,x4,-,xf⟩:=hP5.cells;have y3:=xf 3;have y4:=xf 4;have u0:=hB5.cell2 (cv_get f 0 (by decide));have hmk:=run_marks (f 0) (hf 0).1 (by have:=h0v;omega);obtain ⟨x5,y5⟩:=hP5.before (f 0);obtain ⟨W,hW,hA,hr1,hr2,hKK⟩:=made_at hB5 (by rw [Ps.expect_seen];exact hts) ⟨h0u,h0v⟩;have v0:W.cell? ⟨w.heap.size+1,0,none⟩=some (.int .i64 (f 0)):=(cell_of_row _ _ _ _ _ _ hr2).trans (cv_get f 0 (by decide));have k0:W.cell? ⟨w.heap.size,0,none⟩=some (.int .i64 0):=cell_of_row _ _ _ _ _ _ hr1;have l0:W.frozen? ⟨w.heap.size,0,none⟩=false:=frozen_of_row _ _ _ _ _ hr1;have v1:W.cell? ⟨w.heap.size+1,1,none⟩=some (.int .i64 (f 1)):=(cell_of_row _ _ _ _ _ _ hr2).trans (cv_get f 1 (by decide));have k1:W.cell? ⟨w.heap.size,1,none⟩=some (.int .i64 0):=cell_of_row _ _ _ _ _ _ hr1;have l1:W.frozen? ⟨w.heap.size,1,none⟩=false:=frozen_of_row _ _ _ _ _ hr1;have v2:W.cell? ⟨w.heap.size+1,2,none⟩=some (.int .i64 (f 2)):=(cell_of_row _ _ _ _ _ _ hr2).trans (cv_get f 2 (by decide));have k2:W.cell? ⟨w.heap.size,2,none⟩=some (.int .i64 0):=cell_of_row _ _ _ _ _ _ hr1;have l2:W.frozen? ⟨w.heap.size,2,none⟩=false:=frozen_of_row _ _ _ _ _ hr1;have v3:W.cell? ⟨w.heap.size+1,3,none⟩=some (.int .i64 (f 3)):=(cell_of_row _ _ _ _ _ _ hr2).trans (cv_get f 3 (by decide));have k3:W.cell? ⟨w.heap.size,3,none⟩=some (.int .i64 0):=cell_of_row _ _ _ _ _ _ hr1;have l3:W.frozen? ⟨w.heap.size,3,none⟩=false:=frozen_of_row _ _ _ _ _ hr1;have v4:W.cell? ⟨w.heap.size+1,4,none⟩=some (.int .i64 (f 4)):=(cell_of_row _ _ _ _ _ _ hr2).trans (cv_get f 4 (by decide));have k4:W.cell? ⟨w.heap.size,4,none⟩=some (.int .i64 0):=cell_of_row _ _ _ _ _ _ hr1;have l4:W.frozen? ⟨w.heap.size,4,none⟩=false:=frozen_of_row _ _ _ _ _ hr1;have v5:W.cell? ⟨w.heap.size+1,5,none⟩=some (.int .i64 (f 5)):=(cell_of_row _ _ _ _ _ _ hr2).trans (cv_get f 5 (by decide));have k5:W.cell? ⟨w.heap.size,5,none⟩=some (.int .i64 0):=cell_of_row _ _ _ _ _ _ hr1;have l5:W.frozen? ⟨w.heap.size,5,none⟩=false:=frozen_of_row _ _ _ _ _ hr1;have v6:W.cell? ⟨w.heap.size+1,6,none⟩=some (.int .i64 (f 6)):=(cell_of_row _ _ _ _ _ _ hr2).trans (cv_get f 6 (by decide));have k6:W.cell? ⟨w.heap.size,6,none⟩=some (.int .i64 0):=cell_of_row _ _ _ _ _ _ hr1;have l6:W.frozen? ⟨w.heap.size,6,none⟩=false:=frozen_of_row _ _ _ _ _ hr1;have v7:W.cell? ⟨w.heap.size+1,7,none⟩=some (.int .i64 (f 7)):=(cell_of_row _ _ _ _ _ _ hr2).trans (cv_get f 7 (by decide));have k7:W.cell? ⟨w.heap.size,7,none⟩=some (.int .i64 0):=cell_of_row _ _ _ _ _ _ hr1;have l7:W.frozen? ⟨w.heap.size,7,none⟩=false:=frozen_of_row _ _ _ _ _ hr1;have hb5:w.heap.size<w5.heap.size:=lt_of_row hB5.row;have HB5:=Lib.hid (And.intro hA (And.intro hr1 hKK));subst hW;clear xf x4 y4 hr1 hr2 hA hKK hB5 hP5 hK5)
        try simp only [Exit.inBlock,Exit.then]
        obtain ⟨W8,hW8,hA8,hr8,hK8⟩:=fin8 HB5.out.1 HB5.out.2.1 HB5.out.2.2 (by omega) f
        subst hW8
        refine bodyPost_ret (results_cell_row rfl _ _ w.heap.size 71 _ (0,0) _ rfl hr8 Tryz.underlying71 rfl (by kernel_rfl)) rfl ?_
        rw [← HQ2.out]
        exact ⟨_,rfl,Nat.le_of_lt hb5,hA8,hK8⟩
    | none =>
      obtain ⟨c0,c1,-,-,-,c5,-⟩:=hP.pat.cells
      rw [he] at c1
      unfold fK at c1
      by_cases hk8:k=8
      · have h8:¬ c<8:=by omega
        have hm0:m'=0:=by omega
        have HQ2:=Lib.hid (show (f,t)=Z from by have:=HQ.out;rw [hm0] at this;exact this)
        clear he HQ c0 c1 c5
        go_wp2_with (go_at_call 44;refine (sb_lf ▸ rwant7_any ⟨#[10]⟩ (by decide) hP.pat).mono ?_;rintro e w5 ⟨rfl,hP5,hK5⟩;have hB5:=hP.call hP5 hK5;obtain ⟨-,-,-,x3,x4,-,xf⟩:=hP5.cells;have y3:=xf 3;have y4:=xf 4;have u0:=hB5.cell2 (cv_get f 0 (by decide));have hmk:=run_marks (f 0) (hf 0).1 (by have:=h0v;omega);obtain ⟨x5,y5⟩:=hP5.before (f 0);obtain ⟨W,hW,hA,hr1,hr2,hKK⟩:=made_at hB5 (by rw [Ps.expect_seen];exact hts) ⟨h0u,h0v⟩;have v0:W.cell? ⟨w.heap.size+1,0,none⟩=some (.int .i64 (f 0)):=(cell_of_row _ _ _ _ _ _ hr2).trans (cv_get f 0 (by decide));have k0:W.cell? ⟨w.heap.size,0,none⟩=some (.int .i64 0):=cell_of_row _ _ _ _ _ _ hr1;have l0:W.frozen? ⟨w.heap.size,0,none⟩=false:=frozen_of_row _ _ _ _ _ hr1;have v1:W.cell? ⟨w.heap.size+1,1,none⟩=some (.int .i64 (f 1)):=(cell_of_row _ _ _ _ _ _ hr2).trans (cv_get f 1 (by decide));have k1:W.cell? ⟨w.heap.size,1,none⟩=some (.int .i64 0):=cell_of_row _ _ _ _ _ _ hr1;have l1:W.frozen? ⟨w.heap.size,1,none⟩=false:=frozen_of_row _ _ _ _ _ hr1;have v2:W.cell? ⟨w.heap.size+1,2,none⟩=some (.int .i64 (f 2)):=(cell_of_row _ _ _ _ _ _ hr2).trans (cv_get f 2 (by decide));have k2:W.cell? ⟨w.heap.size,2,none⟩=some (.int .i64 0):=cell_of_row _ _ _ _ _ _ hr1;have l2:W.frozen? ⟨w.heap.size,2,none⟩=false:=frozen_of_row _ _ _ _ _ hr1;have v3:W.cell? ⟨w.heap.size+1,3,none⟩=some (.int .i64 (f 3)):=(cell_of_row _ _ _ _ _ _ hr2).trans (cv_get f 3 (by decide));have k3:W.cell? ⟨w.heap.size,3,none⟩=some (.int .i64 0):=cell_of_row _ _ _ _ _ _ hr1;have l3:W.frozen? ⟨w.heap.size,3,none⟩=false:=frozen_of_row _ _ _ _ _ hr1;have v4:W.cell? ⟨w.heap.size+1,4,none⟩=some (.int .i64 (f 4)):=(cell_of_row _ _ _ _ _ _ hr2).trans (cv_get f 4 (by decide));have k4:W.cell? ⟨w.heap.size,4,none⟩=some (.int .i64 0):=cell_of_row _ _ _ _ _ _ hr1;have l4:W.frozen? ⟨w.heap.size,4,none⟩=false:=frozen_of_row _ _ _ _ _ hr1;have v5:W.cell? ⟨w.heap.size+1,5,none⟩=some (.int .i64 (f 5)):=(cell_of_row _ _ _ _ _ _ hr2).trans (cv_get f 5 (by decide));have k5:W.cell? ⟨w.heap.size,5,none⟩=some (.int .i64 0):=cell_of_row _ _ _ _ _ _ hr1;have l5:W.frozen? ⟨w.heap.size,5,none⟩=false:=frozen_of_row _ _ _ _ _ hr1;have v6:W.cell? ⟨w.heap.size+1,6,none⟩=some (.int .i64 (f 6)):=(cell_of_row _ _ _ _ _ _ hr2).trans (cv_get f 6 (by decide));have k6:W.cell? ⟨w.heap.size,6,none⟩=some (.int .i64 0):=cell_of_row _ _ _ _ _ _ hr1;have l6:W.frozen? ⟨w.heap.size,6,none⟩=false:=frozen_of_row _ _ _ _ _ hr1;have v7:W.cell? ⟨w.heap.size+1,7,none⟩=some (.int .i64 (f 7)):=(cell_of_row _ _ _ _ _ _ hr2).trans (cv_get f 7 (by decide));have k7:W.cell? ⟨w.heap.size,7,none⟩=some (.int .i64 0):=cell_of_row _ _ _ _ _ _ hr1;have l7:W.frozen? ⟨w.heap.size,7,none⟩=false:=frozen_of_row _ _ _ _ _ hr1;have hb5:w.heap.size<w5.heap.size:=lt_of_row hB5.row;have HB5:=Lib.hid (And.intro hA (And.intro hr1 hKK));subst hW;clear xf x4 y4 hr1 hr2 hA hKK hB5 hP5 hK5)
        try simp only [Exit.inBlock,Exit.then]
        obtain ⟨W8,hW8,hA8,hr8,hK8⟩:=fin8 HB5.out.1 HB5.out.2.1 HB5.out.2.2 (by omega) f
        subst hW8
        refine bodyPost_ret (results_cell_row rfl _ _ w.heap.size 71 _ (0,0) _ rfl hr8 Tryz.underlying71 rfl (by kernel_rfl)) rfl ?_
        rw [← HQ2.out]
        exact ⟨_,rfl,Nat.le_of_lt hb5,hA8,hK8⟩
      · have hkl:k<8:=by omega
        by_cases hk7:k=7∧mems=false
        · obtain ⟨hk7,rfl⟩:=hk7
          obtain rfl:c=7:=by omega
          have hnm7:nm=7:=by rw [← hnm];rfl
          have hm0:m'=0:=by omega
          have HQ2:=Lib.hid (show (f,t)=Z from by have:=HQ.out;rw [hm0] at this;exact this)
          clear he HQ c0 c5 hck
          go_wp2_with (go_at_call 44;refine (sb_lf ▸ rwant7_any ⟨#[10]⟩ (by decide) hP.pat).mono ?_;rintro e w5 ⟨rfl,hP5,hK5⟩;have hB5:=hP.call hP5 hK5;obtain ⟨-,-,-,x3,x4,-,xf⟩:=hP5.cells;have y3:=xf 3;have y4:=xf 4;have u0:=hB5.cell2 (cv_get f 0 (by decide));have hmk:=run_marks (f 0) (hf 0).1 (by have:=h0v;omega);obtain ⟨x5,y5⟩:=hP5.before (f 0);obtain ⟨W,hW,hA,hr1,hr2,hKK⟩:=made_at hB5 (by rw [Ps.expect_seen];exact hts) ⟨h0u,h0v⟩;have v0:W.cell? ⟨w.heap.size+1,0,none⟩=some (.int .i64 (f 0)):=(cell_of_row _ _ _ _ _ _ hr2).trans (cv_get f 0 (by decide));have k0:W.cell? ⟨w.heap.size,0,none⟩=some (.int .i64 0):=cell_of_row _ _ _ _ _ _ hr1;have l0:W.frozen? ⟨w.heap.size,0,none⟩=false:=frozen_of_row _ _ _ _ _ hr1;have v1:W.cell? ⟨w.heap.size+1,1,none⟩=some (.int .i64 (f 1)):=(cell_of_row _ _ _ _ _ _ hr2).trans (cv_get f 1 (by decide));have k1:W.cell? ⟨w.heap.size,1,none⟩=some (.int .i64 0):=cell_of_row _ _ _ _ _ _ hr1;have l1:W.frozen? ⟨w.heap.size,1,none⟩=false:=frozen_of_row _ _ _ _ _ hr1;have v2:W.cell? ⟨w.heap.size+1,2,none⟩=some (.int .i64 (f 2)):=(cell_of_row _ _ _ _ _ _ hr2).trans (cv_get f 2 (by decide));have k2:W.cell? ⟨w.heap.size,2,none⟩=some (.int .i64 0):=cell_of_row _ _ _ _ _ _ hr1;have l2:W.frozen? ⟨w.heap.size,2,none⟩=false:=frozen_of_row _ _ _ _ _ hr1;have v3:W.cell? ⟨w.heap.size+1,3,none⟩=some (.int .i64 (f 3)):=(cell_of_row _ _ _ _ _ _ hr2).trans (cv_get f 3 (by decide));have k3:W.cell? ⟨w.heap.size,3,none⟩=some (.int .i64 0):=cell_of_row _ _ _ _ _ _ hr1;have l3:W.frozen? ⟨w.heap.size,3,none⟩=false:=frozen_of_row _ _ _ _ _ hr1;have v4:W.cell? ⟨w.heap.size+1,4,none⟩=some (.int .i64 (f 4)):=(cell_of_row _ _ _ _ _ _ hr2).trans (cv_get f 4 (by decide));have k4:W.cell? ⟨w.heap.size,4,none⟩=some (.int .i64 0):=cell_of_row _ _ _ _ _ _ hr1;have l4:W.frozen? ⟨w.heap.size,4,none⟩=false:=frozen_of_row _ _ _ _ _ hr1;have v5:W.cell? ⟨w.heap.size+1,5,none⟩=some (.int .i64 (f 5)):=(cell_of_row _ _ _ _ _ _ hr2).trans (cv_get f 5 (by decide));have k5:W.cell? ⟨w.heap.size,5,none⟩=some (.int .i64 0):=cell_of_row _ _ _ _ _ _ hr1;have l5:W.frozen? ⟨w.heap.size,5,none⟩=false:=frozen_of_row _ _ _ _ _ hr1;have v6:W.cell? ⟨w.heap.size+1,6,none⟩=some (.int .i64 (f 6)):=(cell_of_row _ _ _ _ _ _ hr2).trans (cv_get f 6 (by decide));have k6:W.cell? ⟨w.heap.size,6,none⟩=some (.int .i64 0):=cell_of_row _ _ _ _ _ _ hr1;have l6:W.frozen? ⟨w.heap.size,6,none⟩=false:=frozen_of_row _ _ _ _ _ hr1;have v7:W.cell? ⟨w.heap.size+1,7,none⟩=some (.int .i64 (f 7)):=(cell_of_row _ _ _ _ _ _ hr2).trans (cv_get f 7 (by decide));have k7:W.cell? ⟨w.heap.size,7,none⟩=some (.int .i64 0):=cell_of_row _ _ _ _ _ _ hr1;have l7:W.frozen? ⟨w.heap.size,7,none⟩=false:=frozen_of_row _ _ _ _ _ hr1;have hb5:w.heap.size<w5.heap.size:=lt_of_row hB5.row;have HB5:=Lib.hid (And.intro hA (And.intro hr1 hKK));subst hW;clear xf x4 y4 hr1 hr2 hA hKK hB5 hP5 hK5)
          try simp only [Exit.inBlock,Exit.then]
          obtain ⟨W8,hW8,hA8,hr8,hK8⟩:=fin8 HB5.out.1 HB5.out.2.1 HB5.out.2.2 (by omega) f
          subst hW8
          refine bodyPost_ret (results_cell_row rfl _ _ w.heap.size 71 _ (0,0) _ rfl hr8 Tryz.underlying71 rfl (by kernel_rfl)) rfl ?_
          rw [← HQ2.out]
          exact ⟨_,rfl,Nat.le_of_lt hb5,hA8,hK8⟩
        · have hmk:k+1≤nm:=by
            rw [← hnm]
            cases mems with
            | true=>simp;omega
            | false=>simp at hk7 ⊢;omega
          obtain ⟨m2,rfl⟩:∃ m2,m'=m2+1:=⟨m' - 1,by omega⟩
          have HQ3:=Lib.hid (show countsQ m2 (k+1) (t.countQ k f)=Z from by rw [← HQ.out,countsQ_go he])
          obtain ⟨L,hLk⟩:∃ L,lim k=L:=⟨_,rfl⟩
          obtain ⟨t1,e1⟩:∃ X,t.countT k=X:=⟨_,rfl⟩
          obtain ⟨⟨v,t2⟩,e2⟩:∃ X,t1.within 0 L 10=X:=⟨_,rfl⟩
          have hl0:0≤L:=by rw [← hLk];exact (lim_in k).1
          have hlim:limA[k]?=some (.int .i64 L):=by rw [← hLk];exact lim_get k hkl
          have HU:=Lib.hid (fun (W:World) (h:RAt x y x B xs false 0 W t1)=>e2 ▸ upto_any L hl0 h)
          have hcq:t.countQ k f=(upd f k v,if (k=6∧t2.e=none∧1000<upd f k v 3+upd f k v 5+upd f k v 6)∨(k=7∧upd f k v 7=0) then t2.refuse 10 t1.i else t2):=by unfold Ps.countQ;rw [e1,hLk];dsimp only;rw [e2]
          have hf2:∀ j,0≤upd f k v j∧upd f k v j≤lim j:=by have:=Ps.countQ_in (s:=t) (k:=k) hf;rw [hcq] at this;exact this
          have hs2:t2.seen=[]:=by have h1:=Ps.within_seen t1 0 L 10;rw [e2] at h1;rw [show t2.seen=t1.seen from h1,← e1,Ps.countT_seen];exact hts
          have HF:=Lib.hid (And.intro hf2 hs2)
          clear e2 HQ hts hf2 hs2 hf h0u h0v
          by_cases hk0:k=0
          · have ht1:t1=t:=by rw [← e1];unfold Ps.countT;rw [if_pos hk0]
            subst ht1
            have HQ4:=Lib.hid (show countsQ m2 (k+1) (upd f k v,t2)=Z from by rw [← HQ3.out,hcq,if_neg (by omega)])
            obtain rfl:c=0:=by omega
            have hi:k=0:=hk0
            have hlc:wr.cell? ⟨w.heap.size+1+1,0,none⟩=some (.int .i64 L):=(cell_of_row _ _ _ _ _ _ hL).trans (by subst hi;exact hlim)
            have HC1:=Lib.hid (And.intro hP hL)
            clear hP hL hcq he e1 HQ3 hck
            go_wp2_with (go_at_call 81;refine (HU.out _ HC1.out.1.pat).mono ?_;rintro e w2 ⟨rfl,hP2,hK2⟩;have hR2:=HC1.out.1.call hP2 hK2;have hL2:=(hK2.block _ (lt_of_row HC1.out.2) (by omega) (by omega) (by omega)).trans HC1.out.2;have q2:w2.cell? ⟨w.heap.size+1,0,none⟩=some (.int .i64 (f 0)):=hR2.cell2 (cv_get f 0 (by omega));have r2:=hR2.free2 0;have hset:(cv f).setIfInBounds 0 (.int .i64 v)=cv (upd f k v):=(congrArg (fun j=>(cv f).setIfInBounds j (.int .i64 v)) hi.symm).trans (cv_set f k v hkl);have hR3:=hset ▸ hR2.set2 0 (.int .i64 v);have HC2:=Lib.hid (And.intro hR3 (show (w2.setCell ⟨w.heap.size+1,0,none⟩ (.int .i64 v)).heap[w.heap.size+1+1]?=some (.cells limA 3 (0,0)) from (heap_setCell_other _ _ _ _ (by simp)).trans hL2));clear hP2 hK2 hR2 hR3 hL2 HU HC1 hset)
            go_roundg m2
            case measure=>omega
            case rel=>exact ⟨k+1,0+1,upd f k v,t2,by omega,by first | rfl | simp,by omega,HF.out.1,HF.out.2,HC2.out.1,HC2.out.2,HQ4.out⟩
          · have hc0:¬ c=0:=by omega
            have HW:=Lib.hid ((show t.expect [32]=t1 from by rw [← e1];unfold Ps.countT;rw [if_neg hk0]) ▸ sb_space ▸ rwant7_any ⟨#[32]⟩ (by decide) hP.pat)
            by_cases hk6:k=6
            · obtain rfl:c=6:=by omega
              have hi:k=6:=hk6
              have g3:0≤f 3∧f 3≤1099511627776:=by have:=HF.out.1 3;subst hi;exact ⟨this.1,Int.le_trans this.2 (lim_in 3).2⟩
              have g5:0≤f 5∧f 5≤1099511627776:=by have:=HF.out.1 5;subst hi;exact ⟨this.1,Int.le_trans this.2 (lim_in 5).2⟩
              have g6:0≤v∧v≤1099511627776:=by have:=HF.out.1 6;subst hi;exact ⟨this.1,Int.le_trans this.2 (lim_in 6).2⟩
              obtain ⟨g31,g32⟩:=g3
              obtain ⟨g51,g52⟩:=g5
              obtain ⟨g61,g62⟩:=g6
              have hcq6:t.countQ k f=(upd f k v,if t2.e=none∧1000<f 3+f 5+v then t2.refuse 10 t1.i else t2):=by
                rw [hcq]
                subst hi
                simp [upd]
              cases he2:t2.e with
              | some z2 =>
                have HQ4:=Lib.hid (show countsQ m2 (k+1) (upd f k v,t2)=Z from by rw [← HQ3.out,hcq6,if_neg (by rw [he2];simp)])
                have HZ2:=Lib.hid (fun (W:World) (h:RAt x y x B xs false 0 W t2)=>h.kind z2 he2)
                clear hcq hcq6 he HQ3 hck
                go_wp2_with (first
                  | (go_at_call 44;refine HW.out.mono ?_;rintro e w1 ⟨rfl,hP1,hK1⟩;have hR1:=hP.call hP1 hK1;obtain ⟨p0,-,-,-,-,p5,-⟩:=hP1.cells;have hL1:=(hK1.block _ (lt_of_row hL) (by omega) (by omega) (by omega)).trans hL;have hlc:w1.cell? ⟨w.heap.size+1+1,6,none⟩=some (.int .i64 L):=(cell_of_row _ _ _ _ _ _ hL1).trans (by have h0:=hlim;rw [hi] at h0;exact h0);have HC1:=Lib.hid (And.intro hR1 hL1);clear hP1 hK1 hR1 hL1 HW hP hL)
                  | (go_at_call 81;refine (HU.out _ HC1.out.1.pat).mono ?_;rintro e w2 ⟨rfl,hP2,hK2⟩;have hR2:=HC1.out.1.call hP2 hK2;have hL2:=(hK2.block _ (lt_of_row HC1.out.2) (by omega) (by omega) (by omega)).trans HC1.out.2;have q2:w2.cell? ⟨w.heap.size+1,6,none⟩=some (.int .i64 (f 6)):=hR2.cell2 (cv_get f 6 (by omega));have r2:=hR2.free2 6;have hset:(cv f).setIfInBounds 6 (.int .i64 v)=cv (upd f k v):=(congrArg (fun j=>(cv f).setIfInBounds j (.int .i64 v)) hi.symm).trans (cv_set f k v hkl);have hR3:=hset ▸ hR2.set2 6 (.int .i64 v);have HC2:=Lib.hid (And.intro hR3 (show (w2.setCell ⟨w.heap.size+1,6,none⟩ (.int .i64 v)).heap[w.heap.size+1+1]?=some (.cells limA 3 (0,0)) from (heap_setCell_other _ _ _ _ (by simp)).trans hL2));clear hP2 hK2 hR2 hR3 hL2 HU HC1 hset;have n1:=HC2.out.1.pat.cells.2.1;rw [he2] at n1;have hz1:¬ z2.1=0:=HZ2.out _ HC2.out.1.pat;unfold fK at n1;dsimp only at n1))
                go_roundg m2
                case measure=>omega
                case rel=>exact ⟨k+1,6+1,upd f k v,t2,by omega,by first | rfl | simp,by omega,HF.out.1,HF.out.2,HC2.out.1,HC2.out.2,HQ4.out⟩
              | none =>
                by_cases hsum:1000<f 3+f 5+v
                · have HQ4:=Lib.hid (show countsQ m2 (k+1) (upd f k v,t2.refuse 10 t1.i)=Z from by rw [← HQ3.out,hcq6,if_pos ⟨he2,hsum⟩])
                  have hs3:(t2.refuse 10 t1.i).seen=[]:=by rw [Ps.refuse_seen];exact HF.out.2
                  clear hcq hcq6 he HQ3 hck
                  go_wp2_with (first
                    | (go_at_call 44;refine HW.out.mono ?_;rintro e w1 ⟨rfl,hP1,hK1⟩;have hR1:=hP.call hP1 hK1;obtain ⟨p0,-,-,-,-,p5,-⟩:=hP1.cells;have hL1:=(hK1.block _ (lt_of_row hL) (by omega) (by omega) (by omega)).trans hL;have hlc:w1.cell? ⟨w.heap.size+1+1,6,none⟩=some (.int .i64 L):=(cell_of_row _ _ _ _ _ _ hL1).trans (by have h0:=hlim;rw [hi] at h0;exact h0);have HC1:=Lib.hid (And.intro hR1 hL1);clear hP1 hK1 hR1 hL1 HW hP hL)
                    | (go_at_call 81;refine (HU.out _ HC1.out.1.pat).mono ?_;rintro e w2 ⟨rfl,hP2,hK2⟩;have hR2:=HC1.out.1.call hP2 hK2;have hL2:=(hK2.block _ (lt_of_row HC1.out.2) (by omega) (by omega) (by omega)).trans HC1.out.2;have q2:w2.cell? ⟨w.heap.size+1,6,none⟩=some (.int .i64 (f 6)):=hR2.cell2 (cv_get f 6 (by omega));have r2:=hR2.free2 6;have hset:(cv f).setIfInBounds 6 (.int .i64 v)=cv (upd f k v):=(congrArg (fun j=>(cv f).setIfInBounds j (.int .i64 v)) hi.symm).trans (cv_set f k v hkl);have hR3:=hset ▸ hR2.set2 6 (.int .i64 v);have HC2:=Lib.hid (And.intro hR3 (show (w2.setCell ⟨w.heap.size+1,6,none⟩ (.int .i64 v)).heap[w.heap.size+1+1]?=some (.cells limA 3 (0,0)) from (heap_setCell_other _ _ _ _ (by simp)).trans hL2));clear hP2 hK2 hR2 hR3 hL2 HU HC1 hset;have n1:=HC2.out.1.pat.cells.2.1;rw [he2] at n1;unfold fK at n1;have n3:(w2.setCell ⟨w.heap.size+1,6,none⟩ (.int .i64 v)).cell? ⟨w.heap.size+1,3,none⟩=some (.int .i64 (f 3)):=(HC2.out.1.cell2 (cv_get _ 3 (by decide))).trans (by rw [hi];rfl);have n5:(w2.setCell ⟨w.heap.size+1,6,none⟩ (.int .i64 v)).cell? ⟨w.heap.size+1,5,none⟩=some (.int .i64 (f 5)):=(HC2.out.1.cell2 (cv_get _ 5 (by decide))).trans (by rw [hi];rfl);have n6:(w2.setCell ⟨w.heap.size+1,6,none⟩ (.int .i64 v)).cell? ⟨w.heap.size+1,6,none⟩=some (.int .i64 v):=(HC2.out.1.cell2 (cv_get _ 6 (by decide))).trans (by rw [hi];rfl))
                    | (go_at_call 65;refine (fail_any 10 t1.i (by decide) HC2.out.1.pat).mono ?_;rintro e w3 ⟨rfl,hP3,hK3⟩;have HC3:=Lib.hid (And.intro (HC2.out.1.call hP3 hK3) ((hK3.block _ (lt_of_row HC2.out.2) (by omega) (by omega) (by omega)).trans HC2.out.2));clear hP3 hK3 HC2))
                  go_roundg m2
                  case measure=>omega
                  case rel=>exact ⟨k+1,6+1,upd f k v,t2.refuse 10 t1.i,by omega,by first | rfl | simp,by omega,HF.out.1,hs3,HC3.out.1,HC3.out.2,HQ4.out⟩
                · have HQ4:=Lib.hid (show countsQ m2 (k+1) (upd f k v,t2)=Z from by rw [← HQ3.out,hcq6,if_neg (fun hh=>hsum hh.2)])
                  clear hcq hcq6 he HQ3 hck
                  go_wp2_with (first
                    | (go_at_call 44;refine HW.out.mono ?_;rintro e w1 ⟨rfl,hP1,hK1⟩;have hR1:=hP.call hP1 hK1;obtain ⟨p0,-,-,-,-,p5,-⟩:=hP1.cells;have hL1:=(hK1.block _ (lt_of_row hL) (by omega) (by omega) (by omega)).trans hL;have hlc:w1.cell? ⟨w.heap.size+1+1,6,none⟩=some (.int .i64 L):=(cell_of_row _ _ _ _ _ _ hL1).trans (by have h0:=hlim;rw [hi] at h0;exact h0);have HC1:=Lib.hid (And.intro hR1 hL1);clear hP1 hK1 hR1 hL1 HW hP hL)
                    | (go_at_call 81;refine (HU.out _ HC1.out.1.pat).mono ?_;rintro e w2 ⟨rfl,hP2,hK2⟩;have hR2:=HC1.out.1.call hP2 hK2;have hL2:=(hK2.block _ (lt_of_row HC1.out.2) (by omega) (by omega) (by omega)).trans HC1.out.2;have q2:w2.cell? ⟨w.heap.size+1,6,none⟩=some (.int .i64 (f 6)):=hR2.cell2 (cv_get f 6 (by omega));have r2:=hR2.free2 6;have hset:(cv f).setIfInBounds 6 (.int .i64 v)=cv (upd f k v):=(congrArg (fun j=>(cv f).setIfInBounds j (.int .i64 v)) hi.symm).trans (cv_set f k v hkl);have hR3:=hset ▸ hR2.set2 6 (.int .i64 v);have HC2:=Lib.hid (And.intro hR3 (show (w2.setCell ⟨w.heap.size+1,6,none⟩ (.int .i64 v)).heap[w.heap.size+1+1]?=some (.cells limA 3 (0,0)) from (heap_setCell_other _ _ _ _ (by simp)).trans hL2));clear hP2 hK2 hR2 hR3 hL2 HU HC1 hset;have n1:=HC2.out.1.pat.cells.2.1;rw [he2] at n1;unfold fK at n1;have n3:(w2.setCell ⟨w.heap.size+1,6,none⟩ (.int .i64 v)).cell? ⟨w.heap.size+1,3,none⟩=some (.int .i64 (f 3)):=(HC2.out.1.cell2 (cv_get _ 3 (by decide))).trans (by rw [hi];rfl);have n5:(w2.setCell ⟨w.heap.size+1,6,none⟩ (.int .i64 v)).cell? ⟨w.heap.size+1,5,none⟩=some (.int .i64 (f 5)):=(HC2.out.1.cell2 (cv_get _ 5 (by decide))).trans (by rw [hi];rfl);have n6:(w2.setCell ⟨w.heap.size+1,6,none⟩ (.int .i64 v)).cell? ⟨w.heap.size+1,6,none⟩=some (.int .i64 v):=(HC2.out.1.cell2 (cv_get _ 6 (by decide))).trans (by rw [hi];rfl)))
                  go_roundg m2
                  case measure=>omega
                  case rel=>exact ⟨k+1,6+1,upd f k v,t2,by omega,by first | rfl | simp,by omega,HF.out.1,HF.out.2,HC2.out.1,HC2.out.2,HQ4.out⟩
            · by_cases hk7':k=7
              · obtain rfl:c=7:=by omega
                obtain rfl:mems=true:=by cases mems with
                  | true=>rfl
                  | false=>exact absurd ⟨hk7',rfl⟩ hk7
                have hi:k=7:=hk7'
                have hcq7:t.countQ k f=(upd f k v,if v=0 then t2.refuse 10 t1.i else t2):=by
                  rw [hcq]
                  subst hi
                  simp [upd]
                by_cases hv7:v=0
                · subst hv7
                  have HQ4:=Lib.hid (show countsQ m2 (k+1) (upd f k 0,t2.refuse 10 t1.i)=Z from by rw [← HQ3.out,hcq7,if_pos rfl])
                  have hs3:(t2.refuse 10 t1.i).seen=[]:=by rw [Ps.refuse_seen];exact HF.out.2
                  clear hcq hcq7 he HQ3 hck
                  go_wp2_with (first
                    | (go_at_call 44;refine HW.out.mono ?_;rintro e w1 ⟨rfl,hP1,hK1⟩;have hR1:=hP.call hP1 hK1;obtain ⟨p0,-,-,-,-,p5,-⟩:=hP1.cells;have hL1:=(hK1.block _ (lt_of_row hL) (by omega) (by omega) (by omega)).trans hL;have hlc:w1.cell? ⟨w.heap.size+1+1,7,none⟩=some (.int .i64 L):=(cell_of_row _ _ _ _ _ _ hL1).trans (by have h0:=hlim;rw [hi] at h0;exact h0);have HC1:=Lib.hid (And.intro hR1 hL1);clear hP1 hK1 hR1 hL1 HW hP hL)
                    | (go_at_call 81;refine (HU.out _ HC1.out.1.pat).mono ?_;rintro e w2 ⟨rfl,hP2,hK2⟩;have hR2:=HC1.out.1.call hP2 hK2;have hL2:=(hK2.block _ (lt_of_row HC1.out.2) (by omega) (by omega) (by omega)).trans HC1.out.2;have q2:w2.cell? ⟨w.heap.size+1,7,none⟩=some (.int .i64 (f 7)):=hR2.cell2 (cv_get f 7 (by omega));have r2:=hR2.free2 7;have hset:(cv f).setIfInBounds 7 (.int .i64 0)=cv (upd f k 0):=(congrArg (fun j=>(cv f).setIfInBounds j (.int .i64 0)) hi.symm).trans (cv_set f k 0 hkl);have hR3:=hset ▸ hR2.set2 7 (.int .i64 0);have HC2:=Lib.hid (And.intro hR3 (show (w2.setCell ⟨w.heap.size+1,7,none⟩ (.int .i64 0)).heap[w.heap.size+1+1]?=some (.cells limA 3 (0,0)) from (heap_setCell_other _ _ _ _ (by simp)).trans hL2));clear hP2 hK2 hR2 hR3 hL2 HU HC1 hset;have n7:(w2.setCell ⟨w.heap.size+1,7,none⟩ (.int .i64 0)).cell? ⟨w.heap.size+1,7,none⟩=some (.int .i64 0):=(HC2.out.1.cell2 (cv_get _ 7 (by decide))).trans (by rw [hi];rfl))
                    | (go_at_call 65;refine (fail_any 10 t1.i (by decide) HC2.out.1.pat).mono ?_;rintro e w3 ⟨rfl,hP3,hK3⟩;have HC3:=Lib.hid (And.intro (HC2.out.1.call hP3 hK3) ((hK3.block _ (lt_of_row HC2.out.2) (by omega) (by omega) (by omega)).trans HC2.out.2));clear hP3 hK3 HC2))
                  go_roundg m2
                  case measure=>omega
                  case rel=>exact ⟨k+1,7+1,upd f k 0,t2.refuse 10 t1.i,by omega,by first | rfl | simp,by omega,HF.out.1,hs3,HC3.out.1,HC3.out.2,HQ4.out⟩
                · have HQ4:=Lib.hid (show countsQ m2 (k+1) (upd f k v,t2)=Z from by rw [← HQ3.out,hcq7,if_neg hv7])
                  clear hcq hcq7 he HQ3 hck
                  go_wp2_with (first
                    | (go_at_call 44;refine HW.out.mono ?_;rintro e w1 ⟨rfl,hP1,hK1⟩;have hR1:=hP.call hP1 hK1;obtain ⟨p0,-,-,-,-,p5,-⟩:=hP1.cells;have hL1:=(hK1.block _ (lt_of_row hL) (by omega) (by omega) (by omega)).trans hL;have hlc:w1.cell? ⟨w.heap.size+1+1,7,none⟩=some (.int .i64 L):=(cell_of_row _ _ _ _ _ _ hL1).trans (by have h0:=hlim;rw [hi] at h0;exact h0);have HC1:=Lib.hid (And.intro hR1 hL1);clear hP1 hK1 hR1 hL1 HW hP hL)
                    | (go_at_call 81;refine (HU.out _ HC1.out.1.pat).mono ?_;rintro e w2 ⟨rfl,hP2,hK2⟩;have hR2:=HC1.out.1.call hP2 hK2;have hL2:=(hK2.block _ (lt_of_row HC1.out.2) (by omega) (by omega) (by omega)).trans HC1.out.2;have q2:w2.cell? ⟨w.heap.size+1,7,none⟩=some (.int .i64 (f 7)):=hR2.cell2 (cv_get f 7 (by omega));have r2:=hR2.free2 7;have hset:(cv f).setIfInBounds 7 (.int .i64 v)=cv (upd f k v):=(congrArg (fun j=>(cv f).setIfInBounds j (.int .i64 v)) hi.symm).trans (cv_set f k v hkl);have hR3:=hset ▸ hR2.set2 7 (.int .i64 v);have HC2:=Lib.hid (And.intro hR3 (show (w2.setCell ⟨w.heap.size+1,7,none⟩ (.int .i64 v)).heap[w.heap.size+1+1]?=some (.cells limA 3 (0,0)) from (heap_setCell_other _ _ _ _ (by simp)).trans hL2));clear hP2 hK2 hR2 hR3 hL2 HU HC1 hset;have n7:(w2.setCell ⟨w.heap.size+1,7,none⟩ (.int .i64 v)).cell? ⟨w.heap.size+1,7,none⟩=some (.int .i64 v):=(HC2.out.1.cell2 (cv_get _ 7 (by decide))).trans (by rw [hi];rfl)))
                  go_roundg m2
                  case measure=>omega
                  case rel=>exact ⟨k+1,7+1,upd f k v,t2,by omega,by first | rfl | simp,by omega,HF.out.1,HF.out.2,HC2.out.1,HC2.out.2,HQ4.out⟩
              · have HQ4:=Lib.hid (show countsQ m2 (k+1) (upd f k v,t2)=Z from by rw [← HQ3.out,hcq,if_neg (by omega)])
                have hc7:¬ c=7:=by omega
                have hc6:¬ c=6:=by omega
                have hcp:0<c:=by omega
                have hc00:0≤c:=by omega
                have hc8:c<8:=by omega
                have hi:k=c.toNat:=by omega
                clear hcq he HQ3 hck
                go_wp2_with (first
                  | (go_at_call 44;refine HW.out.mono ?_;rintro e w1 ⟨rfl,hP1,hK1⟩;have hR1:=hP.call hP1 hK1;obtain ⟨p0,-,-,-,-,p5,-⟩:=hP1.cells;have hL1:=(hK1.block _ (lt_of_row hL) (by omega) (by omega) (by omega)).trans hL;have hlc:w1.cell? ⟨w.heap.size+1+1,c.toNat,none⟩=some (.int .i64 L):=(cell_of_row _ _ _ _ _ _ hL1).trans (by have h0:=hlim;rw [hi] at h0;exact h0);have HC1:=Lib.hid (And.intro hR1 hL1);clear hP1 hK1 hR1 hL1 HW hP hL)
                  | (go_at_call 81;refine (HU.out _ HC1.out.1.pat).mono ?_;rintro e w2 ⟨rfl,hP2,hK2⟩;have hR2:=HC1.out.1.call hP2 hK2;have hL2:=(hK2.block _ (lt_of_row HC1.out.2) (by omega) (by omega) (by omega)).trans HC1.out.2;have q2:w2.cell? ⟨w.heap.size+1,c.toNat,none⟩=some (.int .i64 (f c.toNat)):=hR2.cell2 (cv_get f c.toNat (by omega));have r2:=hR2.free2 c.toNat;have hset:(cv f).setIfInBounds c.toNat (.int .i64 v)=cv (upd f k v):=(congrArg (fun j=>(cv f).setIfInBounds j (.int .i64 v)) hi.symm).trans (cv_set f k v hkl);have hR3:=hset ▸ hR2.set2 c.toNat (.int .i64 v);have HC2:=Lib.hid (And.intro hR3 (show (w2.setCell ⟨w.heap.size+1,c.toNat,none⟩ (.int .i64 v)).heap[w.heap.size+1+1]?=some (.cells limA 3 (0,0)) from (heap_setCell_other _ _ _ _ (by simp)).trans hL2));clear hP2 hK2 hR2 hR3 hL2 HU HC1 hset))
                go_roundg m2
                case measure=>omega
                case rel=>exact ⟨k+1,c+1,upd f k v,t2,by omega,by first | rfl | simp,by omega,HF.out.1,HF.out.2,HC2.out.1,HC2.out.2,HQ4.out⟩
end
end Go.Proofs.YtldnepogjnahfaaGreatDoor
