/- The document's own Parse by contract (conditions: the bytes can be read; at most 400000 of them; the netlist is such that Check's contract speaks of it). -/
import Derived.Test.YtldnepogjnahfaaGreatDoorVQy
import Derived.Test.YtldnepogjnahfaaGreatDoorVPMems
import Derived.Deep.DeepCutAuto
import Derived.Deep.CutRange
import Derived.Deep.CutBlock
set_option linter.unusedVariables false
namespace Go.Proofs.YtldnepogjnahfaaGreatDoor
open Go.ChangeShapes Go.WideShapes Go.RowKit
set_option linter.unusedSimpArgs false
theorem aag_s:Sc.sbytes ((⟨#[97,97,103]⟩:ByteArray)++⟨#[32]⟩)=aagB:=by decide
theorem aagm_s:Sc.sbytes ((⟨#[97,97,103,109]⟩:ByteArray)++⟨#[32]⟩)=aagmB:=by decide
theorem Ps.begin7_seen (x1 x2:List Int) (s:Ps):(s.begin7 x1 x2).2.seen=s.seen:=by
  unfold Ps.begin7
  split
  · rfl
  · split
    · rfl
    · rw [Ps.refuse_seen];rfl
theorem PQ.new {x y g B:Nat} {xs:List Int} {w w1 W:World} {f:Nat→Int} {t:Ps} {rb:Nat} (hP:RAt x y g B xs true (f 0) W t) (hb:Below w.heap.size w W) (ho:W.heap[rb]?=some (.cells #[.int .i64 0,.slice none 0 0,.slice none 0 0,.slice none 0 0,.slice none 0 0,.slice none 0 0,.slice none 0 0,.slice none 0 0] 27 (0,0))) (hord:w.heap.size≤rb∧rb<y∧y<x∧x<g) :
    PQ x y g B xs (f 0) rb W.heap.size (W.heap.size+1) f w (NCof S0 (n0 (f 0))) ((W.alloc (.cells (cv f) 71)).alloc (.cells (nrow (f 0) (NCof S0 (n0 (f 0)))) 27)) t:=by
  have h1:=heap_alloc_new W (.cells (cv f) 71)
  have h2:=heap_alloc_new (W.alloc (.cells (cv f) 71)) (.cells (nrow (f 0) (NCof S0 (n0 (f 0)))) 27)
  simp only [World.size_alloc] at h2
  have hb2:Below W.heap.size W ((W.alloc (.cells (cv f) 71)).alloc (.cells (nrow (f 0) (NCof S0 (n0 (f 0)))) 27)):=((Below.refl _ W).alloc (Nat.le_refl _) _).alloc (by simp) _
  have hg:g<W.heap.size:=hP.lt.2.2.2 rfl
  exact ⟨hP.below hb2,hb.trans (hb2.mono hb.size),(hb2.block _ (lt_of_row ho)).trans ho,(Below.heap_alloc _ _ _ (by simp)).trans h1,h2,by omega⟩
structure Car (x y g:Nat) (T:TypeId) (X:World→Prop):Prop where
  kept:∀ A B,Kept3 x y g A B→X A→X B
  data:∀ A B,Data (fun t=>t≠T∧t≠27) A B→X A→X B
theorem Car.and {x y g:Nat} {T:TypeId} {X Y:World→Prop} (h:Car x y g T X) (k:Car x y g T Y):Car x y g T (fun W=>X W∧Y W) :=
  ⟨fun A B hk h1=>⟨h.kept A B hk h1.1,k.kept A B hk h1.2⟩,fun A B hk h1=>⟨h.data A B hk h1.1,k.data A B hk h1.2⟩⟩
theorem Car.ints {x y g c:Nat} {T:TypeId} {a:Option Addr} {l:List Int} (hT:3≠T):Car x y g T (fun W=>RP 3 x y g 1 IntAt W a c l) :=
  ⟨fun A B hk h=>h.kept (int_stays x y g) hk,fun A B hd h=>hd.rp ⟨hT,by decide⟩ (fun b o z hb h=>(hd.cell ⟨hT,by decide⟩ hb).trans h) h⟩
theorem Car.box {x y g:Nat} {T:TypeId} {X:World→Prop} {W:World} {q j:Nat} {v:Value} {cs:Array Value} (h:Car x y g T X) (hq:W.heap[q]?=some (.cells cs 27 (0,0))) (hX:X W):X (W.setCell ⟨q,j,none⟩ v) :=
  h.data _ _ (Data.setBox hq (fun hh=>hh.2 rfl)) hX
theorem Car.grown {x y g:Nat} {T:TypeId} {X:World→Prop} {W W':World} {base size n:Nat} {v:Value} {zs:List Value} (h:Car x y g T X) (ho:W.ownsRow base T size v n zs) (hg:W.grownBy W' v.ownBlock) (hX:X W):X W' :=
  h.data _ _ (Data.grown ho (fun hh=>hh.1 rfl) hg) hX
theorem flat_ints (l:List Int):l.flatMap (fun z=>[Value.int .i64 z])=l.map (Value.int .i64):=by
  induction l with
  | nil=>rfl
  | cons z l ih=>rw [List.flatMap_cons,ih];rfl
theorem rp_ints {x y g base:Nat} {W:World} {v:Value} {l:List Int} (h:W.ownsRow base 3 1 v l.length (l.map (Value.int .i64))) (hb:x<base∧y<base∧g<base):∃ a c,v=.slice a l.length c∧RP 3 x y g 1 IntAt W a c l :=
  RP.of_own (cells:=fun z:Int=>[Value.int .i64 z]) (fun _=>rfl) (fun b o z h=>h 0 _ rfl) (by rw [flat_ints];exact h) hb
theorem Car.latches {x y g c:Nat} {T:TypeId} {a:Option Addr} {l:List PLatch} (hT:48≠T):Car x y g T (fun W=>RP 48 x y g 3 LatchAt W a c l) :=
  ⟨fun A B hk h=>h.kept (latch_stays x y g) hk,fun A B hd h=>hd.rp ⟨hT,by decide⟩ (fun b o z hb h=>⟨(hd.cell ⟨hT,by decide⟩ hb).trans h.1,(hd.cell ⟨hT,by decide⟩ hb).trans h.2.1,(hd.cell ⟨hT,by decide⟩ hb).trans h.2.2⟩) h⟩
theorem rp_latches {x y g base:Nat} {W:World} {v:Value} {l:List PLatch} (h:W.ownsRow base 48 3 v l.length (l.flatMap latchCells)) (hb:x<base∧y<base∧g<base):∃ a c,v=.slice a l.length c∧RP 48 x y g 3 LatchAt W a c l :=
  RP.of_own (cells:=latchCells) (fun _=>rfl) (fun b o z h=>⟨h 0 _ rfl,h 1 _ rfl,h 2 _ rfl⟩) h hb
theorem gm_data {x y g:Nat} {D:TypeId→Prop} {A B:World} {z:GM} (hr:D 97) (hw:D 99) (hi:D 3) (h:GMAt x y g A z) (hd:Data D A B):GMAt x y g B z:=by
  refine ⟨hd.rp hr (fun b o x hb hx=>?_) h.1,hd.rp hw (fun b o x hb hx=>?_) h.2⟩
  · obtain ⟨a,c,h1,h2,h3⟩:=hx
    exact ⟨a,c,(hd.cell hr hb).trans h1,(hd.cell hr hb).trans h2,hd.lp hi h3⟩
  · obtain ⟨a,c,a2,c2,h1,h2,h3,h4,h5⟩:=hx
    exact ⟨a,c,a2,c2,(hd.cell hw hb).trans h1,(hd.cell hw hb).trans h2,(hd.cell hw hb).trans h3,hd.lp hi h4,hd.lp hi h5⟩
theorem mem_put {x y g B:Nat} {xs:List Int} {V:Int} {rb cb nb:Nat} {f:Nat→Int} {w0 W W':World} {N N':NC} {t:Ps} {j:Nat} {v u:Value} {ms:List GM} {z:GM} {Y:World→Prop} {zs:List Value} {n2:Nat}
    (HY:Car x y g 54 Y) (hP:PQ x y g B xs V rb cb nb f w0 N W t) (ho:W.ownsRow (nb+1) 54 5 v ms.length (ms.flatMap gmCells)) (hY:Y W) (hms:∀ z∈ms,GMAt x y g W z) (hz:GMAt x y g W z)
    (hg:(W.alloc (.cells (gmCells z).toArray 54)).grownBy W' v.ownBlock) (hO:W'.ownsRow (nb+1) 54 5 u n2 zs) (hN:(nrow V N).setIfInBounds j u=nrow V N') :
    W'.cell? ⟨nb,j,none⟩=W.cell? ⟨nb,j,none⟩∧W'.frozen? ⟨nb,j,none⟩=false∧PQ x y g B xs V rb cb nb f w0 N' (W'.setCell ⟨nb,j,none⟩ u) t∧(W'.setCell ⟨nb,j,none⟩ u).ownsRow (nb+1) 54 5 u n2 zs∧Y (W'.setCell ⟨nb,j,none⟩ u)∧∀ q∈ms++[z],GMAt x y g (W'.setCell ⟨nb,j,none⟩ u) q:=by
  have hoa:=ho.alloc (.cells (gmCells z).toArray 54)
  have hk:Kept3 x y g W (W.alloc (.cells (gmCells z).toArray 54)):=(Kept3.refl x y g W).alloc _
  have hP6:=(hP.alloc (.cells (gmCells z).toArray 54)).grown hoa (Nat.lt_succ_self nb) hg ⟨hg.os,hg.tape,hg.output⟩
  have hall:∀ q∈ms++[z],GMAt x y g W q:=fun q hq=>by
    rcases List.mem_append.1 hq with hq | hq
    · exact hms q hq
    · rw [List.mem_singleton] at hq;subst hq;exact hz
  have hd:Data (fun t=>t≠54∧t≠27) (W.alloc (.cells (gmCells z).toArray 54)) (W'.setCell ⟨nb,j,none⟩ u):=(Data.grown hoa (fun hh=>hh.1 rfl) hg).trans (Data.setBox hP6.net (fun hh=>hh.2 rfl))
  exact ⟨(World.cell?_of_block (a:=⟨nb,j,none⟩) (hP6.net.trans hP.net.symm)),hP6.nfree j,hP6.put j u hN,own_set (b:=nb) (j:=j) (u:=u) hO (Nat.lt_succ_self _),HY.data _ _ hd (HY.kept _ _ hk hY),fun q hq=>gm_data (by decide) (by decide) (by decide) ((hall q hq).kept hk) hd⟩
theorem rp_mems {x y g base:Nat} {W:World} {v:Value} {ms:List GM} (h:W.ownsRow base 54 5 v ms.length (ms.flatMap gmCells)) (hms:∀ z∈ms,GMAt x y g W z) (hb:x<base∧y<base∧g<base):∃ a c,v=.slice a ms.length c∧RP 54 x y g 5 (PMemAt x y g) W a c (ms.map (·.m)):=by
  obtain ⟨A,c,rfl,hR⟩:=RP.of_own (p:=x) (r:=y) (g:=g) (k:=5) (base:=base) (cells:=gmCells) (At:=fun W b o z=>∀ i u,(gmCells z)[i]?=some u→W.cell? ⟨b,o+i,none⟩=some u) (fun _=>rfl) (fun b o z h=>h) h hb
  refine ⟨A,c,rfl,fun hn=>?_,by rw [List.length_map];exact hR.2.1,hR.2.2⟩
  obtain ⟨b,o,e,hb,hc⟩:=hR.1 (fun e=>hn (by rw [e];rfl))
  refine ⟨b,o,e,hb,fun j z hj=>?_⟩
  rw [List.getElem?_map] at hj
  obtain ⟨q,hq,rfl⟩:=Option.map_eq_some_iff.1 hj
  have hy:=hc j q hq
  exact ⟨q.a,q.c,q.a2,q.c2,hy 0 _ rfl,hy 1 _ rfl,hy 2 _ rfl,hy 3 _ rfl,hy 4 _ rfl,(hms q (List.mem_of_getElem? hq)).1,(hms q (List.mem_of_getElem? hq)).2⟩
theorem Car.mems {x y g c:Nat} {a:Option Addr} {l:List PMem}:Car x y g 57 (fun W=>RP 54 x y g 5 (PMemAt x y g) W a c l) :=
  ⟨fun A B hk h=>h.kept (mem_stays x y g) hk,fun A B hd h=>hd.rp (by decide) (fun b o z hb h=>by
    obtain ⟨a,c,a2,c2,h1,h2,h3,h4,h5,h6,h7⟩:=h
    have hg:=gm_data (z:=⟨z,a,c,a2,c2⟩) (by decide) (by decide) (by decide) ⟨h6,h7⟩ hd
    exact ⟨a,c,a2,c2,(hd.cell (by decide) hb).trans h1,(hd.cell (by decide) hb).trans h2,(hd.cell (by decide) hb).trans h3,(hd.cell (by decide) hb).trans h4,(hd.cell (by decide) hb).trans h5,hg.1,hg.2⟩) h⟩
theorem litsQ_two {V:Int} {s:Ps} {l:List Int} {s':Ps} (h:s.litsQ V 2=(l,s')) (he:s'.e=none):∃ o1 o2,l=[o1,o2]:=by
  have hs:s.e=none:=litsQ_none (V:=V) (k:=2) (by rw [h];exact he)
  unfold Ps.litsQ at h
  rw [qloop_go hs] at h
  by_cases h1:(s.nextLiteral V).2.e=none
  · rw [qloop_go h1] at h
    unfold qloop at h
    injection h with h2 h3
    exact ⟨_,_,h2.symm⟩
  · rw [qloop_bad (by cases hq:(s.nextLiteral V).2.e with
      | none=>exact absurd hq h1
      | some z=>simp [hq])] at h
    injection h with h2 h3
    subst h3
    exact absurd he h1
section
variable {x y g B:Nat} {xs:List Int} {mk:Bool} {V:Int} {w:World} {s:Ps}
set_option maxRecDepth 100000 in
set_option maxHeartbeats 2000000 in
theorem lines7_all (c:Int) (hc:0≤c) (hsm:s.e=none→c≤1000000) (h:RAt x y g B xs mk V w s) (hg:g<w.heap.size) :
    Calls Tryz.prog 46 #[.pointer (some ⟨x,0,none⟩),.int .i64 c] w (RList x y g B xs mk V w (qloop (Ps.ln (fun t:Ps=>t.literal V)) c.toNat ([],s))):=by
  cases he:s.e with
  | none =>
    obtain ⟨k,rfl⟩:∃ k:Nat,(k:Int)=c:=⟨c.toNat,by omega⟩
    rw [Int.toNat_natCast]
    exact lines7_any k (by have:=hsm he;omega) h hg
  | some z =>
    rw [qloop_bad (by simp [he])]
    obtain ⟨-,c1,-,-,-,-,-⟩:=h.cells
    rw [he] at c1
    have hkz:=h.kind z he
    obtain ⟨q1,q2⟩:=z
    have hq1:¬ q1=0:=hkz
    unfold fK at c1
    dsimp only at c1
    have H:=Lib.hid h
    clear h he hkz hsm
    go_enter Tryz.func46,Tryz.ntmps46
    go_wp2_with fail
    go_loopg [5,6] 0 (fun m' s5 s6 wx=>s5=.slice none 0 0∧s6=.int .i64 0∧w=wx)
    case atStart=>exact ⟨rfl,rfl,rfl⟩
    case round =>
      obtain ⟨rfl,rfl,rfl⟩:=hrel
      by_cases h0:0<c
      · go_wp2_with fail
        go_ret
        exact ⟨_,rfl,World.ownsRow_nil _ _ _ _,H.out,Kept3.refl _ _ _ _⟩
      · go_wp2_with fail
        go_ret
        exact ⟨_,rfl,World.ownsRow_nil _ _ _ _,H.out,Kept3.refl _ _ _ _⟩
end
theorem rp_ands {x y g base:Nat} {W:World} {v:Value} {l:List PAnd} (h:W.ownsRow base 57 3 v l.length (l.flatMap andCells)) (hb:x<base∧y<base∧g<base):∃ a c,v=.slice a l.length c∧RP 57 x y g 3 AndAt W a c l :=
  RP.of_own (cells:=andCells) (fun _=>rfl) (fun b o z h=>⟨h 0 _ rfl,h 1 _ rfl,h 2 _ rfl⟩) h hb
def net7 (f:Nat→Int) (s:Ps):PNet × Ps :=
  let i:=qloop (Ps.inputQ (f 0)) (f 1).toNat ([],s)
  let l:=qloop (Ps.latchQ (f 0)) (f 2).toNat ([],i.2)
  let o:=qloop (Ps.ln (fun t:Ps=>t.literal (f 0))) (f 3).toNat ([],l.2)
  let b:=qloop (Ps.ln (fun t:Ps=>t.literal (f 0))) (f 5).toNat ([],o.2)
  let c:=qloop (Ps.ln (fun t:Ps=>t.literal (f 0))) (f 6).toNat ([],b.2)
  let m:=qloop (Ps.memQ (f 0)) (f 7).toNat ([],c.2)
  let a:=eachF (Ps.andQ (f 0)) push (f 4).toNat (m.2,[])
  (⟨f 0,i.1,l.1,o.1,b.1,c.1,m.1,a.2⟩,a.1)
def parseQ (xs:List Int):PNet × Int × Int :=
  let b:=(Ps.begun xs).begin7 aagB aagmB
  let c:=b.2.counts7 b.1
  let n:=net7 c.1 c.2
  told n.1 (n.2.finish7 n.1.check)
def ParseQLeft (w:World) (z:PNet × Int × Int) (e:Ending) (w':World):Prop :=
  ∃ (n:PNet) (S:NetS),n=z.1∧e=.returned (.tuple #[.agg #[.int .i64 n.vars,.slice S.i n.inputs.length S.ic,.slice S.l n.latches.length S.lc,.slice S.o n.outs.length S.oc,.slice S.b n.bads.length S.bc,.slice S.c n.cons.length S.cc,.slice S.m n.mems.length S.mc,.slice S.a n.ands.length S.ac],.int .i64 z.2.1,.int .i64 z.2.2])∧NetAt w' w'.heap.size S n∧Below w.heap.size w w'
section
variable {w:World} {xs:List Int}
set_option maxRecDepth 100000 in
set_option maxHeartbeats 16000000 in
theorem parse7_any (a:Option Addr) (c:Nat) (hs:Sc.Src w w.heap.size a xs) (hn:xs.length≤400000) (hb:∀ z∈xs,0≤z∧z<256)
    (hG:(net7 (((Ps.begun xs).begin7 aagB aagmB).2.counts7 ((Ps.begun xs).begin7 aagB aagmB).1).1 (((Ps.begun xs).begin7 aagB aagmB).2.counts7 ((Ps.begun xs).begin7 aagB aagmB).1).2).2.e=none→(net7 (((Ps.begun xs).begin7 aagB aagmB).2.counts7 ((Ps.begun xs).begin7 aagB aagmB).1).1 (((Ps.begun xs).begin7 aagB aagmB).2.counts7 ((Ps.begun xs).begin7 aagB aagmB).1).2).1.fits∧(net7 (((Ps.begun xs).begin7 aagB aagmB).2.counts7 ((Ps.begun xs).begin7 aagB aagmB).1).1 (((Ps.begun xs).begin7 aagB aagmB).2.counts7 ((Ps.begun xs).begin7 aagB aagmB).1).2).1.modest∧(net7 (((Ps.begun xs).begin7 aagB aagmB).2.counts7 ((Ps.begun xs).begin7 aagB aagmB).1).1 (((Ps.begun xs).begin7 aagB aagmB).2.counts7 ((Ps.begun xs).begin7 aagB aagmB).1).2).1.near) :
    Calls Tryz.prog 14 #[.slice a xs.length c] w (ParseQLeft w (parseQ xs)):=by
  obtain ⟨W0,hW0⟩:∃ W0,W0=w.alloc (.cells #[.int .i64 0,.slice none 0 0,.slice none 0 0,.slice none 0 0,.slice none 0 0,.slice none 0 0,.slice none 0 0,.slice none 0 0] 27):=⟨_,rfl⟩
  have hb0:Below w.heap.size w W0:=by rw [hW0];exact (Below.refl _ w).alloc (Nat.le_refl _) _
  have hr0:W0.heap[w.heap.size]?=some (.cells #[.int .i64 0,.slice none 0 0,.slice none 0 0,.slice none 0 0,.slice none 0 0,.slice none 0 0,.slice none 0 0,.slice none 0 0] 27 (0,0)):=by rw [hW0];exact heap_alloc_new w _
  have hz0:W0.heap.size=w.heap.size+1:=by rw [hW0];simp
  have hs0:Sc.Src W0 W0.heap.size a xs:=(hs.keep (r:=w.heap.size) (fun k hk _=>hb0.block k hk) hb0.size (Nat.le_refl _)).mono hb0.size
  have HB:=Lib.hid (begin7_any ⟨#[97,97,103]⟩ ⟨#[97,97,103,109]⟩ aagB aagmB aag_s aagm_s (by decide) (by decide) a c hs0 hn hb)
  rw [hz0] at HB
  obtain ⟨⟨mm,s1⟩,e1⟩:∃ X,(Ps.begun xs).begin7 aagB aagmB=X:=⟨_,rfl⟩
  have hs1:s1.seen=[]:=by have h0:=Ps.begin7_seen aagB aagmB (Ps.begun xs);rw [e1] at h0;exact h0
  rw [e1] at HB
  have H0:=Lib.hid (And.intro hb0 hr0)
  obtain ⟨⟨f,s2⟩,e2⟩:∃ X,s1.counts7 mm=X:=⟨_,rfl⟩
  obtain ⟨ZZ,hZZ⟩:∃ Z,parseQ xs=Z:=⟨_,rfl⟩
  rw [hZZ]
  have HZZ:=Lib.hid hZZ
  clear hZZ
  have HIN0:=counts7_in mm s1
  rw [e2] at HIN0
  have HIN:=Lib.hid (show ∀ j,0≤f j∧f j≤lim j from HIN0)
  have HSM:=Lib.hid (show s2.e=none→f 3+f 5+f 6≤1000 from fun hh=>by have h0:=counts7_small (mems:=mm) (s:=s1) (by rw [e2];exact hh);rw [e2] at h0;exact h0)
  clear HIN0
  have f1p:0≤f 1∧f 1≤2000:=HIN.out 1
  have f2p:0≤f 2∧f 2≤2000:=HIN.out 2
  have f7p:0≤f 7∧f 7≤4:=HIN.out 7
  have f4p:0≤f 4∧f 4≤2000:=HIN.out 4
  have HG:=Lib.hid (show (net7 f s2).2.e=none→(net7 f s2).1.fits∧(net7 f s2).1.modest∧(net7 f s2).1.near from by have h0:=hG;rw [e1] at h0;dsimp only at h0;rw [e2] at h0;exact h0)
  clear hG
  have HC:=Lib.hid (fun (W:World) (h:RAt (w.heap.size+1+1) (w.heap.size+1) (w.heap.size+1+1) (w.heap.size+1) xs false 0 W s1)=>e2 ▸ counts7_any mm h hs1)
  clear hs hb hb0 hr0 hs0 hz0
  subst hW0
  go_enter Tryz.func14,Tryz.ntmps14
  go_upto_block 0 with (first
    | (go_at_call 41;refine HB.out.mono ?_;clear HB;rintro e w1 ⟨rfl,hP1,hb1⟩;have HP1:=Lib.hid (And.intro hP1 hb1);clear hP1 hb1)
    | (go_at_call 42;refine (HC.out _ HP1.out.1).mono ?_;clear HC;rintro e w2 ⟨g,rfl,hg,hP2,hK2⟩;have HP2:=Lib.hid (And.intro hg (And.intro hP2 hK2));clear hg hP2 hK2;unfold cv))
  have hxg:w.heap.size+1+1<g:=HP2.out.2.1.ord.2.2 rfl
  have hgl:g<w2.heap.size:=HP2.out.2.1.lt.2.2.2 rfl
  have HQ:=Lib.hid (show PQ (w.heap.size+1+1) (w.heap.size+1) g (w.heap.size+1) xs (f 0) w.heap.size w2.heap.size (w2.heap.size+1) f w ⟨.slice none 0 0,.slice none 0 0,.slice none 0 0,.slice none 0 0,.slice none 0 0,.slice none 0 0,.slice none 0 0⟩ _ s2 from by
    have h1:=HP2.out.1
    have h2:=HP1.out.2.size
    simp at h2
    have hk:=HP2.out.2.2.below (n:=w.heap.size) (by omega) (by omega) (by omega) (by omega)
    exact PQ.new (rb:=w.heap.size) (w1:=w1) HP2.out.2.1 (H0.out.1.trans ((HP1.out.2.mono (Nat.le_succ _)).trans hk)) ((HP2.out.2.2.block _ (by omega) (by omega) (by omega) (by omega)).trans ((HP1.out.2.block _ (by omega)).trans H0.out.2)) ⟨Nat.le_refl _,by omega,by omega,by omega⟩)
  unfold cv nrow NCof at HQ
  obtain ⟨x,hx⟩:∃ x,w.heap.size+1+1=x:=⟨_,rfl⟩
  obtain ⟨y,hy⟩:∃ y,w.heap.size+1=y:=⟨_,rfl⟩
  obtain ⟨cb,hcb⟩:∃ cb,w2.heap.size=cb:=⟨_,rfl⟩
  obtain ⟨nb,hnb⟩:∃ nb,cb+1=nb:=⟨_,rfl⟩
  rw [hcb] at HQ ⊢
  rw [hnb] at HQ ⊢
  rw [hx] at HQ ⊢
  rw [hy] at HQ
  have hord:w.heap.size<y∧y<x∧x<g∧g<cb∧cb<nb:=by omega
  obtain ⟨hyx0,hyx,hxg2,hgc,hcn⟩:=hord
  have HE:=Lib.hid (And.intro hx (And.intro hy (And.intro hcb hnb)))
  have hcs:s2.e=none→True:=fun _=>trivial
  obtain ⟨n1,hn1⟩:∃ n1:Nat,(n1:Int)=f 1:=⟨(f 1).toNat,by have:=f1p;omega⟩
  have hn1b:n1≤2000:=by omega
  obtain ⟨Z,hZ⟩:∃ Z,qloop (Ps.inputQ (f 0)) n1 ([],s2)=Z:=⟨_,rfl⟩
  have HZ:=Lib.hid hZ
  obtain ⟨i0,hi,hz0,hz1,hz2⟩:=info_parts int_info
  clear hxg hgl HP2 HP1 HE hx hy hcb hZ
  go_cut [] (fun wx=>∃ v:Value,wx.ownsRow (nb+1) 3 1 v Z.1.length (Z.1.map (Value.int .i64))∧PQ x y g y xs (f 0) w.heap.size cb nb f w ⟨v,.slice none 0 0,.slice none 0 0,.slice none 0 0,.slice none 0 0,.slice none 0 0,.slice none 0 0⟩ wx Z.2)
  case rest =>
    obtain ⟨v1,ho1,hP1⟩:=hcut
    have hnb1:x<nb+1∧y<nb+1∧g<nb+1:=by omega
    obtain ⟨A1,c1,rfl,hR1⟩:=rp_ints ho1 hnb1
    obtain ⟨l1,s3⟩:=Z
    dsimp only at hP1 hR1
    have HX:=Lib.hid (Car.ints (x:=x) (y:=y) (g:=g) (c:=c1) (a:=A1) (l:=l1) (T:=48) (by decide))
    generalize hX:(fun W=>RP 3 x y g 1 IntAt W A1 c1 l1)=X at HX
    have hX1:X wc:=by rw [← hX];exact hR1
    have HS:=Lib.hid (And.intro hP1 hX1)
    have hl1:l1.length≤9223372036854775807:=Nat.le_trans hR1.2.1 hR1.2.2
    clear ho1 hP1 hR1 HQ hX1
    obtain ⟨n2,hn2⟩:∃ n2:Nat,(n2:Int)=f 2:=⟨(f 2).toNat,by have:=f2p;omega⟩
    have hn2b:n2≤2000:=by omega
    obtain ⟨Z2,hZ2⟩:∃ Z,qloop (Ps.latchQ (f 0)) n2 ([],s3)=Z:=⟨_,rfl⟩
    have HZ2:=Lib.hid hZ2
    obtain ⟨j0,hj,hy0,hy1,hy2⟩:=info_parts latch_info
    clear hZ2
    go_upto_block 2 with fail
    go_cut [] (fun wx=>∃ v:Value,wx.ownsRow (nb+1) 48 3 v Z2.1.length (Z2.1.flatMap latchCells)∧PQ x y g y xs (f 0) w.heap.size cb nb f w ⟨.slice A1 l1.length c1,v,.slice none 0 0,.slice none 0 0,.slice none 0 0,.slice none 0 0,.slice none 0 0⟩ wx Z2.2∧X wx)
    case rest =>
      obtain ⟨v2,ho2,hP2,hX2⟩:=hcut
      obtain ⟨A2,c2,rfl,hR2⟩:=rp_latches ho2 hnb1
      obtain ⟨l2,s4⟩:=Z2
      dsimp only at hP2 hR2
      have hl2:l2.length≤9223372036854775807:=Nat.le_trans hR2.2.1 hR2.2.2
      rw [← hX] at hX2
      have HY2:=Lib.hid (fun (T:TypeId) (h1:3≠T) (h2:48≠T)=>(Car.ints (x:=x) (y:=y) (g:=g) (c:=c1) (a:=A1) (l:=l1) h1).and (Car.latches (x:=x) (y:=y) (g:=g) (c:=c2) (a:=A2) (l:=l2) h2))
      have HS2:=Lib.hid (And.intro hP2 (And.intro hX2 hR2))
      clear ho2 hP2 hX2 hX HX HS hR2
      obtain ⟨⟨l3,s5⟩,e3⟩:∃ Z,qloop (Ps.ln (fun t:Ps=>t.literal (f 0))) (f 3).toNat ([],s4)=Z:=⟨_,rfl⟩
      obtain ⟨⟨l5,s6⟩,e5⟩:∃ Z,qloop (Ps.ln (fun t:Ps=>t.literal (f 0))) (f 5).toNat ([],s5)=Z:=⟨_,rfl⟩
      obtain ⟨⟨l6,s7⟩,e6⟩:∃ Z,qloop (Ps.ln (fun t:Ps=>t.literal (f 0))) (f 6).toNat ([],s6)=Z:=⟨_,rfl⟩
      have hsm:(s4.e=none→f 3≤1000000)∧(s5.e=none→f 5≤1000000)∧(s6.e=none→f 6≤1000000):=by
        have g0:s2.e=none→f 3+f 5+f 6≤1000:=HSM.out
        have g3:=(HIN.out 3).1
        have g5:=(HIN.out 5).1
        have g6:=(HIN.out 6).1
        have E1:s3.e=none→s2.e=none:=fun hh=>qloop_none (fun t h=>inputQ_none h) n1 ([],s2) (by rw [HZ.out];exact hh)
        have E2:s4.e=none→s3.e=none:=fun hh=>qloop_none (fun t h=>latchQ_none h) n2 ([],s3) (by rw [HZ2.out];exact hh)
        have E3:s5.e=none→s4.e=none:=fun hh=>qloop_none (fun t h=>lineQ_none h) (f 3).toNat ([],s4) (by rw [e3];exact hh)
        have E5:s6.e=none→s5.e=none:=fun hh=>qloop_none (fun t h=>lineQ_none h) (f 5).toNat ([],s5) (by rw [e5];exact hh)
        exact ⟨fun hh=>by have:=g0 (E1 (E2 hh));omega,fun hh=>by have:=g0 (E1 (E2 (E3 hh)));omega,fun hh=>by have:=g0 (E1 (E2 (E3 (E5 hh))));omega⟩
      have f3p:0≤f 3∧0≤f 5∧0≤f 6:=⟨(HIN.out 3).1,(HIN.out 5).1,(HIN.out 6).1⟩
      obtain ⟨hs3,hs5,hs6⟩:=hsm
      obtain ⟨f3p,f5p,f6p⟩:=f3p
      have HL3:=Lib.hid (fun (W:World) (h:RAt x y g y xs true (f 0) W s4) (hg:g<W.heap.size)=>e3 ▸ lines7_all (f 3) f3p hs3 h hg)
      have HL5:=Lib.hid (fun (W:World) (h:RAt x y g y xs true (f 0) W s5) (hg:g<W.heap.size)=>e5 ▸ lines7_all (f 5) f5p hs5 h hg)
      have HL6:=Lib.hid (fun (W:World) (h:RAt x y g y xs true (f 0) W s6) (hg:g<W.heap.size)=>e6 ▸ lines7_all (f 6) f6p hs6 h hg)
      have d3:=HS2.out.1.ccell 3 (by decide)
      have hnwc:nb<wc.heap.size:=HS2.out.1.lt
      have HLE:=Lib.hid (And.intro e3 (And.intro e5 e6))
      clear hs3 hs5 hs6 f3p f5p f6p e3 e5 e6
      go_upto_block 4 with (first
        | (go_at_call 46;refine (HL3.out _ HS2.out.1.pat (by have:=HS2.out.1.lt;omega)).mono ?_;clear HL3;rintro e w5 ⟨v3,rfl,hO,hP,hK⟩;obtain ⟨A3,c3,rfl,hR⟩:=rp_ints (x:=x) (y:=y) (g:=g) hO (by have:=HS2.out.1.lt;omega);have hPa:=HS2.out.1.call hP hK;have hYa:=(HY2.out 54 (by decide) (by decide)).kept _ _ hK HS2.out.2;have n3:w5.cell? ⟨nb,3,none⟩=some (.slice none 0 0):=hPa.ncell (j:=3) rfl;have m3:=hPa.nfree 3;have hnw5:nb<w5.heap.size:=hPa.lt;have hlen3:l3.length≤9223372036854775807:=Nat.le_trans hR.2.1 hR.2.2;have HP3:=Lib.hid (And.intro (hPa.put (N':=⟨.slice A1 l1.length c1,.slice A2 l2.length c2,.slice A3 l3.length c3,.slice none 0 0,.slice none 0 0,.slice none 0 0,.slice none 0 0⟩) 3 (.slice A3 l3.length c3) rfl) (And.intro ((HY2.out 54 (by decide) (by decide)).box (j:=3) (v:=.slice A3 l3.length c3) hPa.net hYa) ((Car.ints (T:=54) (by decide)).box (j:=3) (v:=.slice A3 l3.length c3) hPa.net hR)));have d5:=HP3.out.1.ccell 5 (by decide);clear hO hP hK hR hPa hYa)
        | (go_at_call 46;refine (HL5.out _ HP3.out.1.pat (by have:=HP3.out.1.lt;omega)).mono ?_;clear HL5;rintro e w6 ⟨v3,rfl,hO,hP,hK⟩;obtain ⟨A5,c5,rfl,hR⟩:=rp_ints (x:=x) (y:=y) (g:=g) hO (by have:=HP3.out.1.lt;omega);have hPa:=HP3.out.1.call hP hK;have hYa:=(Car.and (HY2.out 54 (by decide) (by decide)) (Car.ints (a:=A3) (c:=c3) (l:=l3) (by decide))).kept _ _ hK HP3.out.2;have n4:w6.cell? ⟨nb,4,none⟩=some (.slice none 0 0):=hPa.ncell (j:=4) rfl;have m4:=hPa.nfree 4;have hnw6:nb<w6.heap.size:=hPa.lt;have hlen4:l5.length≤9223372036854775807:=Nat.le_trans hR.2.1 hR.2.2;have HP5:=Lib.hid (And.intro (hPa.put (N':=⟨.slice A1 l1.length c1,.slice A2 l2.length c2,.slice A3 l3.length c3,.slice A5 l5.length c5,.slice none 0 0,.slice none 0 0,.slice none 0 0⟩) 4 (.slice A5 l5.length c5) rfl) (And.intro ((Car.and (HY2.out 54 (by decide) (by decide)) (Car.ints (a:=A3) (c:=c3) (l:=l3) (by decide))).box (j:=4) (v:=.slice A5 l5.length c5) hPa.net hYa) ((Car.ints (T:=54) (by decide)).box (j:=4) (v:=.slice A5 l5.length c5) hPa.net hR)));have d6:=HP5.out.1.ccell 6 (by decide);clear hO hP hK hR hPa hYa)
        | (go_at_call 46;refine (HL6.out _ HP5.out.1.pat (by have:=HP5.out.1.lt;omega)).mono ?_;clear HL6;rintro e w7 ⟨v3,rfl,hO,hP,hK⟩;obtain ⟨A6,c6,rfl,hR⟩:=rp_ints (x:=x) (y:=y) (g:=g) hO (by have:=HP5.out.1.lt;omega);have hPa:=HP5.out.1.call hP hK;have hYa:=(Car.and (Car.and (HY2.out 54 (by decide) (by decide)) (Car.ints (a:=A3) (c:=c3) (l:=l3) (by decide))) (Car.ints (a:=A5) (c:=c5) (l:=l5) (by decide))).kept _ _ hK HP5.out.2;have n5:w7.cell? ⟨nb,5,none⟩=some (.slice none 0 0):=hPa.ncell (j:=5) rfl;have m5:=hPa.nfree 5;have hnw7:nb<w7.heap.size:=hPa.lt;have hlen5:l6.length≤9223372036854775807:=Nat.le_trans hR.2.1 hR.2.2;have HP6:=Lib.hid (And.intro (hPa.put (N':=⟨.slice A1 l1.length c1,.slice A2 l2.length c2,.slice A3 l3.length c3,.slice A5 l5.length c5,.slice A6 l6.length c6,.slice none 0 0,.slice none 0 0⟩) 5 (.slice A6 l6.length c6) rfl) (And.intro ((Car.and (Car.and (HY2.out 54 (by decide) (by decide)) (Car.ints (a:=A3) (c:=c3) (l:=l3) (by decide))) (Car.ints (a:=A5) (c:=c5) (l:=l5) (by decide))).box (j:=5) (v:=.slice A6 l6.length c6) hPa.net hYa) ((Car.ints (T:=54) (by decide)).box (j:=5) (v:=.slice A6 l6.length c6) hPa.net hR)));clear hO hP hK hR hPa hYa)
        | fail)
      have HY:=Lib.hid (fun (T:TypeId) (h1:3≠T) (h2:48≠T)=>((((HY2.out T h1 h2).and (Car.ints (a:=A3) (c:=c3) (l:=l3) h1)).and (Car.ints (a:=A5) (c:=c5) (l:=l5) h1)).and (Car.ints (a:=A6) (c:=c6) (l:=l6) h1)))
      generalize hYd:(fun W=>(((RP 3 x y g 1 IntAt W A1 c1 l1∧RP 48 x y g 3 LatchAt W A2 c2 l2)∧RP 3 x y g 1 IntAt W A3 c3 l3)∧RP 3 x y g 1 IntAt W A5 c5 l5)∧RP 3 x y g 1 IntAt W A6 c6 l6)=Y at HY
      have HS6:=Lib.hid (show PQ x y g y xs (f 0) w.heap.size cb nb f w ⟨.slice A1 l1.length c1,.slice A2 l2.length c2,.slice A3 l3.length c3,.slice A5 l5.length c5,.slice A6 l6.length c6,.slice none 0 0,.slice none 0 0⟩ _ s7∧Y _ from ⟨HP6.out.1,by rw [← hYd];exact HP6.out.2⟩)
      have HYT:=Lib.hid (HY.out 54 (by decide) (by decide))
      clear HP6 HP5 HP3 HY2 HS2 d3 d5 d6 n3 n4 n5 m3 m4 m5 hnw5 hnw6 hnw7 hnwc
      generalize World.setCell w7 _ _=W8 at HS6 ⊢
      obtain ⟨n7,hn7⟩:∃ n7:Nat,(n7:Int)=f 7:=⟨(f 7).toNat,by have:=f7p;omega⟩
      have hn7b:n7≤4:=by omega
      obtain ⟨Z3,hZ3⟩:∃ Z,qloop (Ps.memQ (f 0)) n7 ([],s7)=Z:=⟨_,rfl⟩
      have HZ3:=Lib.hid hZ3
      obtain ⟨p0,hp,hv0,hv1,hv2⟩:=info_parts mem_info
      clear hZ3
      go_cut [] (fun wx=>∃ (ms:List GM) (v:Value),ms.map (·.m)=Z3.1∧wx.ownsRow (nb+1) 54 5 v ms.length (ms.flatMap gmCells)∧(∀ z∈ms,GMAt x y g wx z)∧PQ x y g y xs (f 0) w.heap.size cb nb f w ⟨.slice A1 l1.length c1,.slice A2 l2.length c2,.slice A3 l3.length c3,.slice A5 l5.length c5,.slice A6 l6.length c6,v,.slice none 0 0⟩ wx Z3.2∧Y wx)
      case rest =>
        obtain ⟨ms,v6,hmm,ho6,hms6,hP6,hY6⟩:=hcut
        obtain ⟨A7,c7,rfl,hR7⟩:=rp_mems ho6 hms6 hnb1
        obtain ⟨l7,s8⟩:=Z3
        dsimp only at hmm hP6
        rw [hmm] at hR7
        have hml:ms.length=l7.length:=by rw [← hmm];simp
        rw [hml] at hP6
        have hl7:l7.length≤9223372036854775807:=Nat.le_trans hR7.2.1 hR7.2.2
        have HX4:=Lib.hid ((HY.out 57 (by decide) (by decide)).and (Car.mems (x:=x) (y:=y) (g:=g) (a:=A7) (c:=c7) (l:=l7)))
        generalize hXd:(fun W=>Y W∧RP 54 x y g 5 (PMemAt x y g) W A7 c7 l7)=X4 at HX4
        have HS7:=Lib.hid (show PQ x y g y xs (f 0) w.heap.size cb nb f w ⟨.slice A1 l1.length c1,.slice A2 l2.length c2,.slice A3 l3.length c3,.slice A5 l5.length c5,.slice A6 l6.length c6,.slice A7 l7.length c7,.slice none 0 0⟩ wc s8∧X4 wc from ⟨hP6,by rw [← hXd];exact ⟨hY6,hR7⟩⟩)
        clear hP6 hY6 hR7 ho6 hms6 hmm hml HS6 HYT
        obtain ⟨n4,hn4⟩:∃ n4:Nat,(n4:Int)=f 4:=⟨(f 4).toNat,by have:=f4p;omega⟩
        have hn4b:n4≤2000:=by omega
        obtain ⟨Z4,hZ4⟩:∃ Z,eachF (Ps.andQ (f 0)) push n4 (s8,[])=Z:=⟨_,rfl⟩
        have HZ4:=Lib.hid hZ4
        obtain ⟨r0,hr,hw0,hw1,hw2⟩:=info_parts and_info
        clear hZ4
        go_upto_block 6 with fail
        go_cut [] (fun wx=>∃ v:Value,wx.ownsRow (nb+1) 57 3 v Z4.2.length (Z4.2.flatMap andCells)∧PQ x y g y xs (f 0) w.heap.size cb nb f w ⟨.slice A1 l1.length c1,.slice A2 l2.length c2,.slice A3 l3.length c3,.slice A5 l5.length c5,.slice A6 l6.length c6,.slice A7 l7.length c7,v⟩ wx Z4.1∧X4 wx)
        case rest =>
          obtain ⟨v8,ho8,hP8,hX8⟩:=hcut
          obtain ⟨A8,c8,rfl,hR8⟩:=rp_ands ho8 hnb1
          obtain ⟨s9,l8⟩:=Z4
          dsimp only at hP8 hR8
          rw [← hXd,← hYd] at hX8
          have hN:NAt x y g wc { i:=A1,ic:=c1,l:=A2,lc:=c2,o:=A3,oc:=c3,b:=A5,bc:=c5,c:=A6,cc:=c6,m:=A7,mc:=c7,a:=A8,ac:=c8 } ⟨f 0,l1,l2,l3,l5,l6,l7,l8⟩:=⟨hX8.1.1.1.1.1,hX8.1.1.1.1.2,hX8.1.1.1.2,hX8.1.1.2,hX8.1.2,hX8.2,hR8⟩
          have hnet:net7 f s2=(⟨f 0,l1,l2,l3,l5,l6,l7,l8⟩,s9):=by
            have t1:(f 1).toNat=n1:=by omega
            have t2:(f 2).toNat=n2:=by omega
            have t7:(f 7).toNat=n7:=by omega
            have t4:(f 4).toNat=n4:=by omega
            unfold net7
            dsimp only
            rw [t1,t2,t7,t4,HZ.out]
            dsimp only
            rw [HZ2.out]
            dsimp only
            rw [HLE.out.1]
            dsimp only
            rw [HLE.out.2.1]
            dsimp only
            rw [HLE.out.2.2]
            dsimp only
            rw [HZ3.out]
            dsimp only
            rw [HZ4.out]
          have HE:=Lib.hid (end7_any hP8.pat (hP8.pat.lt.2.2.2 rfl) hN (fun hh=>by have:=HG.out;rw [hnet] at this;exact this hh))
          have hpq:parseQ xs=told ⟨f 0,l1,l2,l3,l5,l6,l7,l8⟩ (s9.finish7 (PNet.check ⟨f 0,l1,l2,l3,l5,l6,l7,l8⟩)):=by unfold parseQ;rw [e1];dsimp only;rw [e2];dsimp only;rw [hnet]
          obtain ⟨TT,hTT⟩:∃ T,told ⟨f 0,l1,l2,l3,l5,l6,l7,l8⟩ (s9.finish7 (PNet.check ⟨f 0,l1,l2,l3,l5,l6,l7,l8⟩))=T:=⟨_,rfl⟩
          rw [hTT] at HE hpq
          obtain ⟨n,za,zk⟩:=TT
          have HPQ:=Lib.hid hpq
          clear hTT
          have HP:=Lib.hid hP8
          obtain ⟨⟨k0,k1,k2,k3,k4,k5,k6,k7⟩,-⟩:=eight_cells (show wc.heap[nb]?=some (.cells #[.int .i64 (f 0),.slice A1 l1.length c1,.slice A2 l2.length c2,.slice A3 l3.length c3,.slice A5 l5.length c5,.slice A6 l6.length c6,.slice A7 l7.length c7,.slice A8 l8.length c8] 27 (0,0)) from hP8.net)
          clear hP8 ho8 hR8 hX8 hN hnet hpq hXd hYd HS7 HX4 HY HZ4
          unfold EndLeft at HE
          dsimp only at HE
          go_wp2_with (first
            | (go_at_call 49;refine HE.out.mono ?_;clear HE;rintro e w9 ⟨n',S',rfl,rfl,hN9,hK9⟩;have hP9:=(hK9.block _ (by have:=lt_of_row HP.out.out;omega) (by have:=HP.out.ord;omega) (by have:=HP.out.ord;omega) (by have:=HP.out.ord;omega)).trans HP.out.out;obtain ⟨⟨o0,o1,o2,o3,o4,o5,o6,o7⟩,hfo⟩:=eight_cells hP9;have fo0:=hfo 0;have fo1:=hfo 1;have fo2:=hfo 2;have fo3:=hfo 3;have fo4:=hfo 4;have fo5:=hfo 5;have fo6:=hfo 6;have fo7:=hfo 7;have HP9:=Lib.hid (And.intro hN9 (And.intro hK9 hP9));clear hfo hN9 hK9 hP9))
          refine bodyPost_ret (results_net rfl _ _ w.heap.size 27 _ (0,0) _ rfl (eight_put HP9.out.2.2 (.int .i64 n'.vars) (.slice S'.i n'.inputs.length S'.ic) (.slice S'.l n'.latches.length S'.lc) (.slice S'.o n'.outs.length S'.oc) (.slice S'.b n'.bads.length S'.bc) (.slice S'.c n'.cons.length S'.cc) (.slice S'.m n'.mems.length S'.mc) (.slice S'.a n'.ands.length S'.ac)) Tryz.underlying27 rfl (by kernel_rfl) _ _ rfl rfl) rfl ?_
          rw [← HZZ.out,HPQ.out]
          have hord9:=HP.out.ord
          exact ⟨n',S',rfl,rfl,(HP9.out.1.dataN (eight_data HP9.out.2.2 (.int .i64 n'.vars) (.slice S'.i n'.inputs.length S'.ic) (.slice S'.l n'.latches.length S'.lc) (.slice S'.o n'.outs.length S'.oc) (.slice S'.b n'.bads.length S'.bc) (.slice S'.c n'.cons.length S'.cc) (.slice S'.m n'.mems.length S'.mc) (.slice S'.a n'.ands.length S'.ac))).net,eight_below (HP.out.below.trans (HP9.out.2.1.below HP.out.below.size (by omega) (by omega) (by omega))) (Nat.le_refl _) (.int .i64 n'.vars) (.slice S'.i n'.inputs.length S'.ic) (.slice S'.l n'.latches.length S'.lc) (.slice S'.o n'.outs.length S'.oc) (.slice S'.b n'.bads.length S'.bc) (.slice S'.c n'.cons.length S'.cc) (.slice S'.m n'.mems.length S'.mc) (.slice S'.a n'.ands.length S'.ac)⟩
        case first =>
          go_wp2_with fail
          go_loopg [13] n4 (fun m' s13 wx=>∃ (k:Nat) (l:List PAnd) (t:Ps) (v:Value),k+m'=n4∧s13=.int .i64 k∧l.length≤k∧wx.ownsRow (nb+1) 57 3 v l.length (l.flatMap andCells)∧PQ x y g y xs (f 0) w.heap.size cb nb f w ⟨.slice A1 l1.length c1,.slice A2 l2.length c2,.slice A3 l3.length c3,.slice A5 l5.length c5,.slice A6 l6.length c6,.slice A7 l7.length c7,v⟩ wx t∧X4 wx∧Aside (eachF (Ps.andQ (f 0)) push m' (t,l)=Z4))
          case atStart=>exact ⟨0,[],s8,_,by omega,rfl,Nat.le_refl _,World.ownsRow_nil _ _ _ _,HS7.out.1,HS7.out.2,HZ4.out⟩
          case round =>
            clear HS7 HZ4
            obtain ⟨k,l,t,v,hk,rfl,hl,ho,hP,hXw,HL⟩:=hrel
            generalize gk=m' at *
            obtain ⟨-,b1,-,-,-,-,-⟩:=hP.pat.cells
            have d1:=hP.ccell 4 (by decide)
            rw [← hn4] at d1
            by_cases hlt:k<n4
            · have hltI:(k:Int)<(n4:Int):=by omega
              obtain ⟨m2,rfl⟩:∃ m2,m'=m2+1:=⟨m' - 1,by omega⟩
              cases he:t.e with
              | some z =>
                rw [he] at b1
                have hkz:=hP.pat.kind z he
                obtain ⟨q1,q2⟩:=z
                have hq1:¬ q1=0:=hkz
                unfold fK at b1
                dsimp only at b1
                have HW:=Lib.hid (show wr.ownsRow (nb+1) 57 3 v Z4.2.length (Z4.2.flatMap andCells)∧PQ x y g y xs (f 0) w.heap.size cb nb f w ⟨.slice A1 l1.length c1,.slice A2 l2.length c2,.slice A3 l3.length c3,.slice A5 l5.length c5,.slice A6 l6.length c6,.slice A7 l7.length c7,v⟩ wr Z4.1∧X4 wr from by
                  have hq:(t,l)=Z4:=by rw [← HL.out];exact (eachF_bad (by simp [he]) _).symm
                  rw [← hq]
                  exact ⟨ho,hP,hXw⟩)
                clear ho hP HL he hkz hXw
                go_wp2_with fail
                go_meet
                case rel=>exact ⟨v,HW.out⟩
              | none =>
                rw [he] at b1
                unfold fK at b1
                obtain ⟨⟨dv,t2⟩,e1⟩:∃ X,t.definition (f 0) 1=X:=⟨_,rfl⟩
                obtain ⟨⟨la,t3⟩,e2⟩:∃ X,t2.litsQ (f 0) 2=X:=⟨_,rfl⟩
                obtain ⟨t4,e3⟩:∃ X,t3.expect [10]=X:=⟨_,rfl⟩
                have haq:Ps.andQ (f 0) t=(⟨dv,la.getD 0 0,la.getD 1 0⟩,t4):=by unfold Ps.andQ;rw [e1];dsimp only;rw [e2];dsimp only;rw [e3]
                have HGO:=Lib.hid (fun (h:t4.e=none)=>eachF_next (wf:=Ps.andQ (f 0)) (nx:=push) (s:=(t,l)) he haq h m2)
                have HST:=Lib.hid (fun (h:t4.e.isSome=true)=>eachF_stop (wf:=Ps.andQ (f 0)) (nx:=push) (s:=(t,l)) he haq h m2)
                have HTWO:=Lib.hid (fun (h:t4.e=none)=>litsQ_two e2 (Ps.expect_none (b:=[10]) (by rw [e3];exact h)))
                have HD:=Lib.hid (And.intro hP (And.intro ho hXw))
                have HF:=Lib.hid (e1 ▸ def7_any 1 (by decide) HD.out.1.pat)
                have HLt:=Lib.hid (fun (W:World) (h:RAt x y g y xs true (f 0) W t2) (hg:g<W.heap.size)=>(show qloop (fun t:Ps=>t.nextLiteral (f 0)) 2 ([],t2)=(la,t3) from e2) ▸ lits7_any 2 (by omega) h hg)
                have HE1:=Lib.hid (fun (W:World) (h:RAt x y g y xs true (f 0) W t3)=>e3 ▸ sb_lf ▸ rwant7_any ⟨#[10]⟩ (by decide) h)
                have HLZ:=Lib.hid HL.out
                have hl2:l.length≤1000000:=by omega
                clear ho hP HL he e1 e2 e3 haq hXw
                cases he4:t4.e with
                | some z =>
                  go_wp2_with (first
                    | (go_at_call 43;refine HF.out.mono ?_;clear HF;rintro e w3 ⟨rfl,hP3,hK3⟩;have HD3:=Lib.hid (And.intro (HD.out.1.call hP3 hK3) (And.intro (own_step HD.out.2.1 hK3 hnb1) (HX4.out.kept _ _ hK3 HD.out.2.2)));clear hP3 hK3 HD)
                    | (go_at_call 48;refine (HLt.out _ HD3.out.1.pat (by have:=HD3.out.1.lt;omega)).mono ?_;clear HLt;rintro e w4 ⟨v4,rfl,hO4,hP4,hK4⟩;obtain ⟨A4,c4,rfl,hLP⟩:=LP.of_own (p:=x) (r:=y) (g:=g) hO4 (by have:=HD3.out.1.lt;omega);have HD4:=Lib.hid (And.intro (HD3.out.1.call hP4 hK4) (And.intro (own_step HD3.out.2.1 hK4 hnb1) (And.intro (HX4.out.kept _ _ hK4 HD3.out.2.2) hLP)));clear hP4 hK4 hLP hO4 HD3)
                    | (go_at_call 44;refine (HE1.out _ HD4.out.1.pat).mono ?_;clear HE1;rintro e w5 ⟨rfl,hP5,hK5⟩;have HD5:=Lib.hid (And.intro (HD4.out.1.call hP5 hK5) (And.intro (own_step HD4.out.2.1 hK5 hnb1) (And.intro (HX4.out.kept _ _ hK5 HD4.out.2.2.1) (HD4.out.2.2.2.kept hK5))));clear HD4;have hkz:=hP5.kind z he4;have hz1:¬ z.1=0:=hkz;obtain ⟨-,g1,-,-,-,-,-⟩:=hP5.cells;rw [he4] at g1;unfold fK at g1;dsimp only at g1;clear hP5 hK5 hkz))
                  go_roundg m2
                  case measure=>omega
                  case rel=>exact ⟨k+1,l,t4,v,by omega,by first | rfl | simp,by omega,HD5.out.2.1,HD5.out.1,HD5.out.2.2.1,by rw [eachF_bad (by simp [he4]),← HST.out (by simp [he4])];exact HLZ.out⟩
                | none =>
                  obtain ⟨o1,o2,rfl⟩:=HTWO.out he4
                  go_wp2_with (first
                    | (go_at_call 43;refine HF.out.mono ?_;clear HF;rintro e w3 ⟨rfl,hP3,hK3⟩;have HD3:=Lib.hid (And.intro (HD.out.1.call hP3 hK3) (And.intro (own_step HD.out.2.1 hK3 hnb1) (HX4.out.kept _ _ hK3 HD.out.2.2)));clear hP3 hK3 HD)
                    | (go_at_call 48;refine (HLt.out _ HD3.out.1.pat (by have:=HD3.out.1.lt;omega)).mono ?_;clear HLt;rintro e w4 ⟨v4,rfl,hO4,hP4,hK4⟩;obtain ⟨A4,c4,rfl,hLP⟩:=LP.of_own (p:=x) (r:=y) (g:=g) hO4 (by have:=HD3.out.1.lt;omega);have HD4:=Lib.hid (And.intro (HD3.out.1.call hP4 hK4) (And.intro (own_step HD3.out.2.1 hK4 hnb1) (And.intro (HX4.out.kept _ _ hK4 HD3.out.2.2) hLP)));clear hP4 hK4 hLP hO4 HD3)
                    | (go_at_call 44;refine (HE1.out _ HD4.out.1.pat).mono ?_;clear HE1;rintro e w5 ⟨rfl,hP5,hK5⟩;have HD5:=Lib.hid (And.intro (HD4.out.1.call hP5 hK5) (And.intro (own_step HD4.out.2.1 hK5 hnb1) (And.intro (HX4.out.kept _ _ hK5 HD4.out.2.2.1) (HD4.out.2.2.2.kept hK5))));clear HD4;obtain ⟨-,g1,-,-,-,-,-⟩:=hP5.cells;rw [he4] at g1;unfold fK at g1;obtain ⟨bo,oo,rfl,⟨⟨cs0,hb0⟩,-⟩,hco⟩:=HD5.out.2.2.2.1 (by simp);have hbo:bo<w5.heap.size:=lt_of_row hb0;have q0:w5.cell? ⟨bo,oo,none⟩=some (.int .i64 o1):=(by have:=hco 0 o1 rfl;simpa using this);have q1:w5.cell? ⟨bo,oo+1,none⟩=some (.int .i64 o2):=hco 1 o2 rfl;clear hP5 hK5 hb0 hco))
                  have HD6:=Lib.hid (And.intro HD5.out.1 (And.intro HD5.out.2.1 HD5.out.2.2.1))
                  have v0:w5.cell? ⟨nb,7,none⟩=some v:=HD6.out.1.ncell (j:=7) rfl
                  have hnw5:nb<w5.heap.size:=HD5.out.1.lt
                  have hcn:=cells_new w5 (andCells ⟨dv,o1,o2⟩) 57
                  unfold andCells at hcn
                  have hoa:(w5.alloc (.cells #[.int .i64 dv,.int .i64 o1,.int .i64 o2] 57)).drew.ownsRow (nb+1) 57 3 v l.length (l.flatMap andCells):=HD5.out.2.1.alloc _
                  have HOA:=Lib.hid hoa
                  clear HD5 hoa
                  go_region_law (first
                    | (refine step_append_lies _ rfl (.tmp 134) (.tmp 143) 25 rfl (nb+1) 57 r0 (.agg #[.int .i64 0,.int .i64 0,.int .i64 0]) 3 24 Tryz.underlying25 hr hw0 hw1 hw2 rfl (by decide) v l.length (l.flatMap andCells) (by simp [Act.eval,Act.put]) HOA.out ⟨w5.heap.size,0,none⟩ 1 1 [Value.int .i64 dv,Value.int .i64 o1,Value.int .i64 o2] (by simp [Act.eval,Act.put]) rfl hcn (by simp [Value.oneCell']) (by decide) (by unfold maxLen;omega) (by omega) (by simp;omega) _ rfl ?_;intro gq cap w6 hO6 hgrow hat hgl6;have hoa:=HOA.out;have hD6:=(HD6.out.1.alloc (.cells #[.int .i64 dv,.int .i64 o1,.int .i64 o2] 57)).drew.grown hoa (Nat.lt_succ_self nb) hgrow ⟨hgrow.os,hgrow.tape,hgrow.output⟩;have hX6:=HX4.out.grown hoa hgrow (HX4.out.kept _ _ ((Kept3.refl x y g w5).alloc _).drew HD6.out.2.2);have v6:w6.cell? ⟨nb,7,none⟩=some v:=hD6.ncell (j:=7) rfl;have f6:=hD6.nfree 7;have HD7:=Lib.hid (And.intro (hD6.put (N':=⟨.slice A1 l1.length c1,.slice A2 l2.length c2,.slice A3 l3.length c3,.slice A5 l5.length c5,.slice A6 l6.length c6,.slice A7 l7.length c7,.slice (some ⟨gq,0,none⟩) (l.length+1) cap⟩) 7 (.slice (some ⟨gq,0,none⟩) (l.length+1) cap) rfl) (And.intro (own_set (b:=nb) (j:=7) (u:=.slice (some ⟨gq,0,none⟩) (l.length+1) cap) hO6 (Nat.lt_succ_self _)) (HX4.out.box (j:=7) (v:=.slice (some ⟨gq,0,none⟩) (l.length+1) cap) hD6.net hX6)));clear hD6 hO6 hgrow hat hgl6 hX6 hoa))
                  all_goals
                    go_wp2_with fail
                    go_roundg m2
                    case measure=>omega
                    case rel=>exact ⟨k+1,l++[⟨dv,o1,o2⟩],t4,.slice (some ⟨gq,0,none⟩) (l.length+1) cap,by omega,by first | rfl | simp,by rw [List.length_append,List.length_singleton];omega,by rw [List.length_append,List.flatMap_append];exact HD7.out.2.1,HD7.out.1,HD7.out.2.2,by rw [← HLZ.out];exact (HGO.out he4).symm⟩
            · have hltn:¬ ((k:Int)<(n4:Int)):=by omega
              obtain rfl:m'=0:=by omega
              have HW:=Lib.hid (show wr.ownsRow (nb+1) 57 3 v Z4.2.length (Z4.2.flatMap andCells)∧PQ x y g y xs (f 0) w.heap.size cb nb f w ⟨.slice A1 l1.length c1,.slice A2 l2.length c2,.slice A3 l3.length c3,.slice A5 l5.length c5,.slice A6 l6.length c6,.slice A7 l7.length c7,v⟩ wr Z4.1∧X4 wr from by
                have hq:(t,l)=Z4:=HL.out
                rw [← hq]
                exact ⟨ho,hP,hXw⟩)
              clear ho hP HL b1 hXw
              go_wp2_with fail
              go_meet
              case rel=>exact ⟨v,HW.out⟩
      case first =>
        go_wp2_with fail
        go_loopg [12] n7 (fun m' s12 wx=>∃ (k:Nat) (ms:List GM) (t:Ps) (v:Value),k+m'=n7∧s12=.int .i64 k∧ms.length≤k∧wx.ownsRow (nb+1) 54 5 v ms.length (ms.flatMap gmCells)∧(∀ z∈ms,GMAt x y g wx z)∧PQ x y g y xs (f 0) w.heap.size cb nb f w ⟨.slice A1 l1.length c1,.slice A2 l2.length c2,.slice A3 l3.length c3,.slice A5 l5.length c5,.slice A6 l6.length c6,v,.slice none 0 0⟩ wx t∧Y wx∧Aside (qloop (Ps.memQ (f 0)) m' (ms.map (·.m),t)=Z3))
        case atStart=>exact ⟨0,[],s7,_,by omega,rfl,Nat.le_refl _,World.ownsRow_nil _ _ _ _,fun z hz=>(by cases hz),HS6.out.1,HS6.out.2,HZ3.out⟩
        case round =>
          clear HS6 HZ3
          obtain ⟨k,ms,t,v,hk,rfl,hl,ho,hms,hP,hYw,HL⟩:=hrel
          generalize gk=m' at *
          obtain ⟨-,b1,-,-,-,-,-⟩:=hP.pat.cells
          have d1:=hP.ccell 7 (by decide)
          rw [← hn7] at d1
          by_cases hlt:k<n7
          · have hltI:(k:Int)<(n7:Int):=by omega
            obtain ⟨m2,rfl⟩:∃ m2,m'=m2+1:=⟨m' - 1,by omega⟩
            cases he:t.e with
            | some z =>
              rw [he] at b1
              have hkz:=hP.pat.kind z he
              obtain ⟨q1,q2⟩:=z
              have hq1:¬ q1=0:=hkz
              unfold fK at b1
              dsimp only at b1
              have HW:=Lib.hid (show ms.map (·.m)=Z3.1∧wr.ownsRow (nb+1) 54 5 v ms.length (ms.flatMap gmCells)∧(∀ z∈ms,GMAt x y g wr z)∧PQ x y g y xs (f 0) w.heap.size cb nb f w ⟨.slice A1 l1.length c1,.slice A2 l2.length c2,.slice A3 l3.length c3,.slice A5 l5.length c5,.slice A6 l6.length c6,v,.slice none 0 0⟩ wr Z3.2∧Y wr from by
                have hq:(ms.map (·.m),t)=Z3:=by rw [← HL.out];exact (qloop_bad (by simp [he]) _).symm
                rw [← hq]
                exact ⟨rfl,ho,hms,hP,hYw⟩)
              clear ho hP HL he hkz hYw hms
              go_wp2_with fail
              go_meet
              case rel=>exact ⟨ms,v,HW.out⟩
            | none =>
              rw [he] at b1
              unfold fK at b1
              obtain ⟨⟨mm',t4⟩,e3⟩:∃ X,Ps.memQ (f 0) t=X:=⟨_,rfl⟩
              have HQ4:=Lib.hid (show qloop (Ps.memQ (f 0)) m2 (ms.map (·.m)++[mm'],t4)=Z3 from by rw [← HL.out,qloop_go he,e3])
              have HD5:=Lib.hid (show PQ x y g y xs (f 0) w.heap.size cb nb f w ⟨.slice A1 l1.length c1,.slice A2 l2.length c2,.slice A3 l3.length c3,.slice A5 l5.length c5,.slice A6 l6.length c6,v,.slice none 0 0⟩ wr.drew t∧wr.drew.ownsRow (nb+1) 54 5 v ms.length (ms.flatMap gmCells)∧Y wr.drew∧(∀ z∈ms,GMAt x y g wr.drew z) from ⟨hP.drew,ho,HYT.out.kept _ _ (Kept3.refl x y g wr).drew hYw,fun z hz=>(hms z hz).kept (Kept3.refl x y g wr).drew⟩)
              have v0:wr.drew.cell? ⟨nb,6,none⟩=some v:=HD5.out.1.ncell (j:=6) rfl
              have HF5:=Lib.hid (e3 ▸ memory7_any HD5.out.1.pat)
              have hnw4:nb<wr.heap.size:=hP.lt
              have hl2:ms.length≤1000000:=by omega
              clear ho hP HL he e3 hYw hms
              go_wp2_with fail
              go_region_law (first
                | (go_simp;go_at_call 47;refine HF5.out.mono ?_;clear HF5;rintro e w5 ⟨ga,gc,ga2,gc2,rfl,hgm,hP5,hK5⟩;have HD6:=Lib.hid (And.intro (HD5.out.1.call hP5 hK5) (And.intro (own_step HD5.out.2.1 hK5 hnb1) (And.intro (HYT.out.kept _ _ hK5 HD5.out.2.2.1) (And.intro (fun z (hz:z∈ms)=>(HD5.out.2.2.2 z hz).kept hK5) (show GMAt x y g w5 ⟨mm',ga,gc,ga2,gc2⟩ from hgm)))));have v3:w5.cell? ⟨nb,6,none⟩=some v:=HD6.out.1.ncell (j:=6) rfl;have hnw5:nb<w5.heap.size:=HD6.out.1.lt;have hcn:=cells_new w5 (gmCells ⟨mm',ga,gc,ga2,gc2⟩) 54;unfold gmCells at hcn;clear hP5 hK5 hgm)
                | (refine step_append_lies _ rfl (.tmp 103) (.tmp 106) 24 rfl (nb+1) 54 p0 (.agg #[.int .i64 0,.int .i64 0,.bool false,.slice none 0 0,.slice none 0 0]) 5 72 Tryz.underlying24 hp hv0 hv1 hv2 rfl (by decide) v ms.length (ms.flatMap gmCells) (by simp [Act.eval,Act.put]) (HD6.out.2.1.alloc _) ⟨w5.heap.size,0,none⟩ 1 1 [Value.int .i64 mm'.ma,Value.int .i64 mm'.mw,Value.bool mm'.mn,Value.slice ga mm'.mr.length gc,Value.slice ga2 mm'.mx.length gc2] (by simp [Act.eval,Act.put]) rfl hcn (by simp [Value.oneCell']) (by decide) (by unfold maxLen;omega) (by omega) (by simp;omega) _ rfl ?_;intro gq cap w6 hO6 hgrow hat hgl6;have HD7:=Lib.hid (mem_put (j:=6) (N':=⟨.slice A1 l1.length c1,.slice A2 l2.length c2,.slice A3 l3.length c3,.slice A5 l5.length c5,.slice A6 l6.length c6,.slice (some ⟨gq,0,none⟩) (ms.length+1) cap,.slice none 0 0⟩) HYT.out HD6.out.1 HD6.out.2.1 HD6.out.2.2.1 HD6.out.2.2.2.1 HD6.out.2.2.2.2 hgrow hO6 rfl);have v6:w6.cell? ⟨nb,6,none⟩=some v:=HD7.out.1.trans v3;have f6:=HD7.out.2.1;clear hO6 hgrow hat hgl6))
              all_goals
                go_wp2_with fail
                go_roundg m2
                case measure=>omega
                case rel=>exact ⟨k+1,ms++[⟨mm',ga,gc,ga2,gc2⟩],t4,.slice (some ⟨gq,0,none⟩) (ms.length+1) cap,by omega,by first | rfl | simp,by rw [List.length_append,List.length_singleton];omega,by rw [List.length_append,List.flatMap_append];exact HD7.out.2.2.2.1,HD7.out.2.2.2.2.2,HD7.out.2.2.1,HD7.out.2.2.2.2.1,by rw [List.map_append];exact HQ4.out⟩
          · have hltn:¬ ((k:Int)<(n7:Int)):=by omega
            obtain rfl:m'=0:=by omega
            have HW:=Lib.hid (show ms.map (·.m)=Z3.1∧wr.ownsRow (nb+1) 54 5 v ms.length (ms.flatMap gmCells)∧(∀ z∈ms,GMAt x y g wr z)∧PQ x y g y xs (f 0) w.heap.size cb nb f w ⟨.slice A1 l1.length c1,.slice A2 l2.length c2,.slice A3 l3.length c3,.slice A5 l5.length c5,.slice A6 l6.length c6,v,.slice none 0 0⟩ wr Z3.2∧Y wr from by
              have hq:(ms.map (·.m),t)=Z3:=HL.out
              rw [← hq]
              exact ⟨rfl,ho,hms,hP,hYw⟩)
            clear ho hP HL b1 hYw hms
            go_wp2_with fail
            go_meet
            case rel=>exact ⟨ms,v,HW.out⟩
    case first =>
      go_wp2_with fail
      go_loopg [10] n2 (fun m' s10 wx=>∃ (k:Nat) (l:List PLatch) (t:Ps) (v:Value),k+m'=n2∧s10=.int .i64 k∧l.length≤k∧wx.ownsRow (nb+1) 48 3 v l.length (l.flatMap latchCells)∧PQ x y g y xs (f 0) w.heap.size cb nb f w ⟨.slice A1 l1.length c1,v,.slice none 0 0,.slice none 0 0,.slice none 0 0,.slice none 0 0,.slice none 0 0⟩ wx t∧X wx∧Aside (qloop (Ps.latchQ (f 0)) m' (l,t)=Z2))
      case atStart=>exact ⟨0,[],s3,_,by omega,rfl,Nat.le_refl _,World.ownsRow_nil _ _ _ _,HS.out.1,HS.out.2,HZ2.out⟩
      case round =>
        clear HS HZ2
        obtain ⟨k,l,t,v,hk,rfl,hl,ho,hP,hXw,HL⟩:=hrel
        generalize gk=m' at *
        obtain ⟨-,b1,-,-,-,-,-⟩:=hP.pat.cells
        have d1:=hP.ccell 2 (by decide)
        rw [← hn2] at d1
        by_cases hlt:k<n2
        · have hltI:(k:Int)<(n2:Int):=by omega
          obtain ⟨m2,rfl⟩:∃ m2,m'=m2+1:=⟨m' - 1,by omega⟩
          cases he:t.e with
          | some z =>
            rw [he] at b1
            have hkz:=hP.pat.kind z he
            obtain ⟨q1,q2⟩:=z
            have hq1:¬ q1=0:=hkz
            unfold fK at b1
            dsimp only at b1
            have HW:=Lib.hid (show wr.ownsRow (nb+1) 48 3 v Z2.1.length (Z2.1.flatMap latchCells)∧PQ x y g y xs (f 0) w.heap.size cb nb f w ⟨.slice A1 l1.length c1,v,.slice none 0 0,.slice none 0 0,.slice none 0 0,.slice none 0 0,.slice none 0 0⟩ wr Z2.2∧X wr from by
              have hq:(l,t)=Z2:=by rw [← HL.out];exact (qloop_bad (by simp [he]) _).symm
              rw [← hq]
              exact ⟨ho,hP,hXw⟩)
            clear ho hP HL he hkz hXw
            go_wp2_with fail
            go_meet
            case rel=>exact ⟨v,HW.out.1,HW.out.2⟩
          | none =>
            rw [he] at b1
            unfold fK at b1
            have hdr:=Ps.definition_in (f 0) 1 t hP.pat.vars.1
            have hV2:=hP.pat.vars.2
            obtain ⟨⟨dv,t2⟩,e1⟩:∃ X,t.definition (f 0) 1=X:=⟨_,rfl⟩
            rw [e1] at hdr
            obtain ⟨⟨la,t4⟩,e3⟩:∃ X,Ps.ln (fun u=>u.latchV (f 0) dv) (t2.expect [32])=X:=⟨_,rfl⟩
            have HQ4:=Lib.hid (show qloop (Ps.latchQ (f 0)) m2 (l++[la],t4)=Z2 from by
              rw [← HL.out,qloop_go he]
              unfold Ps.latchQ
              rw [e1]
              dsimp only
              rw [e3])
            have HD:=Lib.hid (And.intro hP (And.intro ho hXw))
            have HF:=Lib.hid (e1 ▸ def7_any 1 (by decide) HD.out.1.pat)
            have HE1:=Lib.hid (fun (W:World) (h:RAt x y g y xs true (f 0) W t2)=>sb_space ▸ rwant7_any ⟨#[32]⟩ (by decide) h)
            have HLt:=Lib.hid (fun (W:World) (h:RAt x y g y xs true (f 0) W (t2.expect [32])) (hg:g<W.heap.size)=>e3 ▸ latch7_any dv hdr.1 (by have:=hdr.2;dsimp only at this;omega) h hg)
            have hl2:l.length≤1000000:=by omega
            clear ho hP HL he e1 e3 hdr hXw
            go_wp2_with (first
              | (go_at_call 43;refine HF.out.mono ?_;clear HF;rintro e w3 ⟨rfl,hP3,hK3⟩;have HD3:=Lib.hid (And.intro (HD.out.1.call hP3 hK3) (And.intro (own_step HD.out.2.1 hK3 hnb1) (HX.out.kept _ _ hK3 HD.out.2.2)));clear hP3 hK3 HD)
              | (go_at_call 44;refine (HE1.out _ HD3.out.1.pat).mono ?_;clear HE1;rintro e w4 ⟨rfl,hP4,hK4⟩;have HD4:=Lib.hid (And.intro (HD3.out.1.call hP4 hK4) (And.intro (own_step HD3.out.2.1 hK4 hnb1) (HX.out.kept _ _ hK4 HD3.out.2.2)));clear hP4 hK4 HD3))
            have HD5:=Lib.hid (show PQ x y g y xs (f 0) w.heap.size cb nb f w _ w4.drew (t2.expect [32])∧w4.drew.ownsRow (nb+1) 48 3 v l.length (l.flatMap latchCells)∧X w4.drew from ⟨HD4.out.1.drew,HD4.out.2.1,HX.out.kept _ _ (Kept3.refl x y g w4).drew HD4.out.2.2⟩)
            have v0:w4.drew.cell? ⟨nb,2,none⟩=some v:=HD5.out.1.ncell (j:=2) rfl
            have HF5:=Lib.hid (HLt.out _ HD5.out.1.pat (by have:=HD5.out.1.lt;omega))
            have hnw4:nb<w4.heap.size:=HD4.out.1.lt
            clear HD4 HLt
            go_region_law (first
              | (go_simp;go_at_call 45;refine HF5.out.mono ?_;clear HF5;rintro e w5 ⟨rfl,hP5,hK5⟩;have HD6:=Lib.hid (And.intro (HD5.out.1.call hP5 hK5) (And.intro (own_step HD5.out.2.1 hK5 hnb1) (HX.out.kept _ _ hK5 HD5.out.2.2)));have v3:w5.cell? ⟨nb,2,none⟩=some v:=HD6.out.1.ncell (j:=2) rfl;have hnw5:nb<w5.heap.size:=HD6.out.1.lt;have hcn:=cells_new w5 (latchCells la) 48;unfold latchCells at hcn;clear hP5 hK5)
              | (refine step_append_lies _ rfl (.tmp 67) (.tmp 71) 23 rfl (nb+1) 48 j0 (.agg #[.int .i64 0,.int .i64 0,.int .i64 0]) 3 24 Tryz.underlying23 hj hy0 hy1 hy2 rfl (by decide) v l.length (l.flatMap latchCells) (by simp [Act.eval,Act.put]) (HD6.out.2.1.alloc _) ⟨w5.heap.size,0,none⟩ 1 1 [Value.int .i64 la.lv,Value.int .i64 la.ln,Value.int .i64 la.li] (by simp [Act.eval,Act.put]) rfl hcn (by simp [Value.oneCell']) (by decide) (by unfold maxLen;omega) (by omega) (by simp;omega) _ rfl ?_;intro gq cap w6 hO6 hgrow hat hgl6;have hoa:=HD6.out.2.1.alloc (.cells #[.int .i64 la.lv,.int .i64 la.ln,.int .i64 la.li] 48);have hD6:=(HD6.out.1.alloc (.cells #[.int .i64 la.lv,.int .i64 la.ln,.int .i64 la.li] 48)).grown hoa (Nat.lt_succ_self nb) hgrow ⟨hgrow.os,hgrow.tape,hgrow.output⟩;have hX6:=HX.out.grown hoa hgrow (HX.out.kept _ _ ((Kept3.refl x y g w5).alloc _) HD6.out.2.2);have v6:w6.cell? ⟨nb,2,none⟩=some v:=hD6.ncell (j:=2) rfl;have f6:=hD6.nfree 2;have HD7:=Lib.hid (And.intro (hD6.put (N':=⟨.slice A1 l1.length c1,.slice (some ⟨gq,0,none⟩) (l.length+1) cap,.slice none 0 0,.slice none 0 0,.slice none 0 0,.slice none 0 0,.slice none 0 0⟩) 2 (.slice (some ⟨gq,0,none⟩) (l.length+1) cap) rfl) (And.intro (own_set (b:=nb) (j:=2) (u:=.slice (some ⟨gq,0,none⟩) (l.length+1) cap) hO6 (Nat.lt_succ_self _)) (HX.out.box (j:=2) (v:=.slice (some ⟨gq,0,none⟩) (l.length+1) cap) hD6.net hX6)));clear hD6 hO6 hgrow hat hgl6 hX6 hoa))
            all_goals
              go_wp2_with fail
              go_roundg m2
              case measure=>omega
              case rel=>exact ⟨k+1,l++[la],t4,.slice (some ⟨gq,0,none⟩) (l.length+1) cap,by omega,by first | rfl | simp,by rw [List.length_append,List.length_singleton];omega,by rw [List.length_append,List.flatMap_append];exact HD7.out.2.1,HD7.out.1,HD7.out.2.2,HQ4.out⟩
        · have hltn:¬ ((k:Int)<(n2:Int)):=by omega
          obtain rfl:m'=0:=by omega
          have HW:=Lib.hid (show wr.ownsRow (nb+1) 48 3 v Z2.1.length (Z2.1.flatMap latchCells)∧PQ x y g y xs (f 0) w.heap.size cb nb f w ⟨.slice A1 l1.length c1,v,.slice none 0 0,.slice none 0 0,.slice none 0 0,.slice none 0 0,.slice none 0 0⟩ wr Z2.2∧X wr from by
            have hq:(l,t)=Z2:=HL.out
            rw [← hq]
            exact ⟨ho,hP,hXw⟩)
          clear ho hP HL b1 hXw
          go_wp2_with fail
          go_meet
          case rel=>exact ⟨v,HW.out.1,HW.out.2⟩
  case first =>
   go_wp2_with fail
   go_loopg [9] n1 (fun m' s9 wx=>∃ (k:Nat) (l:List Int) (t:Ps) (v:Value),k+m'=n1∧s9=.int .i64 k∧l.length≤k∧wx.ownsRow (nb+1) 3 1 v l.length (l.map (Value.int .i64))∧PQ x y g y xs (f 0) w.heap.size cb nb f w ⟨v,.slice none 0 0,.slice none 0 0,.slice none 0 0,.slice none 0 0,.slice none 0 0,.slice none 0 0⟩ wx t∧Aside (qloop (Ps.inputQ (f 0)) m' (l,t)=Z))
   case atStart=>exact ⟨0,[],s2,_,by omega,rfl,Nat.le_refl _,World.ownsRow_nil _ _ _ _,HQ.out,HZ.out⟩
   case round =>
     clear HQ HZ
     obtain ⟨k,l,t,v,hk,rfl,hl,ho,hP,HL⟩:=hrel
     generalize gk=m' at *
     obtain ⟨-,c1,-,-,-,-,-⟩:=hP.pat.cells
     have d1:=hP.ccell 1 (by decide)
     rw [← hn1] at d1
     by_cases hlt:k<n1
     · have hltI:(k:Int)<(n1:Int):=by omega
       obtain ⟨m2,rfl⟩:∃ m2,m'=m2+1:=⟨m' - 1,by omega⟩
       cases he:t.e with
       | some z =>
           rw [he] at c1
           have hkz:=hP.pat.kind z he
           obtain ⟨q1,q2⟩:=z
           have hq1:¬ q1=0:=hkz
           unfold fK at c1
           dsimp only at c1
           have HX:=Lib.hid (show wr.ownsRow (nb+1) 3 1 v Z.1.length (Z.1.map (Value.int .i64))∧PQ x y g y xs (f 0) w.heap.size cb nb f w ⟨v,.slice none 0 0,.slice none 0 0,.slice none 0 0,.slice none 0 0,.slice none 0 0,.slice none 0 0⟩ wr Z.2 from by
             have hq:(l,t)=Z:=by rw [← HL.out];exact (qloop_bad (by simp [he]) _).symm
             rw [← hq]
             exact ⟨ho,hP⟩)
           clear ho hP HL he hkz
           go_wp2_with fail
           go_meet
           case rel=>exact ⟨v,HX.out.1,HX.out.2⟩
       | none =>
         rw [he] at c1
         unfold fK at c1
         obtain ⟨⟨dv,t2⟩,e1⟩:∃ X,t.definition (f 0) 1=X:=⟨_,rfl⟩
         have HQ4:=Lib.hid (show qloop (Ps.inputQ (f 0)) m2 (l++[dv],t2.expect [10])=Z from by
           rw [← HL.out,qloop_go he]
           unfold Ps.inputQ
           rw [e1])
         have HD:=Lib.hid (hP.drew)
         have HO:=Lib.hid (show wr.drew.ownsRow (nb+1) 3 1 v l.length (l.map (Value.int .i64)) from ho)
         have HF:=Lib.hid (e1 ▸ def7_any 1 (by decide) HD.out.pat)
         have HE1:=Lib.hid (fun (W:World) (h:RAt x y g y xs true (f 0) W t2)=>sb_lf ▸ rwant7_any ⟨#[10]⟩ (by decide) h)
         have HS0:=Lib.hid (show wr.drew.cell? ⟨nb,1,none⟩=some v from HD.out.ncell (j:=1) rfl)
         have hnw:nb<wr.heap.size:=hP.lt
         have hl2:l.length≤1000000:=by omega
         clear ho hP HL he e1
         go_wp2_with fail
         have v0:=HS0.out
         go_region_law (first
             | (go_simp;go_at_call 43;refine HF.out.mono ?_;clear HF;rintro e w3 ⟨rfl,hP3,hK3⟩;have HD3:=Lib.hid (HD.out.call hP3 hK3);have HO3:=Lib.hid (own_step HO.out hK3 ⟨by omega,by omega,by omega⟩);have v3:w3.cell? ⟨nb,1,none⟩=some v:=HD3.out.ncell (j:=1) rfl;have hnw3:nb<w3.heap.size:=HD3.out.lt;clear hP3 hK3)
             | (refine step_append_lies _ rfl (.tmp 41) (.tmp 44) 22 rfl (nb+1) 3 i0 (.int .i64 0) 1 8 Tryz.underlying22 hi hz0 hz1 hz2 rfl (by decide) v l.length (l.map (Value.int .i64)) (by simp [Act.eval,Act.put]) (HO3.out.alloc _) ⟨w3.heap.size,0,none⟩ 1 1 [Value.int .i64 dv] (by simp [Act.eval,Act.put]) rfl (cell_one_new _ _ _) (by simp [Value.oneCell']) (by decide) (by unfold maxLen;omega) (by omega) (by have:=HD3.out.lt;simp;omega) _ rfl ?_;intro gq cap w6 hO6 hgrow hat hgl6;have hD6:=(HD3.out.alloc (.cells #[.int .i64 dv] 3)).grown (HO3.out.alloc _) (Nat.lt_succ_self nb) hgrow ⟨hgrow.os,hgrow.tape,hgrow.output⟩;have v6:w6.cell? ⟨nb,1,none⟩=some v:=hD6.ncell (j:=1) rfl;have f6:=hD6.nfree 1;have HD7:=Lib.hid (And.intro (hD6.put (N':=⟨.slice (some ⟨gq,0,none⟩) (l.length+1) cap,.slice none 0 0,.slice none 0 0,.slice none 0 0,.slice none 0 0,.slice none 0 0,.slice none 0 0⟩) 1 (.slice (some ⟨gq,0,none⟩) (l.length+1) cap) rfl) (own_set (b:=nb) (j:=1) (u:=.slice (some ⟨gq,0,none⟩) (l.length+1) cap) hO6 (Nat.lt_succ_self _)));clear hD6 hO6 hgrow hat hgl6))
         all_goals
           go_wp2_with (go_at_call 44;refine (HE1.out _ HD7.out.1.pat).mono ?_;rintro e w8 ⟨rfl,hP8,hK8⟩;have HD8:=Lib.hid (And.intro (HD7.out.1.call hP8 hK8) (own_step HD7.out.2 hK8 ⟨by omega,by omega,by omega⟩));clear hP8 hK8)
           go_roundg m2
           case measure=>omega
           case rel=>exact ⟨k+1,l++[dv],t2.expect [10],.slice (some ⟨gq,0,none⟩) (l.length+1) cap,by omega,by first | rfl | simp,by rw [List.length_append,List.length_singleton];omega,by rw [List.length_append,List.map_append];exact HD8.out.2,HD8.out.1,HQ4.out⟩
     · have hltn:¬ ((k:Int)<(n1:Int)):=by omega
       obtain rfl:m'=0:=by omega
       have HX:=Lib.hid (show wr.ownsRow (nb+1) 3 1 v Z.1.length (Z.1.map (Value.int .i64))∧PQ x y g y xs (f 0) w.heap.size cb nb f w ⟨v,.slice none 0 0,.slice none 0 0,.slice none 0 0,.slice none 0 0,.slice none 0 0,.slice none 0 0⟩ wr Z.2 from by
         have hq:(l,t)=Z:=HL.out
         rw [← hq]
         exact ⟨ho,hP⟩)
       clear ho hP HL c1
       go_wp2_with fail
       go_meet
       case rel=>exact ⟨v,HX.out.1,HX.out.2⟩
end
end Go.Proofs.YtldnepogjnahfaaGreatDoor
