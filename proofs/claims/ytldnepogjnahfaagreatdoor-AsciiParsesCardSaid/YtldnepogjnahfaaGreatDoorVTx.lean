/- Contracts of scan.New and of layout.New (conditions: the bytes can be read; at most 400000 of them); Told by contract: what was read, or why it is refused (conditions: the parser lies in memory); The range over the first line by contract (conditions: the parser lies in memory as it is made; at most 400000 bytes; the words of the first line keep to their contract); The first line of a text, and what its counts are, by contract (conditions: the parser lies in memory as it is made; at most 400000 bytes). -/
import Derived.Test.YtldnepogjnahfaaGreatDoorVPRest0
import Derived.Test.YtldnepogjnahfaaGreatDoorVShelf
import Derived.RangeFuncNested
import Derived.RangeFuncBound
import Derived.RangeFuncCalls
import Derived.RangeFuncLeaves
import Derived.Shelf.Abstract
import Derived.Shelf.RegionOpen
import Derived.WalkKit
import Derived.OwnWalkIn
import Derived.TacticsInMore
import Derived.LoopNIn
import Derived.LoopIn
import Derived.Sort.LoopGhostIn
import Derived.Test.YtldnepogjnahfaaGreatDoorVPEnd
set_option linter.unusedVariables false
namespace Go.Proofs.YtldnepogjnahfaaGreatDoor
open Go.ChangeShapes Go.WideShapes Go.RowKit
def Made (w:World) (xs:List Int) (e:Ending) (w':World):Prop:=∃ r,e=.returned (.pointer (some ⟨r,0,none⟩))∧w.heap.size≤r∧Sc.Rd w' r xs 0∧Below w.heap.size w w'
theorem made_of {w w1:World} {xs:List Int} {a:Option Addr} {c:Nat} (hb:Below w.heap.size w w1) (hn:xs.length≤400000) (h1:xs.length≤c) (h2:c≤9223372036854775807) (hs:Sc.Src w1 w1.heap.size a xs) :
    Made w xs (.returned (.pointer (some ⟨w1.heap.size,0,none⟩))) (w1.alloc (.cells #[.slice a xs.length c,.int .i64 0] 170)):=by
  refine ⟨w1.heap.size,rfl,hb.size,⟨a,c,by rw [heap_alloc_new];rfl,h1,h2,by omega,by omega,?_⟩,hb.alloc hb.size _⟩
  exact hs.keep (r:=w1.heap.size) (fun k hk _=>Below.heap_alloc _ _ _ hk) (by simp) (Nat.le_refl _)
theorem bytes_own {w:World} {base n c:Nat} {A:Option Addr} {xs:List Int} (h:w.ownsRow base 5 1 (.slice A n c) n (xs.map (Value.int .u8))):Sc.Src w w.heap.size A xs∧n≤c∧c≤9223372036854775807:=by
  have hl:xs.length=n:=by simpa using h.1
  rcases h.2 with ⟨h1,h2⟩ | ⟨g,cap,cur,hv,hb,hg,hnc,hcm,hs,ht⟩
  · injection h1 with e1 e2 e3
    subst e3
    subst h2
    exact ⟨fun hne=>absurd (List.eq_nil_of_length_eq_zero hl) hne,by omega,by omega⟩
  · injection hv with e1 e2 e3
    subst e1
    subst e3
    have hgl:g<w.heap.size:=lt_of_row hg
    refine ⟨fun _=>⟨g,0,rfl,hgl,hgl,fun j hj=>?_⟩,hnc,by unfold maxLen at hcm;omega⟩
    rw [Nat.zero_add,h.cellAt j (by omega),List.getElem?_map,List.getElem?_eq_getElem hj]
    simp [List.getD,List.getElem?_eq_getElem hj]
theorem New_at (a:Addr) (c:Nat) (xs:List Int) (w:World) (hn:xs.length≤400000) (hc:∀ i,i<xs.length→w.cell? (a.add i)=some (.int .u8 (xs.getD i 0))) :
    Calls Tryz.prog 75 #[.slice (some a) xs.length c] w (Made w xs):=by
  have h1:=Lib.hid (Tryz.bytes_Clone_at a xs.length c xs w rfl (by omega) hc)
  clear hc
  go_enter Tryz.func75,Tryz.ntmps75
  go_wp2_with fail
  refine h1.out.mono ?_
  rintro e w1 ⟨v,rfl,hown,hne,hb⟩
  obtain ⟨A,c',rfl⟩:∃ A c',v=.slice A xs.length c':=by
    rcases hown.2 with ⟨h,_⟩ | ⟨g,cap,cur,hv,_⟩
    · exact absurd h hne
    · exact ⟨_,_,hv⟩
  have hs:=bytes_own hown
  have HS:=Lib.hid (And.intro hb hs)
  clear hown hne hb hs
  go_wp2_with fail
  go_ret
  exact made_of HS.out.1 hn HS.out.2.2.1 HS.out.2.2.2 HS.out.2.1
theorem New_nil (c:Nat) (w:World):Calls Tryz.prog 75 #[.slice none 0 c] w (Made w []):=by
  have h1:=Lib.hid (Tryz.bytes_Clone_nil 0 c w)
  go_enter Tryz.func75,Tryz.ntmps75
  go_wp2_with fail
  refine h1.out.mono ?_
  rintro e w1 ⟨rfl,hw⟩
  have hw2:=hw.symm
  subst hw2
  go_wp2_with fail
  go_ret
  exact made_of (Below.refl _ _) (by simp) (by simp) (by omega) (fun h=>absurd rfl h)
theorem New_any (a:Option Addr) (c:Nat) (xs:List Int) (w:World) (hn:xs.length≤400000) (h0:a=none→xs=[]) (hc:∀ q,a=some q→∀ i,i<xs.length→w.cell? (q.add i)=some (.int .u8 (xs.getD i 0))) :
    Calls Tryz.prog 75 #[.slice a xs.length c] w (Made w xs):=by
  cases a with
  | none =>
    have:=h0 rfl
    subst this
    exact New_nil c w
  | some q=>exact New_at q c xs w hn (hc q rfl)
def Ps.begun (xs:List Int):Ps:={ l:=xs,i:=0,e:=none,seen:=[] }
def Begun (w:World) (xs:List Int) (e:Ending) (w':World):Prop:=∃ p r,e=.returned (.pointer (some ⟨p,0,none⟩))∧(w.heap.size≤r∧r<p)∧w'.heap[p]?=some (.cells (prow r 0 (NCof S0 (n0 0)) .nilIface) 118 (0,0))∧Sc.Rd w' r xs 0∧Below w.heap.size w w'
theorem newParser_any (a:Option Addr) (c:Nat) (xs:List Int) (w:World) (hn:xs.length≤400000) (h0:a=none→xs=[]) (hc:∀ q,a=some q→∀ i,i<xs.length→w.cell? (q.add i)=some (.int .u8 (xs.getD i 0))) :
    Calls Tryz.prog 38 #[.slice a xs.length c] w (Begun w xs):=by
  have h1:=Lib.hid (New_any a c xs w hn h0 hc)
  clear h0 hc
  go_enter Tryz.func38,Tryz.ntmps38
  go_wp2_with fail
  refine h1.out.mono ?_
  rintro e w1 ⟨r,rfl,hr,hR,hB⟩
  have H:=Lib.hid (And.intro hr (And.intro hR hB))
  clear hr hR hB
  go_wp2_with fail
  go_ret
  obtain ⟨hr,hR,hB⟩:=H.out
  have h2:Below w1.heap.size w1 (w1.alloc (.cells (prow r 0 (NCof S0 (n0 0)) .nilIface) 118)):=(Below.refl _ w1).alloc (Nat.le_refl _) _
  obtain ⟨cs,hrow⟩:=rd_row hR
  exact ⟨w1.heap.size,r,rfl,⟨hr,lt_of_row hrow⟩,heap_alloc_new w1 _,hR.below h2,hB.trans (h2.mono hB.size)⟩
theorem begun_text {w w':World} {xs:List Int} {p r:Nat} (hL:Fa.Laid w) (hb:∀ x∈xs,0≤x∧x<256) (hn:xs.length≤400000) (ho:w.heap.size≤r∧r<p) (hp:w'.heap[p]?=some (.cells (prow r 0 (NCof S0 (n0 0)) .nilIface) 118 (0,0))) (hR:Sc.Rd w' r xs 0) (hB:Below w.heap.size w w') :
    PAt 1 p r w'.heap.size (bareE w'.heap.size p) 0 (NCof S0 (n0 0)) (w'.alloc (.cells #[.pointer (some ⟨p,0,none⟩),.slice none 0 0] 66)) (Ps.begun xs):=by
  have h2:Below w'.heap.size w' (w'.alloc (.cells #[.pointer (some ⟨p,0,none⟩),.slice none 0 0] 66)):=(Below.refl _ w').alloc (Nat.le_refl _) _
  have hpl:=lt_of_row hp
  have hpos:=hL.pos
  refine ⟨⟨.nilIface,(h2.block p hpl).trans hp,rfl⟩,hR.below h2,⟨heap_alloc_new w' _,rfl⟩,(hL.below hB hL.pos).below h2 (by have:=hB.size;omega),by show 0+xs.length≤400000;omega,hb,bareE_ok ⟨by omega,ho.2,hpl⟩,by show w'.heap.size+1≤_;simp,by decide,by decide⟩
set_option linter.unusedSimpArgs false
def told (n:PNet) (s:Ps):PNet × Int × Int:=match s.e with
  | some y=>(n0 0,y.2,y.1)
  | none=>(n,0,0)
def ToldLeft (p r g:Nat) (w:World) (y:PNet × Int × Int) (e:Ending) (w':World):Prop :=
  ∃ (n:PNet) (S:NetS),n=y.1∧e=.returned (.tuple #[.agg #[.int .i64 n.vars,.slice S.i n.inputs.length S.ic,.slice S.l n.latches.length S.lc,.slice S.o n.outs.length S.oc,.slice S.b n.bads.length S.bc,.slice S.c n.cons.length S.cc,.slice S.m n.mems.length S.mc,.slice S.a n.ands.length S.ac],.int .i64 y.2.1,.int .i64 y.2.2])∧NAt p r g w' S n∧Below w.heap.size w w'
theorem add_block (q:Addr) (i:Nat):(q.add i).block=q.block:=by
  unfold Addr.add
  first | rfl | (split <;> rfl)
theorem eight_cells {w:World} {q:Nat} {u0 u1 u2 u3 u4 u5 u6 u7:Value} (h:w.heap[q]?=some (.cells #[u0,u1,u2,u3,u4,u5,u6,u7] 27 (0,0))):(w.cell? ⟨q,0,none⟩=some u0∧w.cell? ⟨q,1,none⟩=some u1∧w.cell? ⟨q,2,none⟩=some u2∧w.cell? ⟨q,3,none⟩=some u3∧w.cell? ⟨q,4,none⟩=some u4∧w.cell? ⟨q,5,none⟩=some u5∧w.cell? ⟨q,6,none⟩=some u6∧w.cell? ⟨q,7,none⟩=some u7)∧∀ j,w.frozen? ⟨q,j,none⟩=false:=by
  refine ⟨⟨?_,?_,?_,?_,?_,?_,?_,?_⟩,fun j=>frozen_of_row _ _ _ _ _ h⟩
  all_goals rw [cell_of_row _ _ _ _ _ _ h];rfl
theorem eight_put {w:World} {q:Nat} {u0 u1 u2 u3 u4 u5 u6 u7:Value} (h:w.heap[q]?=some (.cells #[u0,u1,u2,u3,u4,u5,u6,u7] 27 (0,0))) (v0 v1 v2 v3 v4 v5 v6 v7:Value) :
    ((((((((w.setCell ⟨q,0,none⟩ v0).setCell ⟨q,1,none⟩ v1).setCell ⟨q,2,none⟩ v2).setCell ⟨q,3,none⟩ v3).setCell ⟨q,4,none⟩ v4).setCell ⟨q,5,none⟩ v5).setCell ⟨q,6,none⟩ v6).setCell ⟨q,7,none⟩ v7).heap[q]?=some (.cells #[v0,v1,v2,v3,v4,v5,v6,v7] 27 (0,0)):=by
  have k0:(w.setCell ⟨q,0,none⟩ v0).heap[q]?=some (.cells #[v0,u1,u2,u3,u4,u5,u6,u7] 27 (0,0)):=heap_setCell_same _ q 0 _ _ v0 h
  generalize w.setCell ⟨q,0,none⟩ v0=w1 at k0 ⊢
  have k1:(w1.setCell ⟨q,1,none⟩ v1).heap[q]?=some (.cells #[v0,v1,u2,u3,u4,u5,u6,u7] 27 (0,0)):=heap_setCell_same _ q 1 _ _ v1 k0
  generalize w1.setCell ⟨q,1,none⟩ v1=w2 at k1 ⊢
  have k2:(w2.setCell ⟨q,2,none⟩ v2).heap[q]?=some (.cells #[v0,v1,v2,u3,u4,u5,u6,u7] 27 (0,0)):=heap_setCell_same _ q 2 _ _ v2 k1
  generalize w2.setCell ⟨q,2,none⟩ v2=w3 at k2 ⊢
  have k3:(w3.setCell ⟨q,3,none⟩ v3).heap[q]?=some (.cells #[v0,v1,v2,v3,u4,u5,u6,u7] 27 (0,0)):=heap_setCell_same _ q 3 _ _ v3 k2
  generalize w3.setCell ⟨q,3,none⟩ v3=w4 at k3 ⊢
  have k4:(w4.setCell ⟨q,4,none⟩ v4).heap[q]?=some (.cells #[v0,v1,v2,v3,v4,u5,u6,u7] 27 (0,0)):=heap_setCell_same _ q 4 _ _ v4 k3
  generalize w4.setCell ⟨q,4,none⟩ v4=w5 at k4 ⊢
  have k5:(w5.setCell ⟨q,5,none⟩ v5).heap[q]?=some (.cells #[v0,v1,v2,v3,v4,v5,u6,u7] 27 (0,0)):=heap_setCell_same _ q 5 _ _ v5 k4
  generalize w5.setCell ⟨q,5,none⟩ v5=w6 at k5 ⊢
  have k6:(w6.setCell ⟨q,6,none⟩ v6).heap[q]?=some (.cells #[v0,v1,v2,v3,v4,v5,v6,u7] 27 (0,0)):=heap_setCell_same _ q 6 _ _ v6 k5
  generalize w6.setCell ⟨q,6,none⟩ v6=w7 at k6 ⊢
  have k7:(w7.setCell ⟨q,7,none⟩ v7).heap[q]?=some (.cells #[v0,v1,v2,v3,v4,v5,v6,v7] 27 (0,0)):=heap_setCell_same _ q 7 _ _ v7 k6
  exact k7
def NotNet (t:TypeId):Prop:=t≠27
theorem eight_data {w:World} {q:Nat} {u0 u1 u2 u3 u4 u5 u6 u7:Value} (h:w.heap[q]?=some (.cells #[u0,u1,u2,u3,u4,u5,u6,u7] 27 (0,0))) (v0 v1 v2 v3 v4 v5 v6 v7:Value) :
    Data NotNet w ((((((((w.setCell ⟨q,0,none⟩ v0).setCell ⟨q,1,none⟩ v1).setCell ⟨q,2,none⟩ v2).setCell ⟨q,3,none⟩ v3).setCell ⟨q,4,none⟩ v4).setCell ⟨q,5,none⟩ v5).setCell ⟨q,6,none⟩ v6).setCell ⟨q,7,none⟩ v7):=by
  have hn:¬ NotNet 27:=fun h=>h rfl
  have k0:(w.setCell ⟨q,0,none⟩ v0).heap[q]?=some (.cells #[v0,u1,u2,u3,u4,u5,u6,u7] 27 (0,0)):=heap_setCell_same _ q 0 _ _ v0 h
  have d0:Data NotNet w (w.setCell ⟨q,0,none⟩ v0):=Data.setBox h hn
  generalize w.setCell ⟨q,0,none⟩ v0=w1 at k0 d0 ⊢
  have k1:(w1.setCell ⟨q,1,none⟩ v1).heap[q]?=some (.cells #[v0,v1,u2,u3,u4,u5,u6,u7] 27 (0,0)):=heap_setCell_same _ q 1 _ _ v1 k0
  have d1:Data NotNet w (w1.setCell ⟨q,1,none⟩ v1):=d0.trans (Data.setBox k0 hn)
  generalize w1.setCell ⟨q,1,none⟩ v1=w2 at k1 d1 ⊢
  have k2:(w2.setCell ⟨q,2,none⟩ v2).heap[q]?=some (.cells #[v0,v1,v2,u3,u4,u5,u6,u7] 27 (0,0)):=heap_setCell_same _ q 2 _ _ v2 k1
  have d2:Data NotNet w (w2.setCell ⟨q,2,none⟩ v2):=d1.trans (Data.setBox k1 hn)
  generalize w2.setCell ⟨q,2,none⟩ v2=w3 at k2 d2 ⊢
  have k3:(w3.setCell ⟨q,3,none⟩ v3).heap[q]?=some (.cells #[v0,v1,v2,v3,u4,u5,u6,u7] 27 (0,0)):=heap_setCell_same _ q 3 _ _ v3 k2
  have d3:Data NotNet w (w3.setCell ⟨q,3,none⟩ v3):=d2.trans (Data.setBox k2 hn)
  generalize w3.setCell ⟨q,3,none⟩ v3=w4 at k3 d3 ⊢
  have k4:(w4.setCell ⟨q,4,none⟩ v4).heap[q]?=some (.cells #[v0,v1,v2,v3,v4,u5,u6,u7] 27 (0,0)):=heap_setCell_same _ q 4 _ _ v4 k3
  have d4:Data NotNet w (w4.setCell ⟨q,4,none⟩ v4):=d3.trans (Data.setBox k3 hn)
  generalize w4.setCell ⟨q,4,none⟩ v4=w5 at k4 d4 ⊢
  have k5:(w5.setCell ⟨q,5,none⟩ v5).heap[q]?=some (.cells #[v0,v1,v2,v3,v4,v5,u6,u7] 27 (0,0)):=heap_setCell_same _ q 5 _ _ v5 k4
  have d5:Data NotNet w (w5.setCell ⟨q,5,none⟩ v5):=d4.trans (Data.setBox k4 hn)
  generalize w5.setCell ⟨q,5,none⟩ v5=w6 at k5 d5 ⊢
  have k6:(w6.setCell ⟨q,6,none⟩ v6).heap[q]?=some (.cells #[v0,v1,v2,v3,v4,v5,v6,u7] 27 (0,0)):=heap_setCell_same _ q 6 _ _ v6 k5
  have d6:Data NotNet w (w6.setCell ⟨q,6,none⟩ v6):=d5.trans (Data.setBox k5 hn)
  generalize w6.setCell ⟨q,6,none⟩ v6=w7 at k6 d6 ⊢
  have k7:(w7.setCell ⟨q,7,none⟩ v7).heap[q]?=some (.cells #[v0,v1,v2,v3,v4,v5,v6,v7] 27 (0,0)):=heap_setCell_same _ q 7 _ _ v7 k6
  have d7:Data NotNet w (w7.setCell ⟨q,7,none⟩ v7):=d6.trans (Data.setBox k6 hn)
  exact d7
theorem NAt.dataN {p r g:Nat} {A B:World} {S:NetS} {n:PNet} (h:NAt p r g A S n) (hd:Data NotNet A B):NAt p r g B S n:=by
  have hi:NotNet 3:=by unfold NotNet;decide
  have hl:NotNet 48:=by unfold NotNet;decide
  have ha:NotNet 57:=by unfold NotNet;decide
  have hm:NotNet 54:=by unfold NotNet;decide
  have hr:NotNet 97:=by unfold NotNet;decide
  have hx:NotNet 99:=by unfold NotNet;decide
  have e1:∀ b o (x:PRead),(∃ cs,A.heap[b]?=some (.cells cs 97 (0,0)))→PReadAt p r g A b o x→PReadAt p r g B b o x:=fun b o x hb h=>by
    obtain ⟨a,c,h1,h2,h3⟩:=h
    exact ⟨a,c,(hd.cell hr hb).trans h1,(hd.cell hr hb).trans h2,hd.lp hi h3⟩
  have e2:∀ b o (x:PWrite),(∃ cs,A.heap[b]?=some (.cells cs 99 (0,0)))→PWriteAt p r g A b o x→PWriteAt p r g B b o x:=fun b o x hb h=>by
    obtain ⟨a,c,a2,c2,h1,h2,h3,h4,h5⟩:=h
    exact ⟨a,c,a2,c2,(hd.cell hx hb).trans h1,(hd.cell hx hb).trans h2,(hd.cell hx hb).trans h3,hd.lp hi h4,hd.lp hi h5⟩
  refine ⟨hd.rp hi (fun b o x hb h=>(hd.cell hi hb).trans h) h.inputs,hd.rp hl (fun b o x hb h=>⟨(hd.cell hl hb).trans h.1,(hd.cell hl hb).trans h.2.1,(hd.cell hl hb).trans h.2.2⟩) h.latches,hd.rp hi (fun b o x hb h=>(hd.cell hi hb).trans h) h.outs,
    hd.rp hi (fun b o x hb h=>(hd.cell hi hb).trans h) h.bads,hd.rp hi (fun b o x hb h=>(hd.cell hi hb).trans h) h.cons,hd.rp hm (fun b o x hb h=>?_) h.mems,hd.rp ha (fun b o x hb h=>⟨(hd.cell ha hb).trans h.1,(hd.cell ha hb).trans h.2.1,(hd.cell ha hb).trans h.2.2⟩) h.ands⟩
  obtain ⟨a,c,a2,c2,h1,h2,h3,h4,h5,h6,h7⟩:=h
  exact ⟨a,c,a2,c2,(hd.cell hm hb).trans h1,(hd.cell hm hb).trans h2,(hd.cell hm hb).trans h3,(hd.cell hm hb).trans h4,(hd.cell hm hb).trans h5,hd.rp hr e1 h6,hd.rp hx e2 h7⟩
theorem eight_below {n:Nat} {w0 w:World} {q:Nat} (h:Below n w0 w) (hq:n≤q) (v0 v1 v2 v3 v4 v5 v6 v7:Value) :
    Below n w0 ((((((((w.setCell ⟨q,0,none⟩ v0).setCell ⟨q,1,none⟩ v1).setCell ⟨q,2,none⟩ v2).setCell ⟨q,3,none⟩ v3).setCell ⟨q,4,none⟩ v4).setCell ⟨q,5,none⟩ v5).setCell ⟨q,6,none⟩ v6).setCell ⟨q,7,none⟩ v7):=by
  have b0:=Below.setCell (p:=⟨q,0,none⟩) h hq v0
  generalize w.setCell ⟨q,0,none⟩ v0=w1 at b0 ⊢
  have b1:=Below.setCell (p:=⟨q,1,none⟩) b0 hq v1
  generalize w1.setCell ⟨q,1,none⟩ v1=w2 at b1 ⊢
  have b2:=Below.setCell (p:=⟨q,2,none⟩) b1 hq v2
  generalize w2.setCell ⟨q,2,none⟩ v2=w3 at b2 ⊢
  have b3:=Below.setCell (p:=⟨q,3,none⟩) b2 hq v3
  generalize w3.setCell ⟨q,3,none⟩ v3=w4 at b3 ⊢
  have b4:=Below.setCell (p:=⟨q,4,none⟩) b3 hq v4
  generalize w4.setCell ⟨q,4,none⟩ v4=w5 at b4 ⊢
  have b5:=Below.setCell (p:=⟨q,5,none⟩) b4 hq v5
  generalize w5.setCell ⟨q,5,none⟩ v5=w6 at b5 ⊢
  have b6:=Below.setCell (p:=⟨q,6,none⟩) b5 hq v6
  generalize w6.setCell ⟨q,6,none⟩ v6=w7 at b6 ⊢
  exact Below.setCell (p:=⟨q,7,none⟩) b6 hq v7
theorem results_net {P:Program} {fn:Func} {p i j:Tmp} {ty:TypeId} (h:fn.results=#[.cell p ty,.tmp i,.tmp j]) (tmps:Array Value) (w:World) (g:Nat) (t:TypeId) (cs:Array Value) (fr:Nat × Nat) (d:TypeDesc)
    (hp:tmps.getD p undef=.pointer (some ⟨g,0,none⟩)) (hg:w.heap[g]?=some (.cells cs t fr))
    (hu:P.underlying ty=some d) (hd:(match d with | .struct _ | .array _ _=>true | _=>false)=true) (hi:(P.info? ty).map (·.size)=some cs.size) (u v:Value) (hi':tmps.getD i undef=u) (hj':tmps.getD j undef=v) :
    (results fn tmps).run P w=.ok (.tuple #[.agg cs,u,v]) w:=by
  have hp':tmps[p]?.getD undef=.pointer (some ⟨g,0,none⟩):=by simpa using hp
  have hi2:tmps[i]?.getD undef=u:=by simpa using hi'
  have hj2:tmps[j]?.getD undef=v:=by simpa using hj'
  simp [results,h,hp',hi2,hj2,asAddr,run_loadVar_row w g t ty cs fr d hg hu hd hi]
set_option maxRecDepth 100000 in
set_option maxHeartbeats 4000000 in
theorem told_any {p r g:Nat} {m:Ext} {n:PNet} {S:NetS} {w:World} {s:Ps} (h:PAt 2 p r g m n.vars (NCof S n) w s) (hN:NAt p r g w S n) :
    Calls Tryz.prog 40 #[.pointer (some ⟨p,0,none⟩)] w (ToldLeft p r g w (told n s)):=by
  obtain ⟨W0,hW0⟩:∃ W0,W0=w.alloc (.cells #[.int .i64 0,.slice none 0 0,.slice none 0 0,.slice none 0 0,.slice none 0 0,.slice none 0 0,.slice none 0 0,.slice none 0 0] 27):=⟨_,rfl⟩
  have hb0:Below w.heap.size w W0:=by rw [hW0];exact (Below.refl _ w).alloc (Nat.le_refl _) _
  have hrow:W0.heap[w.heap.size]?=some (.cells #[.int .i64 0,.slice none 0 0,.slice none 0 0,.slice none 0 0,.slice none 0 0,.slice none 0 0,.slice none 0 0,.slice none 0 0] 27 (0,0)):=by rw [hW0];exact heap_alloc_new w _
  have hP:=h.below hb0
  have hN0:=hN.kept (Kept3.of_below hb0)
  clear h
  cases he:s.e with
  | some y =>
    clear hN
    rw [show told n s=(n0 0,y.2,y.1) by unfold told;rw [he]]
    obtain ⟨ev,hE,d0,d1,d9,df⟩:=hP.cells
    rw [he] at hE
    obtain ⟨b,rfl⟩:=hE.form
    obtain ⟨L,k,hch,hl1,hl2,hl3⟩:=hE
    have HW:=Lib.hid (Fa.Told_any L (some k) _ W0 (by omega) hP.laid hch)
    rw [hl3] at HW
    obtain ⟨kd,at'⟩:=y
    have H0:=Lib.hid (And.intro hb0 hrow)
    clear hch hl1 hl2 hl3 hP he hN0 hb0 hrow d0 d1 df
    subst hW0
    unfold Fa.two at HW
    go_enter Tryz.func40,Tryz.ntmps40
    go_wp2_with fail
    refine HW.out.mono ?_
    rintro e w3 ⟨rfl,hb3⟩
    have hrow3:=(hb3.block _ (lt_of_row H0.out.2)).trans H0.out.2
    obtain ⟨⟨c0,c1,c2,c3,c4,c5,c6,c7⟩,hf⟩:=eight_cells hrow3
    have f0:=hf 0
    have f1:=hf 1
    have f2:=hf 2
    have f3:=hf 3
    have f4:=hf 4
    have f5:=hf 5
    have f6:=hf 6
    have f7:=hf 7
    have H3:=Lib.hid (And.intro (eight_put hrow3 (.int .i64 0) (.slice none 0 0) (.slice none 0 0) (.slice none 0 0) (.slice none 0 0) (.slice none 0 0) (.slice none 0 0) (.slice none 0 0)) (eight_below (H0.out.1.trans (hb3.mono H0.out.1.size)) (Nat.le_refl _) (.int .i64 0) (.slice none 0 0) (.slice none 0 0) (.slice none 0 0) (.slice none 0 0) (.slice none 0 0) (.slice none 0 0) (.slice none 0 0)))
    clear hf hb3 hrow3 d9
    go_wp2_with fail
    refine bodyPost_ret (results_net rfl _ _ w.heap.size 27 _ (0,0) _ rfl H3.out.1 Tryz.underlying27 rfl (by kernel_rfl) _ _ rfl rfl) rfl ?_
    exact ⟨n0 0,S0,rfl,rfl,nat_empty p r g _ 0,H3.out.2⟩
  | none =>
    rw [show told n s=(n,0,0) by unfold told;rw [he]]
    obtain ⟨ev,hE,d0,d1,d9,df⟩:=hP.cells
    rw [he] at hE
    cases hE
    obtain ⟨e1,e2,e3,e4,e5,e6,e7,e8⟩:=hP.net
    obtain ⟨⟨c0,c1,c2,c3,c4,c5,c6,c7⟩,hf⟩:=eight_cells hrow
    have f0:=hf 0
    have f1:=hf 1
    have f2:=hf 2
    have f3:=hf 3
    have f4:=hf 4
    have f5:=hf 5
    have f6:=hf 6
    have f7:=hf 7
    have hb1:Below w.heap.size w (w.alloc (.cells #[.int .i64 n.vars,.slice S.i n.inputs.length S.ic,.slice S.l n.latches.length S.lc,.slice S.o n.outs.length S.oc,.slice S.b n.bads.length S.bc,.slice S.c n.cons.length S.cc,.slice S.m n.mems.length S.mc,.slice S.a n.ands.length S.ac] 27)):=(Below.refl _ w).alloc (Nat.le_refl _) _
    have H3:=Lib.hid (And.intro (heap_alloc_new w (.cells #[.int .i64 n.vars,.slice S.i n.inputs.length S.ic,.slice S.l n.latches.length S.lc,.slice S.o n.outs.length S.oc,.slice S.b n.bads.length S.bc,.slice S.c n.cons.length S.cc,.slice S.m n.mems.length S.mc,.slice S.a n.ands.length S.ac] 27)) (And.intro hb1 (hN.kept (Kept3.of_below hb1))))
    clear hf hrow d0 d1 df hP hN0 he hb0 hb1 hN
    subst hW0
    go_enter Tryz.func40,Tryz.ntmps40
    go_wp2_with fail
    refine bodyPost_ret (results_net rfl _ _ w.heap.size 27 _ (0,0) _ rfl H3.out.1 Tryz.underlying27 rfl (by kernel_rfl) _ _ rfl rfl) rfl ?_
    exact ⟨n,S,rfl,rfl,H3.out.2.2,H3.out.2.1⟩
open Go.ChangeShapes Go.WideShapes Go.RowKit Go.Shelf
attribute [local go_sem] Oper.semAt_some
def FKnow (p r g:Nat) (m:Ext) (N:NC) (s0:Ps) (cb pb wb:Nat) (tf:TypeId) (fv:Value) (X:World→Prop) (k:Nat) (A:World):Prop:=k=0→PAt 1 p r g m 0 N A s0∧Caught cb pb wb p 1 tf fv A∧X A
def FSt (p r g:Nat) (m:Ext) (N:NC) (s0:Ps) (x:Int × PCounts × Ps) (k k':Nat) (A B:World):Prop:=k=0∧k'=1∧PAt 2 p r g m x.1 N B x.2.2∧Kept3 p r g A B
def FR (y:Int × PCounts × Ps) (k:Nat) (x:PCounts) (v:Value) (A:World):Prop:=k=1∧y.2.2.e=none∧x=y.2.1∧v=.agg (countsV x)
def FFi (y:Int × PCounts × Ps) (k:Nat):Prop:=(k=1∧y.2.2.e≠none)∨(k=2∧y.2.2.e=none)
def ReadsFirst (p r g:Nat) (m:Ext) (N:NC) (s0:Ps) (f:Nat) (a:Array Value) (X:World→Prop) (x:Int × PCounts × Ps):Prop :=
  ∀ (W:World),PAt 1 p r g m 0 N W s0→X W→Calls Tryz.prog f a W fun e w'=>e=.returned (.agg (countsV x.2.1))∧PAt 1 p r g m x.1 N w' x.2.2∧Kept3 p r g W w'
set_option maxRecDepth 100000 in
set_option maxHeartbeats 8000000 in
theorem each_first (m0:Nat) (h1m:1≤m0) {p r g:Nat} {m:Ext} {N:NC} (cb pb wb lb qb:Nat) (s0:Ps) (y0:Int × PCounts × Ps) (he0:s0.e=none) (w:World)
    (ha:(cb≠p∧cb≠r∧cb≠g)∧(pb≠p∧pb≠r∧pb≠g)∧(wb≠p∧wb≠r∧wb≠g)) (X:World→Prop) (hX:∀ A B,X A→Kept3 p r g A B→X B)
    (hrd:ReadsFirst p r g m N s0 119 #[.pointer (some ⟨lb,0,none⟩),.pointer (some ⟨qb,0,none⟩)] X y0) :
    SeqW (α:=PCounts) Fence.wide m0 Tryz.prog 167 #[.pointer (some ⟨cb,0,none⟩),.pointer (some ⟨pb,0,none⟩),.pointer (some ⟨wb,0,none⟩)]
      (FKnow p r g m N s0 cb pb wb 125 (.func (.func 119) #[] #[.pointer (some ⟨lb,0,none⟩),.pointer (some ⟨qb,0,none⟩)]) X) (FSt p r g m N s0 y0) (FR y0) (fun k _=>k+1) (FFi y0) 0 w:=fun l J W hW hJK hJS hJY h0=>by
  obtain ⟨hP,hC,hX0⟩:=hJK _ _ h0 rfl
  obtain ⟨cc,cp,cw⟩:=hC.cells
  obtain ⟨ev,hE,d0,d1,d9,df⟩:=hP.cells
  rw [he0] at hE
  cases hE
  have HJ:=Lib.hid (And.intro hJS hJY)
  have HJ0:=Lib.hid h0
  have HP:=Lib.hid hP
  have HC:=Lib.hid hC
  have HA:=Lib.hid (Sc.at_any r s0.l s0.i W hP.rd)
  have HW:=Lib.hid (hrd W hP hX0)
  obtain ⟨V,⟨ci,cl,co,ca,cn,cq,cm⟩,s2⟩:=y0
  have hst:∀ k k' A B,FSt p r g m N s0 (V,⟨ci,cl,co,ca,cn,cq,cm⟩,s2) k k' A B↔(k=0∧k'=1∧PAt 2 p r g m V N B s2∧Kept3 p r g A B):=fun k k' A B=>Iff.rfl
  have hfr:∀ x v A,s2.e=none→x=⟨ci,cl,co,ca,cn,cq,cm⟩→v=.agg (countsV x)→FR (V,⟨ci,cl,co,ca,cn,cq,cm⟩,s2) 1 x v A:=fun x v A h1 h2 h3=>⟨rfl,h1,h2,h3⟩
  have hfi:∀ k,((k=1∧s2.e≠none)∨(k=2∧s2.e=none))→FFi (V,⟨ci,cl,co,ca,cn,cq,cm⟩,s2) k:=fun k h=>h
  have HT:=Lib.hid (And.intro hst (And.intro hfr hfi))
  unfold countsV at HW
  dsimp only at HW
  clear hP hC hX0 d1 df hJK hJS hJY h0 hst hfr hfi hrd hX
  refine callsIn_of_wp Tryz.func167 rfl trivial ?_ rfl
  simp only [Tryz.ntmps167,List.size_toArray,List.length_cons,List.length_nil,Nat.reduceAdd,Nat.reduceSub,Array.replicate_succ,Array.replicate_zero,List.push_toArray,List.append_toArray,List.nil_append,List.cons_append]
  gi_wp2
  gi_loopg [8] 1 (fun m' s8 wx=>(m'=1∧s8=.int .i64 0∧wx=W)∨(m'=0∧s8=.int .i64 1∧J 2 wx∧Aside (s2.e=none)))
  case atStart=>exact .inl ⟨rfl,rfl,rfl⟩
  case round =>
    rcases hrel with ⟨rfl,rfl,rfl⟩ | ⟨rfl,rfl,hJ2,HL⟩
    · gi_wp2_with (first
        | (refine ⟨trivial,?_⟩;gi_at_call 168;refine (callsIn_wide.2 HA.out).mono ?_;rintro e w0 ⟨rfl,rfl⟩)
        | (refine ⟨trivial,?_⟩;gi_at_call 119;refine (callsIn_wide.2 HW.out).mono ?_;rintro e w1 ⟨rfl,hP1,hK1⟩;have r0:(w1.alloc (.cells #[.int .i64 ci,.int .i64 cl,.int .i64 co,.int .i64 ca,.int .i64 cn,.int .i64 cq,.int .i64 cm] 124)).heap[w1.heap.size]?=some (.cells #[.int .i64 ci,.int .i64 cl,.int .i64 co,.int .i64 ca,.int .i64 cn,.int .i64 cq,.int .i64 cm] 124 (0,0)):=heap_alloc_new w1 _;have b0:Below w1.heap.size w1 (w1.alloc (.cells #[.int .i64 ci,.int .i64 cl,.int .i64 co,.int .i64 ca,.int .i64 cn,.int .i64 cq,.int .i64 cm] 124)):=(Below.refl _ w1).alloc (Nat.le_refl _) _;have HNE:=Lib.hid (show w1.heap.size≠p from by have:=hP1.lt;omega);have hP2:=hP1.below b0;have hK2:=hK1.trans (Kept3.of_below (p:=p) (r:=r) (g:=g) b0);have HT2:=Lib.hid r0;clear hP1 hK1 r0 b0;obtain ⟨cc2,cp2,cw2⟩:=(HC.out.kept hK2 ha).cells;obtain ⟨ev2,hE2,x0,-,x9,xf⟩:=hP2.cells;have xf9:=xf 9;have HP2:=Lib.hid (And.intro hP2 (And.intro hK2 hE2));clear hP2 hK2 hE2 xf cc cp cw))
      generalize hw2:w1.alloc (.cells #[.int .i64 ci,.int .i64 cl,.int .i64 co,.int .i64 ca,.int .i64 cn,.int .i64 cq,.int .i64 cm] 124)=w2 at *
      clear hw2
      clear cc2 cw2 x0 d0
      have HPD:=Lib.hid (HP2.out.1.below ((Below.refl _ w2).drew))
      have HKD:=Lib.hid (HP2.out.2.1.drew)
      have HCW:=Lib.hid (fun (W:World) (hb:Below w2.drew.heap.size w2.drew W)=>show W.cell? ⟨pb,0,none⟩=some (.pointer (some ⟨p,0,none⟩))∧(∃ ev,W.cell? ⟨p,9,none⟩=some ev)∧W.frozen? ⟨p,9,none⟩=false from by
        obtain ⟨-,cp,-⟩:=((HC.out.kept HKD.out ha).kept (Kept3.of_below (p:=p) (r:=r) (g:=g) hb) ha).cells
        obtain ⟨ev3,-,-,-,h10,hf⟩:=(HPD.out.below hb).cells
        exact ⟨cp,⟨ev3,h10⟩,hf 9⟩)
      cases he2:s2.e with
      | none =>
        have hE2:=HP2.out.2.2
        rw [he2] at hE2
        cases hE2
        have HWR:=Lib.hid (Fa.Wrap_nil (s0.i:Int) w2.drew HPD.out.laid)
        have HE2:=Lib.hid he2
        clear he2
        gi_region_with (first
          | (refine ⟨trivial,?_⟩;gi_at_call 169;refine (callsIn_wide.2 HWR.out).mono ?_;rintro e w3 ⟨rfl,hb3⟩;obtain ⟨cp3,⟨ev3,x103⟩,xf103⟩:=HCW.out w3 hb3;have HB3:=Lib.hid hb3;clear hb3))
        all_goals
          have hP4:=(HPD.out.below HB3.out).setErr (ev':=.nilIface) (o:=none) rfl
          rw [show ({ s2 with e:=none }:Ps)=s2 from by rw [← HE2.out]] at hP4
          have hK4:=(HKD.out.trans (Kept3.of_below HB3.out)).put 9 .nilIface
          have ht4:(World.setCell w3 ⟨p,9,none⟩ .nilIface).heap[w1.heap.size]?=_:=(heap_setCell_other _ _ _ _ (by show w1.heap.size≠p;exact HNE.out)).trans ((HB3.out.block _ (lt_of_row HT2.out)).trans HT2.out)
          clear cp3 x103 xf103 HB3 cp2 x9 xf9 d9
          generalize World.setCell _ _ _=w4 at hP4 hK4 ht4 ⊢
          have hJ4:=HJ.out.1 0 1 wr w4 HJ0.out ((HT.out.1 _ _ _ _).2 ⟨rfl,rfl,hP4.up,hK4⟩)
          have t0:w4.cell? ⟨w1.heap.size,0,none⟩=some (.int .i64 ci):=by rw [cell_of_row _ _ _ _ _ _ ht4];rfl
          have t1:w4.cell? ⟨w1.heap.size,1,none⟩=some (.int .i64 cl):=by rw [cell_of_row _ _ _ _ _ _ ht4];rfl
          have t2:w4.cell? ⟨w1.heap.size,2,none⟩=some (.int .i64 co):=by rw [cell_of_row _ _ _ _ _ _ ht4];rfl
          have t3:w4.cell? ⟨w1.heap.size,3,none⟩=some (.int .i64 ca):=by rw [cell_of_row _ _ _ _ _ _ ht4];rfl
          have t4:w4.cell? ⟨w1.heap.size,4,none⟩=some (.int .i64 cn):=by rw [cell_of_row _ _ _ _ _ _ ht4];rfl
          have t5:w4.cell? ⟨w1.heap.size,5,none⟩=some (.int .i64 cq):=by rw [cell_of_row _ _ _ _ _ _ ht4];rfl
          have t6:w4.cell? ⟨w1.heap.size,6,none⟩=some (.int .i64 cm):=by rw [cell_of_row _ _ _ _ _ _ ht4];rfl
          obtain ⟨fn,tmps,assign,body,hy,hR⟩:=HJ.out.2 1 _ (.agg #[.int .i64 ci,.int .i64 cl,.int .i64 co,.int .i64 ca,.int .i64 cn,.int .i64 cq,.int .i64 cm]) w4 hJ4 (HT.out.2.1 ⟨ci,cl,co,ca,cn,cq,cm⟩ _ w4 HE2.out rfl rfl)
          obtain ⟨cc4,cp4,cw4⟩:=(HC.out.kept hK4 ha).cells
          obtain ⟨ev4,hE4,y0,-,y9,-⟩:=hP4.cells
          rw [HE2.out] at hE4
          cases hE4
          clear hJ4 hP4 hK4 cw4 y0 ht4
          gi_wp2
          refine hR.mono ?_
          rintro e w5 ⟨rfl,hJ5⟩
          gi_wp2
          gi_roundg 0
          case measure=>omega
          case rel=>exact .inr ⟨rfl,rfl,hJ5,HE2.out⟩
      | some y =>
        have hE2:=HP2.out.2.2
        rw [he2] at hE2
        obtain ⟨b2,rfl⟩:=hE2.form
        have HWR:=Lib.hid (wrap_any (s:=s2) (s0.i:Int) HPD.out.laid (HP2.out.2.2.keep fun k cs hk=>rfl:Err 1 w2.drew _ s2.e))
        rw [he2] at HWR
        have HE2:=Lib.hid he2
        clear he2 hE2
        gi_region_with (first
          | (refine ⟨trivial,?_⟩;gi_at_call 169;refine (callsIn_wide.2 HWR.out).mono ?_;rintro e w3 ⟨⟨ev3,rfl,hE3⟩,hb3⟩;obtain ⟨b3,rfl⟩:=hE3.form;obtain ⟨cp3,⟨ev3,x103⟩,xf103⟩:=HCW.out w3 hb3;have HB3:=Lib.hid (And.intro hb3 hE3);clear hb3 hE3))
        all_goals
          have hP4:=(HPD.out.below HB3.out.1).up.setErr HB3.out.2
          rw [show ({ s2 with e:=some y }:Ps)=s2 from by rw [← HE2.out]] at hP4
          have hK4:=(HKD.out.trans (Kept3.of_below HB3.out.1)).put 9 (.iface 188 (.pointer (some ⟨b3,0,none⟩)))
          clear cp3 x103 xf103 HB3 cp2 x9 xf9 d9
          generalize World.setCell _ _ _=w4 at hP4 hK4 ⊢
          have hJ4:=HJ.out.1 0 1 wr w4 HJ0.out ((HT.out.1 _ _ _ _).2 ⟨rfl,rfl,hP4,hK4⟩)
          obtain ⟨cc4,cp4,cw4⟩:=(HC.out.kept hK4 ha).cells
          obtain ⟨ev4,hE4,y0,-,y9,-⟩:=hP4.cells
          rw [HE2.out] at hE4
          obtain ⟨b4,rfl⟩:=hE4.form
          clear hP4 hK4 cw4 y0 hE4
          gi_wp2
          refine ⟨fun _ h=>(by cases h),?_⟩
          gi_wp2
          refine bodyPost_ret (results_none rfl _ _ _) rfl ?_
          exact ⟨⟨_,rfl⟩,1,HT.out.2.2 _ (.inl ⟨rfl,by rw [HE2.out];simp⟩),hJ4⟩
    · clear cc cp cw d0 d9
      gi_wp2
      refine bodyPost_end (results_none rfl _ _ _) rfl ?_
      exact ⟨⟨_,rfl⟩,2,HT.out.2.2 _ (.inr ⟨rfl,HL.out⟩),hJ2⟩
section
variable {p r g:Nat}
theorem make_counts (cnt:Nat) (fv:Value) (hf:∃ f a b,fv=.func f a b) (w:World):Calls Tryz.prog 118 #[.pointer (some ⟨p,0,none⟩),.int .i64 cnt,fv] w (EachLeft p cnt 167 125 fv w):=by
  obtain ⟨f,a,b,rfl⟩:=hf
  have H:=Lib.hid (eachLeft_of p cnt 167 125 (.func f a b) w)
  go_enter Tryz.func118,Tryz.ntmps118
  go_wp2
  go_ret
  exact H.out
theorem lines_counts (cnt:Nat) (fv:Value) (hf:∃ f a b,fv=.func f a b) (w:World):Calls Tryz.prog 76 #[.pointer (some ⟨p,0,none⟩),.int .i64 cnt,fv] w (LinesLeft p cnt 167 119 125 fv w):=by
  obtain ⟨f,a,b,rfl⟩:=hf
  obtain ⟨w2,hw2,hz,hL,hB⟩:=linesLeft_of p 125 (.func f a b) w
  have HM:=Lib.hid (make_counts (p:=p) cnt (.func (.func 119) #[] #[.pointer (some ⟨w.heap.size+1,0,none⟩),.pointer (some ⟨w.heap.size,0,none⟩)]) ⟨_,_,_,rfl⟩ w2)
  have HL:=Lib.hid (And.intro hL (And.intro hB hz))
  clear hL hB hz
  subst hw2
  go_enter Tryz.func76,Tryz.ntmps76
  go_wp2_with (go_at_call 118;refine HM.out.mono ?_;clear HM;rintro e w3 ⟨rfl,hC,hB,hz⟩;have HE:=Lib.hid (And.intro hC (And.intro hB hz));clear hC hB hz)
  go_ret
  obtain ⟨hC,hB,hz⟩:=HE.out
  obtain ⟨hL,hB0,hz0⟩:=HL.out
  rw [hz0] at hC hB hz
  have hk:Kept3 0 0 0 _ w3:=Kept3.of_below (hz0 ▸ hB)
  refine ⟨_,rfl,rfl,hC,⟨?_,?_⟩,hB0.trans (hB.mono (by omega)),hz⟩
  · exact (hB.block _ (by omega)).trans hL.w
  · exact (hB.block _ (by omega)).trans hL.p
end
structure PCounts.good (c:PCounts):Prop where
  gi:0≤c.ci∧c.ci≤1000000
  gl:0≤c.cl∧c.cl≤1000000
  go:0≤c.co∧c.co≤1000000
  ga:0≤c.ca∧c.ca≤1000000
  gb:0≤c.cb∧c.cb≤1000000
  gc:0≤c.cc∧c.cc≤1000000
  gm:0≤c.cm∧c.cm≤1000000
theorem PCounts.good.nat {c:PCounts} (h:c.good):c=⟨(c.ci.toNat:Nat),(c.cl.toNat:Nat),(c.co.toNat:Nat),(c.ca.toNat:Nat),(c.cb.toNat:Nat),(c.cc.toNat:Nat),(c.cm.toNat:Nat)⟩:=by
  obtain ⟨i,l,o,a,b,c,m⟩:=h
  rw [Int.toNat_of_nonneg i.1,Int.toNat_of_nonneg l.1,Int.toNat_of_nonneg o.1,Int.toNat_of_nonneg a.1,Int.toNat_of_nonneg b.1,Int.toNat_of_nonneg c.1,Int.toNat_of_nonneg m.1]
theorem Ps.first_good {x1 x2:List Int} {s:Ps} (h:(s.first x1 x2).2.2.e=none):(s.first x1 x2).2.1.good:=by
  unfold Ps.first at h ⊢
  generalize s.begin x1 x2=b at h ⊢
  obtain ⟨b,t0⟩:=b
  dsimp only at h ⊢
  generalize hv:t0.within 0 2000 10=v at h ⊢
  obtain ⟨v,t1⟩:=v
  dsimp only at h ⊢
  generalize hi:t1.nextWithin 0 2000 10=i at h ⊢
  obtain ⟨i,t2⟩:=i
  dsimp only at h ⊢
  generalize hl:t2.nextWithin 0 2000 10=l at h ⊢
  obtain ⟨l,t3⟩:=l
  dsimp only at h ⊢
  generalize ho:t3.nextAny=o at h ⊢
  obtain ⟨o,t4⟩:=o
  dsimp only at h ⊢
  generalize ha:t4.nextWithin 0 2000 10=a at h ⊢
  obtain ⟨a,t5⟩:=a
  dsimp only at h ⊢
  generalize hd:t5.nextAny=d at h ⊢
  obtain ⟨d,t6⟩:=d
  dsimp only at h ⊢
  generalize hc:t6.nextWithin 0 (1000 - o - d) 10=c at h ⊢
  obtain ⟨c,t7⟩:=c
  dsimp only at h ⊢
  have hm:(0≤(t7.mems b).1∧(t7.mems b).1≤1000000)∧t7.e=none:=by
    unfold Ps.mems at h ⊢
    cases b with
    | false=>exact ⟨⟨by show (0:Int)≤0;decide,by show (0:Int)≤1000000;decide⟩,h⟩
    | true =>
      have f:=Ps.within_good (by decide) (show ((t7.expect [32]).within 1 4 10).2.e=none from h)
      have q:(if true=true then t7.nextWithin 1 4 10 else (0,t7)).1=((t7.expect [32]).within 1 4 10).1:=rfl
      rw [q]
      exact ⟨⟨by omega,by omega⟩,Ps.expect_good f.2.2⟩
  have fc:=Ps.within_good (lo:=0) (hi:=1000 - o - d) (k:=10) (s:=t6.expect [32]) (by decide) (by show (t6.nextWithin 0 (1000 - o - d) 10).2.e=none;rw [hc];exact hm.2)
  rw [show ((t6.expect [32]).within 0 (1000 - o - d) 10)=(c,t7) from hc] at fc
  have fd:=Ps.within_good (lo:=0) (hi:=maxN) (k:=4) (s:=t5.expect [32]) (by decide) (by show t5.nextAny.2.e=none;rw [hd];exact Ps.expect_good fc.2.2)
  rw [show ((t5.expect [32]).within 0 maxN 4)=(d,t6) from hd] at fd
  have fa:=Ps.within_good (lo:=0) (hi:=2000) (k:=10) (s:=t4.expect [32]) (by decide) (by show (t4.nextWithin 0 2000 10).2.e=none;rw [ha];exact Ps.expect_good fd.2.2)
  rw [show ((t4.expect [32]).within 0 2000 10)=(a,t5) from ha] at fa
  have fo:=Ps.within_good (lo:=0) (hi:=maxN) (k:=4) (s:=t3.expect [32]) (by decide) (by show t3.nextAny.2.e=none;rw [ho];exact Ps.expect_good fa.2.2)
  rw [show ((t3.expect [32]).within 0 maxN 4)=(o,t4) from ho] at fo
  have fl:=Ps.within_good (lo:=0) (hi:=2000) (k:=10) (s:=t2.expect [32]) (by decide) (by show (t2.nextWithin 0 2000 10).2.e=none;rw [hl];exact Ps.expect_good fo.2.2)
  rw [show ((t2.expect [32]).within 0 2000 10)=(l,t3) from hl] at fl
  have fi:=Ps.within_good (lo:=0) (hi:=2000) (k:=10) (s:=t1.expect [32]) (by decide) (by show (t1.nextWithin 0 2000 10).2.e=none;rw [hi];exact Ps.expect_good fl.2.2)
  rw [show ((t1.expect [32]).within 0 2000 10)=(i,t2) from hi] at fi
  dsimp only at fc fd fa fo fl fi
  exact ⟨⟨by show 0≤i;omega,by show i≤1000000;omega⟩,⟨by show 0≤l;omega,by show l≤1000000;omega⟩,⟨by show 0≤o;omega,by show o≤1000000;omega⟩,⟨by show 0≤a;omega,by show a≤1000000;omega⟩,⟨by show 0≤d;omega,by show d≤1000000;omega⟩,⟨by show 0≤c;omega,by show c≤1000000;omega⟩,hm.1⟩
def Ps.line1 (x1 x2:List Int) (s:Ps):Int × PCounts × Ps:=((s.first x1 x2).1,(s.first x1 x2).2.1,(s.first x1 x2).2.2.expect [10])
theorem Ps.line1_good {x1 x2:List Int} {s:Ps} (h:(s.line1 x1 x2).2.2.e=none):(s.line1 x1 x2).2.1.good:=Ps.first_good (Ps.expect_good h)
def aagB:List Int:=[97,97,103,32]
def aagmB:List Int:=[97,97,103,109,32]
theorem first_text {dep q p r:Nat} {V:Int} {N:NC} {w:World} {s:Ps} (h:PAt dep p r q (bareE q p) V N w s) (hd:1≤dep) :
    Calls Tryz.prog 77 #[.pointer (some ⟨q,0,none⟩)] w (FirstLeft dep p r q (bareE q p) N w (s.first aagB aagmB)):=by
  have hx:w.heap[q]?=some (.cells #[.pointer (some ⟨p,0,none⟩),.slice none 0 0] 66 (0,0)):=h.ext.1
  have HB:=Lib.hid (Lc.new (cs:=#[.int .i64 0,.int .i64 0,.int .i64 0,.int .i64 0,.int .i64 0,.int .i64 0,.int .i64 0]) (t:=124) h (by decide))
  have cq0:(w.alloc (.cells #[.int .i64 0,.int .i64 0,.int .i64 0,.int .i64 0,.int .i64 0,.int .i64 0,.int .i64 0] 124)).cell? ⟨q,0,none⟩=some (.pointer (some ⟨p,0,none⟩)):=by rw [cell_of_row _ _ _ _ _ _ ((Below.heap_alloc _ _ _ (lt_of_row hx)).trans hx)];rfl
  have HW:=Lib.hid (first_any ⟨#[97,97,103]⟩ ⟨#[97,97,103,109]⟩ aagB aagmB (by decide) (by decide) (by decide) (by decide) HB.out.pat hd)
  generalize s.first aagB aagmB=y at *
  obtain ⟨V',⟨ci,cl,co,ca,cn,cq,cm⟩,s1⟩:=y
  unfold FirstLeft countsV at *
  dsimp only at HW ⊢
  clear h hx
  go_enter Tryz.func77,Tryz.ntmps77
  go_wp2_with (go_at_call 121;refine HW.out.mono ?_;rintro e w1 ⟨rfl,hP,hK⟩;have HB1:=Lib.hid (show Lc dep p r q (bareE q p) V' N w w.heap.size 124 w1 #[.int .i64 0,.int .i64 0,.int .i64 0,.int .i64 0,.int .i64 0,.int .i64 0,.int .i64 0] s1 from ⟨hP,HB.out.kept.trans hK,(hK.block _ (lt_of_row HB.out.row) (by have:=HB.out.old;omega) (by have:=HB.out.old;omega) (by have:=HB.out.old;omega)).trans HB.out.row,HB.out.base,HB.out.topb,HB.out.tag⟩);have u0:=HB1.out.cell (j:=0) rfl;have v0:=HB1.out.free 0;have u1:=HB1.out.cell (j:=1) rfl;have v1:=HB1.out.free 1;have u2:=HB1.out.cell (j:=2) rfl;have v2:=HB1.out.free 2;have u3:=HB1.out.cell (j:=3) rfl;have v3:=HB1.out.free 3;have u4:=HB1.out.cell (j:=4) rfl;have v4:=HB1.out.free 4;have u5:=HB1.out.cell (j:=5) rfl;have v5:=HB1.out.free 5;have u6:=HB1.out.cell (j:=6) rfl;have v6:=HB1.out.free 6;clear hP hK)
  try simp only [Exit.inBlock,Exit.then]
  have HF:=(((((((HB1.out.set 0 (.int .i64 ci)).set 1 (.int .i64 cl)).set 2 (.int .i64 co)).set 3 (.int .i64 ca)).set 4 (.int .i64 cn)).set 5 (.int .i64 cq)).set 6 (.int .i64 cm))
  refine bodyPost_ret (results_cell_row rfl _ _ w.heap.size 124 _ (0,0) _ rfl HF.row Tryz.underlying124 rfl (by kernel_rfl)) rfl ?_
  exact ⟨rfl,HF.pat,HF.kept⟩
theorem line_firstA {p r g q:Nat} {m:Ext} {N:NC} {s0:Ps} {y:Int × PCounts × Ps} (lb qb:Nat) (ha:(lb≠p∧lb≠r∧lb≠g)∧(qb≠p∧qb≠r∧qb≠g))
    (hw:∀ W,PAt 1 p r g m 0 N W s0→Calls Tryz.prog 77 #[.pointer (some ⟨q,0,none⟩)] W (FirstLeft 1 p r g m N W y)) :
    ReadsFirst p r g m N s0 119 #[.pointer (some ⟨lb,0,none⟩),.pointer (some ⟨qb,0,none⟩)] (CaughtL lb qb p 125 (.func (.func 77) #[.pointer (some ⟨q,0,none⟩)] #[])) (y.1,y.2.1,y.2.2.expect [10]):=fun W hP hX=>by
  obtain ⟨cw,cp⟩:=hX.cells
  have HB:=Lib.hid (Lc.new (cs:=#[.int .i64 0,.int .i64 0,.int .i64 0,.int .i64 0,.int .i64 0,.int .i64 0,.int .i64 0]) (t:=124) hP (by decide))
  have HC:=Lib.hid (hX.kept (Kept3.of_below (p:=p) (r:=r) (g:=g) ((Below.refl _ W).alloc (Nat.le_refl _) (.cells #[.int .i64 0,.int .i64 0,.int .i64 0,.int .i64 0,.int .i64 0,.int .i64 0,.int .i64 0] 124))) ha)
  obtain ⟨cw,cp⟩:=HC.out.cells
  have HW:=Lib.hid (hw _ HB.out.pat)
  have HX:=Lib.hid (fun (W:World) (V:Int) (t:Ps) (h:PAt 1 p r g m V N W t)=>sb_lf ▸ expect_any ⟨#[10]⟩ (by decide) h (Nat.le_refl _))
  obtain ⟨V,⟨ci,cl,co,ca,cn,cq,cm⟩,s1⟩:=y
  unfold FirstLeft countsV at HW
  unfold countsV
  dsimp only at HW ⊢
  clear hP hX hw
  go_enter Tryz.func119,Tryz.ntmps119
  go_wp2_with (first
    | (go_at_call 77;refine HW.out.mono ?_;rintro e w1 ⟨rfl,hP1,hK1⟩;have b0:Below w1.heap.size w1 (w1.alloc (.cells #[.int .i64 ci,.int .i64 cl,.int .i64 co,.int .i64 ca,.int .i64 cn,.int .i64 cq,.int .i64 cm] 124)):=(Below.refl _ w1).alloc (Nat.le_refl _) _;have r0:=heap_alloc_new w1 (.cells #[.int .i64 ci,.int .i64 cl,.int .i64 co,.int .i64 ca,.int .i64 cn,.int .i64 cq,.int .i64 cm] 124);have hKs:=hK1.trans (Kept3.of_below (p:=p) (r:=r) (g:=g) b0);obtain ⟨cw1,cp1⟩:=(HC.out.kept hKs ha).cells;have HT1:=Lib.hid (And.intro r0 (show w1.heap.size≠p∧w1.heap.size≠r∧w1.heap.size≠g from by have:=hP1.lt;have:=hP1.glt;omega));have HB1:=Lib.hid (show Lc 1 p r g m V N W W.heap.size 124 (w1.alloc (.cells #[.int .i64 ci,.int .i64 cl,.int .i64 co,.int .i64 ca,.int .i64 cn,.int .i64 cq,.int .i64 cm] 124)) #[.int .i64 0,.int .i64 0,.int .i64 0,.int .i64 0,.int .i64 0,.int .i64 0,.int .i64 0] s1 from ⟨hP1.below b0,HB.out.kept.trans hKs,(hKs.block _ (lt_of_row HB.out.row) (by have:=HB.out.old;omega) (by have:=HB.out.old;omega) (by have:=HB.out.old;omega)).trans HB.out.row,HB.out.base,HB.out.topb,HB.out.tag⟩);clear hP1 hK1 hKs b0 r0)
    | (go_at_call 120;refine (HX.out _ _ _ HB1.out.pat).mono ?_;rintro e w2 ⟨rfl,hP2,hK2⟩;have hT2:=(hK2.block _ (lt_of_row HT1.out.1) HT1.out.2.1 HT1.out.2.2.1 HT1.out.2.2.2).trans HT1.out.1;have HB2:=Lib.hid (HB1.out.call hP2 hK2);have t0:w2.cell? ⟨w1.heap.size,0,none⟩=some (.int .i64 ci):=(by rw [cell_of_row _ _ _ _ _ _ hT2];rfl);have u0:=HB2.out.cell (j:=0) rfl;have v0:=HB2.out.free 0;have t1:w2.cell? ⟨w1.heap.size,1,none⟩=some (.int .i64 cl):=(by rw [cell_of_row _ _ _ _ _ _ hT2];rfl);have u1:=HB2.out.cell (j:=1) rfl;have v1:=HB2.out.free 1;have t2:w2.cell? ⟨w1.heap.size,2,none⟩=some (.int .i64 co):=(by rw [cell_of_row _ _ _ _ _ _ hT2];rfl);have u2:=HB2.out.cell (j:=2) rfl;have v2:=HB2.out.free 2;have t3:w2.cell? ⟨w1.heap.size,3,none⟩=some (.int .i64 ca):=(by rw [cell_of_row _ _ _ _ _ _ hT2];rfl);have u3:=HB2.out.cell (j:=3) rfl;have v3:=HB2.out.free 3;have t4:w2.cell? ⟨w1.heap.size,4,none⟩=some (.int .i64 cn):=(by rw [cell_of_row _ _ _ _ _ _ hT2];rfl);have u4:=HB2.out.cell (j:=4) rfl;have v4:=HB2.out.free 4;have t5:w2.cell? ⟨w1.heap.size,5,none⟩=some (.int .i64 cq):=(by rw [cell_of_row _ _ _ _ _ _ hT2];rfl);have u5:=HB2.out.cell (j:=5) rfl;have v5:=HB2.out.free 5;have t6:w2.cell? ⟨w1.heap.size,6,none⟩=some (.int .i64 cm):=(by rw [cell_of_row _ _ _ _ _ _ hT2];rfl);have u6:=HB2.out.cell (j:=6) rfl;have v6:=HB2.out.free 6;clear hP2 hK2 hT2))
  try simp only [Exit.inBlock,Exit.then]
  have HF:=(((((((HB2.out.set 0 (.int .i64 ci)).set 1 (.int .i64 cl)).set 2 (.int .i64 co)).set 3 (.int .i64 ca)).set 4 (.int .i64 cn)).set 5 (.int .i64 cq)).set 6 (.int .i64 cm))
  refine bodyPost_ret (results_cell_row rfl _ _ W.heap.size 124 _ (0,0) _ rfl HF.row Tryz.underlying124 rfl (by kernel_rfl)) rfl ?_
  exact ⟨rfl,HF.pat,HF.kept⟩
end Go.Proofs.YtldnepogjnahfaaGreatDoor
