/- A netlist's nodes by definition: ands, then ports, each with its literals and its variables (conditions: the netlist lies where its value says; words of 0 to 64 bits, ports' first variables no more than 2^61 from 0); The contract of the nodes by definition (conditions: the netlist lies where its value says; at most 1000000 nodes; words of 0 to 64 bits, ports' first variables no more than 2^61 from 0); A node's level by definition, out of the levels that are told (conditions: the node's literals and the levels lie where their slices say; each literal's variable has a level; levels of -1 to 4000000000000); Levels by definition, as plain lists: one round, all rounds, what is left (no condition); the bounds of what lies in them; The contract of the levels by definition (conditions: the netlist lies where its value says; it fits, is modest, and its ports begin near 0); What is wrong with a netlist, and the order of its nodes, by definition (conditions: the netlist lies where its value says; it fits, is modest, and its ports begin near 0; at most 900 nodes in order); On which variables literals hang, by definition (conditions: the netlist and the literals lie where their values say; the netlist fits, is modest, its ports begin near 0; at most 900 nodes; at most 1000 literals of 0 to 2^41); The contract of layer 6's light (condition: the netlist lies where its value says). -/
import Derived.Test.YtldnepogjnahfaaGreatDoorVZC
import Derived.Test.YtldnepogjnahfaaGreatDoorVZD
import Derived.Deep.RegionHeld3
import Derived.Deep.DrawnRows
import Derived.Test.YtldnepogjnahfaaGreatDoorVZB
set_option linter.unusedVariables false
namespace Go.Proofs.YtldnepogjnahfaaGreatDoor
open Go.ChangeShapes Go.WideShapes Go.RowKit
structure PNode where
  nr:Bool
  nm:Int
  na:Int
  nf:List Int
  nv:List Int
def andNodes:Nat→List PAnd→List PNode
  | _,[]=>[]
  | k,x::l=>⟨false,0,(k:Int),[x.aa,x.ab],[x.av]⟩::andNodes (k+1) l
def portNodes (w:Int) (i:Nat):Nat→List PRead→List PNode
  | _,[]=>[]
  | k,r::l=>⟨true,(i:Int),(k:Int),r.ra,dataL r.rv w⟩::portNodes w i (k+1) l
def memNodes:Nat→List PMem→List PNode
  | _,[]=>[]
  | i,m::l=>portNodes m.mw i 0 m.mr++memNodes (i+1) l
def PNet.nodes (n:PNet):List PNode:=andNodes 0 n.ands++memNodes 0 n.mems
structure NodeS where
  a:Option Addr
  c:Nat
  a2:Option Addr
  c2:Nat
def nodeCells (p:PNode × NodeS):List Value:=[.bool p.1.nr,.int .i64 p.1.nm,.int .i64 p.1.na,.slice p.2.a p.1.nf.length p.2.c,.slice p.2.a2 p.1.nv.length p.2.c2]
theorem flat_get {α β:Type} (f:α→List β) (k:Nat) (hk:∀ x,(f x).length=k):∀ (l:List α) (j i:Nat) (x:α),l[j]?=some x→i<k→(l.flatMap f)[j*k+i]?=(f x)[i]?:=by
  intro l
  induction l with
  | nil=>intro j i x h _;simp at h
  | cons y l ih =>
    intro j i x h hi
    rw [List.flatMap_cons]
    cases j with
    | zero =>
      simp at h
      subst h
      rw [Nat.zero_mul,Nat.zero_add,List.getElem?_append_left (by rw [hk];exact hi)]
    | succ j =>
      simp at h
      rw [List.getElem?_append_right (by rw [hk,Nat.succ_mul];omega),hk,show (j+1)*k+i - k=j*k+i from by rw [Nat.succ_mul];omega]
      exact ih j i x h hi
def SrcP (w:World) (P:Nat→Prop) (A:Option Addr) (xs:List Int):Prop :=
  xs≠[]→∃ b o,A=some ⟨b,o,none⟩∧P b∧∀ j x,xs[j]?=some x→w.cell? ⟨b,o+j,none⟩=some (.int .i64 x)
theorem SrcP.src {w:World} {P:Nat→Prop} {A:Option Addr} {xs:List Int} {B:Nat} (h:SrcP w P A xs) (hP:∀ b,P b→b<B):Src w B A xs:=fun hn=>by
  obtain ⟨b,o,e,h1,h2⟩:=h hn
  exact ⟨b,o,e,hP b h1,h2⟩
theorem SrcP.keep {w w':World} {P:Nat→Prop} {A:Option Addr} {xs:List Int} (h:SrcP w P A xs) (hk:∀ b,P b→w'.heap[b]?=w.heap[b]?):SrcP w' P A xs:=fun hn=>by
  obtain ⟨b,o,e,h1,h2⟩:=h hn
  exact ⟨b,o,e,h1,fun j x hj=>(World.cell?_of_block (a:=⟨b,o+j,none⟩) (hk b h1)).trans (h2 j x hj)⟩
def Elem (P:Nat→Prop) (w:World) (v:Value) (A:Option Addr) (xs:List Int):Prop :=
  xs≠[]→∃ b o,A=some ⟨b,o,none⟩∧b<w.heap.size∧v.ownBlock≠some b∧(∀ j x,xs[j]?=some x→w.cell? ⟨b,o+j,none⟩=some (.int .i64 x))∧P b
variable {P:Nat→Prop}
theorem Elem.call {w w':World} {v:Value} {A:Option Addr} {xs:List Int} (h:Elem P w v A xs) (hb:Below w.heap.size w w'):Elem P w' v A xs:=fun hn=>by
  obtain ⟨b,o,e,h1,h2,h3,h4⟩:=h hn
  exact ⟨b,o,e,by have:=hb.size;omega,h2,fun j x hj=>(hb.cell (p:=⟨b,o+j,none⟩) h1).trans (h3 j x hj),h4⟩
theorem Elem.alloc {w:World} {v:Value} {A:Option Addr} {xs:List Int} (h:Elem P w v A xs) (o:Obj):Elem P (w.alloc o) v A xs:=h.call ((Below.refl _ w).alloc (Nat.le_refl _) o)
theorem Elem.went {w w':World} {v v':Value} {A:Option Addr} {xs:List Int} (h:Elem P w v A xs) (hW:Went w v v' w'):Elem P w' v' A xs:=fun hn=>by
  obtain ⟨b,o,e,h1,h2,h3,h4⟩:=h hn
  obtain ⟨g1,g2,g3⟩:=hW.other h1 h2
  exact ⟨b,o,e,g3,g2,fun j x hj=>(World.cell?_of_block (a:=⟨b,o+j,none⟩) g1).trans (h3 j x hj),h4⟩
theorem Elem.srcP {w:World} {v:Value} {A:Option Addr} {xs:List Int} (h:Elem P w v A xs):SrcP w (fun b=>P b∧b<w.heap.size) A xs:=fun hn=>by
  obtain ⟨b,o,e,h1,h2,h3,h4⟩:=h hn
  exact ⟨b,o,e,⟨h4,h1⟩,h3⟩
theorem Elem.old {B:Nat} {w:World} {v:Value} {A:Option Addr} {xs:List Int} (h:Src w B A xs) (hB:B≤w.heap.size) (hv:∀ k,v.ownBlock=some k→B≤k) (hP:∀ b,b<B→P b):Elem P w v A xs:=fun hn=>by
  obtain ⟨b,o,e,h1,h2⟩:=h hn
  exact ⟨b,o,e,by omega,fun e2=>by have:=hv b e2;omega,h2,hP b h1⟩
theorem Elem.new {w w1:World} {v:Value} {A:Option Addr} {xs:List Int} (h:High w w1.heap.size A xs) (hs:Src w w.heap.size A xs) (hv:∀ k,v.ownBlock=some k→k<w1.heap.size) (hP:∀ b,w1.heap.size≤b→P b):Elem P w v A xs:=fun hn=>by
  obtain ⟨b,o,e,h1,h2⟩:=h hn
  obtain ⟨b',o',e',h1',_⟩:=hs hn
  rw [e] at e'
  injection e' with e'
  injection e' with e1 e2
  subst e1
  exact ⟨b,o,e,h1',fun e2=>by have:=hv b e2;omega,h2,hP b h1⟩
theorem Elem.one (w:World) (v:Value) (x:Int) (g:Nat) (hg:g=w.heap.size) (hv:∀ k,v.ownBlock=some k→k<w.heap.size) (hP:P g):Elem P (w.alloc (.cells #[.int .i64 x] 3)) v (some ⟨g,0,none⟩) [x]:=fun hn=>by
  subst hg
  obtain ⟨b,o,e,h1,h2⟩:=Src.one (t:=3) (fr:=(0,0)) (heap_alloc_new w (.cells #[.int .i64 x] 3)) (Nat.lt_succ_self _) hn
  injection e with e
  injection e with e1 e2
  subst e1
  subst e2
  exact ⟨w.heap.size,0,rfl,by simp,fun e3=>by have:=hv _ e3;omega,h2,hP⟩
theorem Elem.two (w:World) (v:Value) (x y:Int) (g:Nat) (hg:g=w.heap.size) (hv:∀ k,v.ownBlock=some k→k<w.heap.size) (hP:P g):Elem P (w.alloc (.cells #[.int .i64 x,.int .i64 y] 3)) v (some ⟨g,0,none⟩) [x,y]:=fun hn=>by
  subst hg
  obtain ⟨b,o,e,h1,h2⟩:=Src.two (t:=3) (fr:=(0,0)) (heap_alloc_new w (.cells #[.int .i64 x,.int .i64 y] 3)) (Nat.lt_succ_self _) hn
  injection e with e
  injection e with e1 e2
  subst e1
  subst e2
  exact ⟨w.heap.size,0,rfl,by simp,fun e3=>by have:=hv _ e3;omega,h2,hP⟩
structure OwnN (P:Nat→Prop) (B:Nat) (w0 w:World) (v:Value) (ps:List (PNode × NodeS)):Prop where
  row:w.ownsRow B 141 5 v ps.length (ps.flatMap nodeCells)
  elems:∀ p∈ps,Elem P w v p.2.a p.1.nf∧Elem P w v p.2.a2 p.1.nv
  below:Below B w0 w
  size:B≤w.heap.size
theorem OwnN.nil (w:World):OwnN P w.heap.size w w (.slice none 0 0) []:=⟨World.ownsRow_nil _ _ _ _,by simp,Below.refl _ _,Nat.le_refl _⟩
theorem OwnN.lt {B:Nat} {w0 w:World} {v:Value} {ps:List (PNode × NodeS)} (h:OwnN P B w0 w v ps):∀ k,v.ownBlock=some k→k<w.heap.size:=fun k hk=>(h.row.lt k hk).2
theorem OwnN.ge {B:Nat} {w0 w:World} {v:Value} {ps:List (PNode × NodeS)} (h:OwnN P B w0 w v ps):∀ k,v.ownBlock=some k→B≤k:=fun k hk=>(h.row.lt k hk).1
theorem OwnN.call {B:Nat} {w0 w w':World} {v:Value} {ps:List (PNode × NodeS)} (h:OwnN P B w0 w v ps) (hb:Below w.heap.size w w'):OwnN P B w0 w' v ps:=by
  refine ⟨h.row.kept (row:=none) ⟨hb.os,hb.tape,hb.output,hb.size,fun k hk _=>hb.block k hk⟩ ?_,fun p hp=>⟨(h.elems p hp).1.call hb,(h.elems p hp).2.call hb⟩,h.below.trans (hb.mono h.size),Nat.le_trans h.size hb.size⟩
  cases hv:v.ownBlock with
  | none=>exact .inl rfl
  | some k=>exact .inr (by simp)
theorem OwnN.alloc {B:Nat} {w0 w:World} {v:Value} {ps:List (PNode × NodeS)} (h:OwnN P B w0 w v ps) (o:Obj):OwnN P B w0 (w.alloc o) v ps:=h.call ((Below.refl _ w).alloc (Nat.le_refl _) o)
theorem node_info:(Tryz.prog.info? 141).map (fun i=>(i.zero,i.size,i.bytes))=some (some (.agg #[.bool false,.int .i64 0,.int .i64 0,.slice none 0 0,.slice none 0 0]),5,72):=by kernel_rfl
variable {ops:Array Oper} {rest:List Oper} {o:Oper} {act:Act} {Q:Exit→Act→World→Prop}
theorem run_node {w w0:World} {B:Nat} {v:Value} {ps:List (PNode × NodeS)} (hown:OwnN P B w0 w v ps) (p:PNode × NodeS) (h1:Elem P w v p.2.a p.1.nf) (h2:Elem P w v p.2.a2 p.1.nv) (ty:TypeId) (hb1:ps.length≤1000000) :
    ∃ v' w',(Builtin.append_ #[138,138] ty #[v,.slice (some ⟨w.heap.size,0,none⟩) 1 1]).run Tryz.prog (w.alloc (.cells (nodeCells p).toArray 141))=.ok v' w'∧OwnN P B w0 w' v' (ps++[p]):=by
  obtain ⟨i0,hi,hz0,hz1,hz2⟩:=info_parts node_info
  have hO:=hown.alloc (.cells (nodeCells p).toArray 141)
  obtain ⟨v',w',hr,g2,g3,_,g5⟩:=run_append_own_at (P:=Tryz.prog) (w.alloc (.cells (nodeCells p).toArray 141)) B 138 ty 141 i0 _ 5 72 Tryz.underlying138 hi hz0 hz1 hz2 rfl (by decide)
    v ps.length (ps.flatMap nodeCells) hO.row ⟨w.heap.size,0,none⟩ 1 1 (nodeCells p) rfl
    (fun j u hj=>by
      rw [show ((⟨w.heap.size,0,none⟩:Addr).add j)=⟨w.heap.size,0+j,none⟩ from Addr.add_lit _ _ _,cell_of_row _ w.heap.size (0+j) _ _ _ (heap_alloc_new w _),Nat.zero_add,List.getElem?_toArray]
      exact hj)
    (fun u hu=>by simp only [nodeCells,List.mem_cons,List.not_mem_nil,or_false] at hu;rcases hu with rfl | rfl | rfl | rfl | rfl <;> rfl) (by unfold maxLen;omega) (by omega) hO.size
  have hW:Went (w.alloc (.cells (nodeCells p).toArray 141)) v v' w':=⟨g3,g5⟩
  refine ⟨v',w',hr,⟨?_,fun q hq=>?_,hO.below.grown g3 hO.size (fun k hk=>hO.ge k hk),Nat.le_trans hO.size g3.size⟩⟩
  · rw [List.length_append,List.flatMap_append]
    simpa using g2
  · rcases List.mem_append.1 hq with hq | hq
    · exact ⟨(hO.elems q hq).1.went hW,(hO.elems q hq).2.went hW⟩
    · simp at hq
      subst hq
      exact ⟨(h1.alloc _).went hW,(h2.alloc _).went hW⟩
theorem wpl_node {w w0:World} {B g:Nat} {v:Value} {ps:List (PNode × NodeS)} (hgd:o.guard=none) (s x:Operand) (ho:o.op=.call { callee:=.builtin .append,args:=#[s,x],argTypes:=#[138,138] })
    (hs:act.eval s=v) (hown:OwnN P B w0 w v ps) (p:PNode × NodeS) (h1:Elem P w v p.2.a p.1.nf) (h2:Elem P w v p.2.a2 p.1.nv) (hx:act.eval x=.slice (some ⟨g,0,none⟩) 1 1) (hg:g=w.heap.size) (hb1:ps.length≤1000000)
    (h:∀ v' w',OwnN P B w0 w' v' (ps++[p])→wpList Tryz.prog ops Q rest (act.put o.dst v') w') :
    wpList Tryz.prog ops Q (o::rest) act (w.alloc (.cells (nodeCells p).toArray 141)):=by
  subst hg
  refine wpList_plain hgd fun K hK=>?_
  obtain ⟨v',w',hr,h3⟩:=run_node hown p h1 h2 o.type hb1
  unfold Oper.wp execOp
  simp only [ho,resolve,invoke,builtin,Sem.run_bind,Sem.run_pure,Result.andThen_ok,List.map_toArray,List.map_cons,List.map_nil,hs,hx,hr]
  exact hK _ _ (h v' w' h3)
theorem step_node {w w0:World} {B g:Nat} {v:Value} {ps:List (PNode × NodeS)} {K:Act→World→Prop} {E:Prop} (hgd:o.guard=none) (s x:Operand) (ho:o.op=.call { callee:=.builtin .append,args:=#[s,x],argTypes:=#[138,138] })
    (hs:act.eval s=v) (hown:OwnN P B w0 w v ps) (p:PNode × NodeS) (h1:Elem P w v p.2.a p.1.nf) (h2:Elem P w v p.2.a2 p.1.nv) (hx:act.eval x=.slice (some ⟨g,0,none⟩) 1 1) (hg:g=w.heap.size) (hb1:ps.length≤1000000)
    (h:∀ v' w',OwnN P B w0 w' v' (ps++[p])→K (act.put o.dst v') w') :
    if Region.wanted o (yielded ops act.tmps)=true then Oper.wp Tryz.prog o act (w.alloc (.cells (nodeCells p).toArray 141)) K Q else E:=by
  subst hg
  have hw:Region.wanted o (yielded ops act.tmps)=true:=by simp [Region.wanted,hgd]
  rw [if_pos hw]
  obtain ⟨v',w',hr,h3⟩:=run_node hown p h1 h2 o.type hb1
  unfold Oper.wp execOp
  simp only [ho,resolve,invoke,builtin,Sem.run_bind,Sem.run_pure,Result.andThen_ok,List.map_toArray,List.map_cons,List.map_nil,hs,hx,hr]
  exact h v' w' h3
def NodeAt (w:World) (P:Nat→Prop) (b o:Nat) (x:PNode):Prop :=
  ∃ a c a2 c2,w.cell? ⟨b,o,none⟩=some (.bool x.nr)∧w.cell? ⟨b,o+1,none⟩=some (.int .i64 x.nm)∧w.cell? ⟨b,o+2,none⟩=some (.int .i64 x.na)∧w.cell? ⟨b,o+3,none⟩=some (.slice a x.nf.length c)∧w.cell? ⟨b,o+4,none⟩=some (.slice a2 x.nv.length c2) ∧
    SrcP w P a x.nf∧SrcP w P a2 x.nv
def NodesAt (w:World) (P:Nat→Prop) (A:Option Addr) (D:List PNode):Prop :=
  D≠[]→∃ b o,A=some ⟨b,o,none⟩∧P b∧∀ j x,D[j]?=some x→NodeAt w P b (o+j*5) x
theorem NodeAt.keep {w w':World} {P:Nat→Prop} {b o:Nat} {x:PNode} (h:NodeAt w P b o x) (hb:P b) (hk:∀ b,P b→w'.heap[b]?=w.heap[b]?):NodeAt w' P b o x:=by
  obtain ⟨a,c,a2,c2,h0,h1,h2,h3,h4,h5,h6⟩:=h
  have hc:∀ i,w'.cell? ⟨b,i,none⟩=w.cell? ⟨b,i,none⟩:=fun i=>World.cell?_of_block (a:=⟨b,i,none⟩) (hk b hb)
  exact ⟨a,c,a2,c2,(hc _).trans h0,(hc _).trans h1,(hc _).trans h2,(hc _).trans h3,(hc _).trans h4,h5.keep hk,h6.keep hk⟩
theorem NodesAt.keep {w w':World} {P:Nat→Prop} {A:Option Addr} {D:List PNode} (h:NodesAt w P A D) (hk:∀ b,P b→w'.heap[b]?=w.heap[b]?):NodesAt w' P A D:=fun hn=>by
  obtain ⟨b,o,e,hb,h1⟩:=h hn
  exact ⟨b,o,e,hb,fun j x hj=>(h1 j x hj).keep hb hk⟩
theorem NodesAt.at {w:World} {P:Nat→Prop} {A:Option Addr} {D:List PNode} (h:NodesAt w P A D) {j:Nat} {x:PNode} (hj:D[j]?=some x):∃ b o,A=some ⟨b,o,none⟩∧P b∧NodeAt w P b (o+j*5) x:=by
  have hn:D≠[]:=by rintro rfl;simp at hj
  obtain ⟨b,o,e,hb,h1⟩:=h hn
  exact ⟨b,o,e,hb,h1 j x hj⟩
def Sided (B n:Nat) (w:World) (b:Nat):Prop:=(b<B∨n≤b)∧b<w.heap.size
def NodesLeft (B:Nat) (w:World) (l:List PNode) (e:Ending) (w':World):Prop:=∃ A c,e=.returned (.slice A l.length c)∧NodesAt w' (Sided B w.heap.size w') A l∧Below w.heap.size w w'
theorem cell_of_own {w:World} {base e:Nat} {g n cap:Nat} {xs:List Value} (h:w.ownsRow base e 5 (.slice (some ⟨g,0,none⟩) n cap) n xs) (j:Nat) (hj:j<n*5):w.cell? ⟨g,j,none⟩=xs[j]?:=h.cellAt j hj
theorem OwnN.form {P:Nat→Prop} {B:Nat} {w0 w:World} {v:Value} {ps:List (PNode × NodeS)} (h:OwnN P B w0 w v ps) (hP:∀ b,B≤b→P b):∃ A c,v=.slice A ps.length c∧NodesAt w (fun b=>P b∧b<w.heap.size) A (ps.map Prod.fst):=by
  rcases h.row.2 with ⟨h1,h0⟩ | ⟨g,cap,cur,hv,hb,hg,hnc,hcm,hs,ht⟩
  · have:ps=[]:=List.eq_nil_of_length_eq_zero h0
    subst this
    exact ⟨none,0,h1,fun hn=>absurd rfl hn⟩
  · refine ⟨_,cap,hv,fun _=>⟨g,0,rfl,⟨hP g hb,lt_of_row hg⟩,fun j x hj=>?_⟩⟩
    have hrow:=h.row
    rw [hv] at hrow
    rw [List.getElem?_map] at hj
    obtain ⟨p,hp,rfl⟩:=Option.map_eq_some_iff.1 hj
    have hjl:=lt_of_some hp
    have hc:∀ i u,i<5→(nodeCells p)[i]?=some u→w.cell? ⟨g,j*5+i,none⟩=some u:=fun i u hi hu=>by
      rw [cell_of_own hrow (j*5+i) (by omega),flat_get nodeCells 5 (fun _=>rfl) ps j i p hp hi,hu]
    obtain ⟨q1,q2⟩:=h.elems p (mem_of_some hp)
    rw [Nat.zero_add]
    exact ⟨p.2.a,p.2.c,p.2.a2,p.2.c2,hc 0 _ (by omega) rfl,hc 1 _ (by omega) rfl,hc 2 _ (by omega) rfl,hc 3 _ (by omega) rfl,hc 4 _ (by omega) rfl,q1.srcP,q2.srcP⟩
theorem nlen_of {ps:List (PNode × NodeS)} {T D:List PNode} (h:ps.map Prod.fst++T=D):ps.length≤D.length:=by
  have:=congrArg List.length h
  simp at this
  omega
set_option maxRecDepth 100000 in
set_option maxHeartbeats 4000000 in
theorem rnodes_any (n:PNet) (S:NetS) (B:Nat) (w:World) (h:NetAt w B S n) (hBw:B≤w.heap.size) (hm:n.modest) (ht:∀ m∈n.mems,m.told) (hd:n.nodes.length≤1000000) :
    Calls Tryz.prog 87 #[.agg #[.int .i64 n.vars,.slice S.i n.inputs.length S.ic,.slice S.l n.latches.length S.lc,.slice S.o n.outs.length S.oc,.slice S.b n.bads.length S.bc,.slice S.c n.cons.length S.cc,.slice S.m n.mems.length S.mc,.slice S.a n.ands.length S.ac]] w (NodesLeft B w n.nodes):=by
  have hbx:=below_box w #[.int .i64 n.vars,.slice S.i n.inputs.length S.ic,.slice S.l n.latches.length S.lc,.slice S.o n.outs.length S.oc,.slice S.b n.bads.length S.bc,.slice S.c n.cons.length S.cc,.slice S.m n.mems.length S.mc,.slice S.a n.ands.length S.ac] 27
  have hM:=netBox_new w n S 27
  have hN:=NetAt.below hbx hBw h
  have hB2:w.heap.size≤(w.alloc (.cells #[.int .i64 n.vars,.slice S.i n.inputs.length S.ic,.slice S.l n.latches.length S.lc,.slice S.o n.outs.length S.oc,.slice S.b n.bads.length S.bc,.slice S.c n.cons.length S.cc,.slice S.m n.mems.length S.mc,.slice S.a n.ands.length S.ac] 27)).heap.size:=by simp
  generalize hPe:(fun b=>b<B∨w.heap.size≤b)=P
  have hPl:∀ b,b<B→P b:=fun b hb=>by rw [← hPe];exact .inl hb
  have hPh:∀ b,w.heap.size≤b→P b:=fun b hb=>by rw [← hPe];exact .inr hb
  have HPE:=Lib.hid hPe
  have HPL:=Lib.hid hPl
  have HPH:=Lib.hid hPh
  clear hPe hPl hPh
  have hm1:=hm.mems
  have ha1:=hm.ands
  have hp1:=Lib.hid hm.ports
  have HT:=Lib.hid ht
  clear h hm ht
  go_enter Tryz.func87,Tryz.ntmps87
  go_wp2_with fail
  generalize w.alloc (.cells #[.int .i64 n.vars,.slice S.i n.inputs.length S.ic,.slice S.l n.latches.length S.lc,.slice S.o n.outs.length S.oc,.slice S.b n.bads.length S.bc,.slice S.c n.cons.length S.cc,.slice S.m n.mems.length S.mc,.slice S.a n.ands.length S.ac] 27)=w2 at hN hM hbx hB2 ⊢
  have HN:=Lib.hid (And.intro hN (And.intro hM hbx))
  clear hbx hM hN
  have HB:=Lib.hid HN.out.2.2
  have HB2:=Lib.hid hB2
  have HBW:=Lib.hid (Nat.le_trans hBw hB2)
  clear hB2
  go_loopg [3,4] n.ands.length (fun m s3 s4 wx=>∃ (k:Nat) (ps:List (PNode × NodeS)),k+m=n.ands.length∧s4=.int .i64 k∧OwnN P w2.heap.size w2 wx s3 ps∧Aside (ps.map Prod.fst++(andNodes k (n.ands.drop k)++memNodes 0 n.mems)=n.nodes))
  case atStart=>exact ⟨0,[],by omega,rfl,OwnN.nil _,by simp [Aside,PNet.nodes]⟩
  case round =>
    obtain ⟨k,ps,hk,rfl,hO,HL⟩:=hrel
    generalize gk=m at *
    have hL:ps.length≤1000000:=Nat.le_trans (nlen_of HL.out) hd
    obtain ⟨e0,e1,e2,e3,e4,e5,e6,e7,e8⟩:=HN.out.2.1.below hO.below HN.out.2.1.lt
    have hNw:=NetAt.below hO.below HBW.out HN.out.1
    by_cases hlt:k<n.ands.length
    · obtain ⟨x,hx⟩:=some_of_lt hlt
      have hltI:(k:Int)<(n.ands.length:Int):=by omega
      obtain ⟨b,o,hS,hbg,hcell⟩:=hNw.ands.at hx
      obtain ⟨m0,m1,m2⟩:=hcell k x hx
      rw [hS] at e7
      have HX:=Lib.hid (show ps.map Prod.fst++⟨false,0,(k:Int),[x.aa,x.ab],[x.av]⟩::(andNodes (k+1) (n.ands.drop (k+1))++memNodes 0 n.mems)=n.nodes by
        rw [← HL.out,drop_some hx];simp [andNodes])
      have hO1:=hO.alloc (.cells #[.int .i64 x.av,.int .i64 x.aa,.int .i64 x.ab] 57)
      have hE1:=Elem.two (wr.alloc (.cells #[.int .i64 x.av,.int .i64 x.aa,.int .i64 x.ab] 57)) u3 x.aa x.ab (wr.heap.size+1) (by simp) hO1.lt (HPH.out _ (by have:=hO.size;have:=HB2.out;omega))
      have hO2:=hO1.alloc (.cells #[.int .i64 x.aa,.int .i64 x.ab] 3)
      have hE2:=Elem.one ((wr.alloc (.cells #[.int .i64 x.av,.int .i64 x.aa,.int .i64 x.ab] 57)).alloc (.cells #[.int .i64 x.aa,.int .i64 x.ab] 3)) u3 x.av (wr.heap.size+1+1) (by simp) hO2.lt (HPH.out _ (by have:=hO.size;have:=HB2.out;omega))
      have hO3:=hO2.alloc (.cells #[.int .i64 x.av] 3)
      have HE:=Lib.hid (And.intro (hE1.alloc (.cells #[.int .i64 x.av] 3)) (And.intro hE2 hO3))
      clear hS hcell hNw hx HL hO1 hE1 hO2 hE2 hO3
      go_wp2_with (at_builtin;refine wpl_node (P:=P) (v:=u3) rfl _ _ rfl rfl HE.out.2.2 (⟨false,0,(k:Int),[x.aa,x.ab],[x.av]⟩,⟨some ⟨wr.heap.size+1,0,none⟩,2,some ⟨wr.heap.size+1+1,0,none⟩,1⟩) HE.out.1 HE.out.2.1 rfl (by simp) hL ?_;intro v5 w5 hO5)
      go_roundg (m - 1)
      case measure=>omega
      case rel=>exact ⟨k+1,_,by omega,by first | rfl | simp,hO5,by show _=_;rw [← HX.out];simp⟩
    · have hltn:¬ ((k:Int)<(n.ands.length:Int)):=by omega
      have HL2:=Lib.hid (show ps.map Prod.fst++memNodes 0 (n.mems.drop 0)=n.nodes by
        rw [← HL.out,List.drop_eq_nil_of_le (show n.ands.length≤k by omega)];simp [andNodes])
      clear HL hNw
      go_wp2_with fail
      go_loopg [3,6] n.mems.length (fun m s3 s6 wx=>∃ (i:Nat) (ps:List (PNode × NodeS)),i+m=n.mems.length∧s6=.int .i64 i∧OwnN P w2.heap.size w2 wx s3 ps∧Aside (ps.map Prod.fst++memNodes i (n.mems.drop i)=n.nodes))
      case atStart=>exact ⟨0,ps,by omega,rfl,hO,HL2.out⟩
      case round =>
        clear hO HL2 hL e0 e1 e2 e3 e4 e5 e6 e7 e8 hltn hk hlt
        obtain ⟨i,ps,hi,rfl,hO,HL⟩:=hrel
        generalize gk=m2 at *
        have hL:ps.length≤1000000:=Nat.le_trans (nlen_of HL.out) hd
        obtain ⟨e0,e1,e2,e3,e4,e5,e6,e7,e8⟩:=HN.out.2.1.below hO.below HN.out.2.1.lt
        by_cases hlt:i<n.mems.length
        · obtain ⟨x,hx⟩:=some_of_lt hlt
          have hltI:(i:Int)<(n.mems.length:Int):=by omega
          have HX:=Lib.hid hx
          have HL2:=Lib.hid (show ps.map Prod.fst++(portNodes x.mw i 0 (x.mr.drop 0)++memNodes (i+1) (n.mems.drop (i+1)))=n.nodes by
            rw [← HL.out,drop_some hx];simp [memNodes])
          have hxt:=HT.out x (mem_of_some hx)
          have hxl:=(hp1.out x (mem_of_some hx)).1
          obtain ⟨b,o,hS,hbB,hcell⟩:=HN.out.1.mems.at hx
          have hbg:=Nat.lt_of_lt_of_le hbB HBW.out
          obtain ⟨a,c,a2,c2,m0',m1',m2',m3',m4',hPo⟩:=hcell i x hx
          have HC:=Lib.hid (And.intro hbg (And.intro m0' (And.intro m1' (And.intro m2' (And.intro m3' (And.intro m4' (And.intro hPo hS)))))))
          clear hbB hcell hx HL hPo m0' m1' m2' m3' m4' hS
          go_wp2_with fail
          go_loopg [3,7] x.mr.length (fun m s3 s7 wx=>∃ (j:Nat) (ps:List (PNode × NodeS)),j+m=x.mr.length∧s7=.int .i64 j∧OwnN P w2.heap.size w2 wx s3 ps∧Aside (ps.map Prod.fst++(portNodes x.mw i j (x.mr.drop j)++memNodes (i+1) (n.mems.drop (i+1)))=n.nodes))
          case atStart=>exact ⟨0,ps,by omega,rfl,hO,HL2.out⟩
          case round =>
            clear hO HL2 hL e0 e1 e2 e3 e4 e5 e6 e7 e8
            obtain ⟨j,ps,hj,rfl,hO,HL⟩:=hrel
            generalize gk=m3 at *
            have hL:ps.length≤1000000:=Nat.le_trans (nlen_of HL.out) hd
            obtain ⟨e0,e1,e2,e3,e4,e5,e6,e7,e8⟩:=HN.out.2.1.below hO.below HN.out.2.1.lt
            have q0:=(hO.below.cell (p:=⟨b,o+i*5,none⟩) HC.out.1).trans HC.out.2.1
            have q1:=(hO.below.cell (p:=⟨b,o+i*5+1,none⟩) HC.out.1).trans HC.out.2.2.1
            have q2:=(hO.below.cell (p:=⟨b,o+i*5+2,none⟩) HC.out.1).trans HC.out.2.2.2.1
            have q3:=(hO.below.cell (p:=⟨b,o+i*5+3,none⟩) HC.out.1).trans HC.out.2.2.2.2.1
            have q4:=(hO.below.cell (p:=⟨b,o+i*5+4,none⟩) HC.out.1).trans HC.out.2.2.2.2.2.1
            rw [HC.out.2.2.2.2.2.2.2] at e6
            by_cases hjl:j<x.mr.length
            · obtain ⟨r,hr⟩:=some_of_lt hjl
              have hjlI:(j:Int)<(x.mr.length:Int):=by omega
              have hj0:(0:Int)≤(j:Int):=by omega
              have hi0:(0:Int)≤(i:Int):=by omega
              obtain ⟨br,orr,hSr,hbB,hcr⟩:=HC.out.2.2.2.2.2.2.1.1.at hr
              have hbr:=Nat.lt_of_lt_of_le hbB HBW.out
              subst hSr
              obtain ⟨ar,cr,r0',r1',hsr,_⟩:=hcr j r hr
              have HSR:=Lib.hid hsr
              have HO:=Lib.hid hO
              have HX2:=Lib.hid (show ps.map Prod.fst++⟨true,(i:Int),(j:Int),r.ra,dataL r.rv x.mw⟩::(portNodes x.mw i (j+1) (x.mr.drop (j+1))++memNodes (i+1) (n.mems.drop (i+1)))=n.nodes by
                rw [← HL.out,drop_some hr];simp [portNodes])
              have HK:=Lib.hid fun (W:World) (hW:Below w2.heap.size w2 W)=>show (W.cell? ⟨w.heap.size,6,none⟩=some (.slice (some ⟨b,o,none⟩) n.mems.length S.mc)∧W.cell? ⟨b,o+i*5,none⟩=some (.int .i64 x.ma)∧W.cell? ⟨b,o+i*5+1,none⟩=some (.int .i64 x.mw)∧W.cell? ⟨b,o+i*5+2,none⟩=some (.bool x.mn)∧W.cell? ⟨b,o+i*5+3,none⟩=some (.slice (some ⟨br,orr,none⟩) x.mr.length c)∧W.cell? ⟨b,o+i*5+4,none⟩=some (.slice a2 x.mx.length c2)∧W.cell? ⟨br,orr+j*2+1,none⟩=some (.slice ar r.ra.length cr))∧Hid (Below w2.heap.size w2 W) from
                ⟨⟨(HN.out.2.1.below hW HN.out.2.1.lt).n6.trans (by rw [HC.out.2.2.2.2.2.2.2]),(hW.cell (p:=⟨b,o+i*5,none⟩) HC.out.1).trans HC.out.2.1,(hW.cell (p:=⟨b,o+i*5+1,none⟩) HC.out.1).trans HC.out.2.2.1,(hW.cell (p:=⟨b,o+i*5+2,none⟩) HC.out.1).trans HC.out.2.2.2.1,
                  (hW.cell (p:=⟨b,o+i*5+3,none⟩) HC.out.1).trans HC.out.2.2.2.2.1,(hW.cell (p:=⟨b,o+i*5+4,none⟩) HC.out.1).trans HC.out.2.2.2.2.2.1,(hW.cell (p:=⟨br,orr+j*2+1,none⟩) hbr).trans r1'⟩,Lib.hid hW⟩
              have HQ:=Lib.hid fun (W:World) (hW:(W.cell? ⟨w.heap.size,6,none⟩=some (.slice (some ⟨b,o,none⟩) n.mems.length S.mc)∧W.cell? ⟨b,o+i*5,none⟩=some (.int .i64 x.ma)∧W.cell? ⟨b,o+i*5+1,none⟩=some (.int .i64 x.mw)∧W.cell? ⟨b,o+i*5+2,none⟩=some (.bool x.mn)∧W.cell? ⟨b,o+i*5+3,none⟩=some (.slice (some ⟨br,orr,none⟩) x.mr.length c)∧W.cell? ⟨b,o+i*5+4,none⟩=some (.slice a2 x.mx.length c2)∧W.cell? ⟨br,orr+j*2+1,none⟩=some (.slice ar r.ra.length cr))∧Hid (Below w2.heap.size w2 W))=>rdata_any x (some ⟨br,orr,none⟩) c a2 c2 j r W (Ports.wider (Nat.le_trans HBW.out hW.2.out.size) (Ports.below hW.2.out HBW.out HC.out.2.2.2.2.2.2.1)) hr hxl (by have:=hxt.1;have:=hxt.2.1;omega) (hxt.2.2 r (mem_of_some hr))
              have HT2:=Lib.hid fun (W V:World) (hW:(W.cell? ⟨w.heap.size,6,none⟩=some (.slice (some ⟨b,o,none⟩) n.mems.length S.mc)∧W.cell? ⟨b,o+i*5,none⟩=some (.int .i64 x.ma)∧W.cell? ⟨b,o+i*5+1,none⟩=some (.int .i64 x.mw)∧W.cell? ⟨b,o+i*5+2,none⟩=some (.bool x.mn)∧W.cell? ⟨b,o+i*5+3,none⟩=some (.slice (some ⟨br,orr,none⟩) x.mr.length c)∧W.cell? ⟨b,o+i*5+4,none⟩=some (.slice a2 x.mx.length c2)∧W.cell? ⟨br,orr+j*2+1,none⟩=some (.slice ar r.ra.length cr))∧Hid (Below w2.heap.size w2 W)) (hV:Below W.heap.size W V)=>HK.out V (below_on hW.2.out hV)
              have HX3:=Lib.hid hxt
              clear hbB hr hcr r0' r1' hsr HL hO hxt
              go_wp2_with fail
              go_region_held3 (fun W=>(W.cell? ⟨w.heap.size,6,none⟩=some (.slice (some ⟨b,o,none⟩) n.mems.length S.mc)∧W.cell? ⟨b,o+i*5,none⟩=some (.int .i64 x.ma)∧W.cell? ⟨b,o+i*5+1,none⟩=some (.int .i64 x.mw)∧W.cell? ⟨b,o+i*5+2,none⟩=some (.bool x.mn)∧W.cell? ⟨b,o+i*5+3,none⟩=some (.slice (some ⟨br,orr,none⟩) x.mr.length c)∧W.cell? ⟨b,o+i*5+4,none⟩=some (.slice a2 x.mx.length c2)∧W.cell? ⟨br,orr+j*2+1,none⟩=some (.slice ar r.ra.length cr))∧Hid (Below w2.heap.size w2 W)) (first | exact HK.out _ HO.out.below.drew | exact HT2.out _ _ (by assumption) (by assumption) | exact HT2.out _ _ (by assumption) ((Below.refl _ _).alloc (Nat.le_refl _) _) | exact HK.out _ (OwnN.below (by assumption)))
                (first
                  | (go_at_call 99;refine (HQ.out _ (by assumption)).mono ?_;rintro e w5 ⟨v5,rfl,hO5⟩;obtain ⟨A5,c5,rfl,hH5⟩:=hO5.high (Nat.le_refl _);have hb5:Below wr.drew.heap.size wr.drew w5:=hO5.2.1)
                  | (refine step_node (P:=P) (w0:=w2) (B:=w2.heap.size) (v:=u3) (ps:=ps) (g:=w5.heap.size) ?_ (.tmp 51) (.tmp 72) ?_ ?_ ?_ (⟨true,(i:Int),(j:Int),r.ra,dataL r.rv x.mw⟩,⟨ar,cr,A5,c5⟩) ?_ ?_ ?_ ?_ ?_ ?_
                     · rfl
                     · rfl
                     · rfl
                     · exact HO.out.call ((Below.refl _ wr).drew.trans hb5)
                     · exact Elem.old (HSR.out.below ((HO.out.below.drew).trans (hb5.mono (show w2.heap.size≤wr.heap.size from HO.out.size))) HBW.out) (by have:=HBW.out;have:=HO.out.size;have:=hb5.size;simp at this;omega) (fun k hk=>Nat.le_trans HBW.out (HO.out.ge k hk)) HPL.out
                     · exact Elem.new (w1:=wr) hH5 (Src.of_own hO5.1) HO.out.lt (fun b hb=>HPH.out b (Nat.le_trans HB2.out (Nat.le_trans HO.out.size hb)))
                     · rfl
                     · rfl
                     · exact hL
                     intro v6 w6 hO6)
                  | fail)
              all_goals
                go_wp2_with fail
                go_roundg (m3 - 1)
                case measure=>omega
                case rel=>exact ⟨j+1,_,by omega,by first | rfl | simp,hO6,by show _=_;rw [← HX2.out];simp⟩
            · have hjn:¬ ((j:Int)<(x.mr.length:Int)):=by omega
              have HX2:=Lib.hid (show ps.map Prod.fst++memNodes (i+1) (n.mems.drop (i+1))=n.nodes by
                rw [← HL.out,List.drop_eq_nil_of_le (show x.mr.length≤j by omega)];simp [portNodes])
              clear HL
              go_wp2_with fail
              go_roundg (m2 - 1)
              case measure=>omega
              case rel=>exact ⟨i+1,_,by omega,by first | rfl | simp,hO,HX2.out⟩
        · have hltn:¬ ((i:Int)<(n.mems.length:Int)):=by omega
          have HL2:=Lib.hid (show ps.map Prod.fst=n.nodes by
            rw [← HL.out,List.drop_eq_nil_of_le (show n.mems.length≤i by omega)];simp [memNodes])
          obtain ⟨A,c,rfl,hR⟩:=hO.form (fun b hb=>HPH.out b (Nat.le_trans HB2.out hb))
          rw [← HPE.out] at hR
          have HO:=Lib.hid (And.intro hO hR)
          clear HL hO hR
          go_wp2_with fail
          go_ret
          refine ⟨A,c,by rw [← HL2.out];simp,by rw [← HL2.out];exact HO.out.2,HB.out.trans (HO.out.1.below.mono HB.out.size)⟩
def lvl (L:List Int):Int→List Int→Int
  | n,[]=>n+1
  | n,f::fs=>if L.getD (f / 2).toNat 0<0 then -1 else lvl L (max n (L.getD (f / 2).toNat 0)) fs
def plevel (L:List Int) (x:PNode):Int:=lvl L 0 x.nf
theorem rvar6_any (l:Int) (h0:0≤l) (h1:l≤4611686018427387904) (w:World) :
    Calls Tryz.prog 83 #[.int .i64 l] w fun e w'=>e=.returned (.int .i64 (l / 2))∧w=w':=by
  go_enter Tryz.func83,Tryz.ntmps83
  go_wp2
  go_ret
  exact ⟨rfl,rfl⟩
set_option maxRecDepth 100000 in
set_option maxHeartbeats 2000000 in
theorem rlevel_any (x:PNode) (S:NodeS) (A:Option Addr) (c:Nat) (L:List Int) (w:World) (hf:Src w w.heap.size S.a x.nf) (hL:Src w w.heap.size A L) (hlen:L.length≤1000000) (hfl:x.nf.length≤1000000)
    (hv:∀ f∈x.nf,0≤f∧f<2*(L.length:Int)) (hlo:∀ l∈L,-1≤l∧l≤4000000000000) :
    Calls Tryz.prog 88 #[.agg #[.bool x.nr,.int .i64 x.nm,.int .i64 x.na,.slice S.a x.nf.length S.c,.slice S.a2 x.nv.length S.c2],.slice A L.length c] w fun e w'=>e=.returned (.int .i64 (plevel L x))∧Below w.heap.size w w':=by
  have hbx:=below_box w #[.bool x.nr,.int .i64 x.nm,.int .i64 x.na,.slice S.a x.nf.length S.c,.slice S.a2 x.nv.length S.c2] 141
  have h3:=cell_of_row (w.alloc (.cells #[.bool x.nr,.int .i64 x.nm,.int .i64 x.na,.slice S.a x.nf.length S.c,.slice S.a2 x.nv.length S.c2] 141)) w.heap.size 3 _ _ (0,0) (heap_alloc_new w _)
  have hf2:=hf.below hbx (Nat.le_refl _)
  have hL2:=hL.below hbx (Nat.le_refl _)
  have HV:=Lib.hid hv
  have HLO:=Lib.hid hlo
  clear hf hL hv hlo
  go_enter Tryz.func88,Tryz.ntmps88
  go_wp2
  generalize w.alloc (.cells #[.bool x.nr,.int .i64 x.nm,.int .i64 x.na,.slice S.a x.nf.length S.c,.slice S.a2 x.nv.length S.c2] 141)=w2 at hbx h3 hf2 hL2 ⊢
  have HB:=Lib.hid (And.intro hbx (And.intro hf2 hL2))
  have e3:w2.cell? ⟨w.heap.size,3,none⟩=some (.slice S.a x.nf.length S.c):=h3
  clear hbx hf2 hL2 h3
  go_loopg [5,6] x.nf.length (fun m s5 s6 wx=>∃ (k:Nat) (acc:Int),k+m=x.nf.length∧s5=.int .i64 acc∧s6=.int .i64 k∧0≤acc∧acc≤4000000000000∧Aside (lvl L acc (x.nf.drop k)=plevel L x)∧w2=wx)
  case atStart=>exact ⟨0,0,by omega,rfl,rfl,by omega,by omega,by simp [Aside,plevel],rfl⟩
  case round =>
    obtain ⟨k,acc,hk,rfl,rfl,ha0,ha1,HL,rfl⟩:=hrel
    generalize gk=m at *
    by_cases hlt:k<x.nf.length
    · obtain ⟨f,hx⟩:=some_of_lt hlt
      have hltI:(k:Int)<(x.nf.length:Int):=by omega
      obtain ⟨hf0,hf1⟩:=HV.out f (mem_of_some hx)
      obtain ⟨b,o,hS,hbg,hcell⟩:=HB.out.2.1.at hx
      have hc:=hcell k f hx
      have hj:(f / 2).toNat<L.length:=by omega
      obtain ⟨l,hl⟩:=some_of_lt hj
      obtain ⟨b2,o2,hS2,hbg2,hcell2⟩:=HB.out.2.2.at hl
      have hc2:=hcell2 _ l hl
      obtain ⟨hl0,hl1⟩:=HLO.out l (mem_of_some hl)
      have hg:L.getD (f / 2).toNat 0=l:=by rw [List.getD_eq_getElem?_getD,hl];rfl
      have HX:=Lib.hid (show (if l<0 then -1 else lvl L (max acc l) (x.nf.drop (k+1)))=plevel L x by
        rw [← HL.out,drop_some hx];simp only [lvl,hg])
      rw [hS] at e3
      subst hS2
      have hfd:0≤f / 2:=by omega
      have hfe:f / 2<(L.length:Int):=by omega
      clear hS hcell hcell2 hx hl HL hg hbg hbg2
      by_cases hneg:l<0
      · have HX2:=Lib.hid (show (-1:Int)=plevel L x by rw [← HX.out,if_pos hneg])
        go_wp2_with (go_at_call 83;refine (rvar6_any _ (by omega) (by omega) _).mono ?_;rintro e w' ⟨rfl,rfl⟩)
        go_ret
        exact ⟨ret_int HX2.out,HB.out.1⟩
      · have HX2:=Lib.hid (show lvl L (max acc l) (x.nf.drop (k+1))=plevel L x by rw [← HX.out,if_neg hneg])
        go_wp2_with (go_at_call 83;refine (rvar6_any _ (by omega) (by omega) _).mono ?_;rintro e w' ⟨rfl,rfl⟩)
        go_roundg (m - 1)
        case measure=>omega
        case rel=>exact ⟨k+1,max acc l,by omega,by first | rfl | simp,by first | rfl | simp,by omega,by omega,HX2.out,rfl⟩
    · have hltn:¬ ((k:Int)<(x.nf.length:Int)):=by omega
      have HX2:=Lib.hid (show acc+1=plevel L x by rw [← HL.out,List.drop_eq_nil_of_le (by omega)];rfl)
      clear HL
      go_wp2
      go_ret
      exact ⟨ret_int HX2.out,HB.out.1⟩
def putAll (L:List Int) (vs:List Int) (v:Int):List Int:=vs.foldl (fun L k=>L.set k.toNat v) L
theorem putAll_snoc (L vs:List Int) (u v:Int):putAll L (vs++[u]) v=(putAll L vs v).set u.toNat v:=by simp [putAll]
theorem putAll_len (vs:List Int) (v:Int):∀ L:List Int,(putAll L vs v).length=L.length:=by
  induction vs with
  | nil=>intro L;rfl
  | cons u vs ih=>intro L;show (putAll (L.set u.toNat v) vs v).length=_;rw [ih,List.length_set]
theorem putAll_mem {L vs:List Int} {v l:Int} (h:l∈putAll L vs v):l∈L∨l=v:=by
  induction vs generalizing L with
  | nil=>exact .inl h
  | cons u vs ih =>
    rcases ih (L:=L.set u.toNat v) h with h1 | h1
    · exact List.mem_or_eq_of_mem_set h1
    · exact .inr h1
def lstep (L:List Int) (x:PNode):List Int:=putAll L x.nv (plevel L x)
def lround (D:List PNode) (L:List Int):List Int:=D.foldl lstep L
def leftN:List PNode→List Int→Nat
  | [],_=>0
  | x::D,L=>(if plevel L x<0 then 1 else 0)+leftN D (lstep L x)
def lrounds (D:List PNode):Nat→List Int→List Int
  | 0,L=>L
  | k+1,L=>lround D (lrounds D k L)
def lstart (V:Nat) (D:List PNode):List Int:=D.foldl (fun L x=>putAll L x.nv (-1)) (List.replicate (V+1) 0)
def pleft (D:List PNode) (L:List Int):Nat→Nat
  | 0=>0
  | r+1=>leftN D (lrounds D r L)
def levelsOf (V:Nat) (D:List PNode):Option (List Int):=if leftN D (lrounds D D.length (lstart V D))=0 then some (lrounds D (D.length+1) (lstart V D)) else none
def PNet.levels (n:PNet):Option (List Int):=if n.sound=0 then levelsOf n.vars.toNat n.nodes else none
theorem lround_snoc (D:List PNode) (x:PNode) (L:List Int):lround (D++[x]) L=lstep (lround D L) x:=by simp [lround]
theorem leftN_snoc (D:List PNode) (x:PNode):∀ L,leftN (D++[x]) L=leftN D L+(if plevel (lround D L) x<0 then 1 else 0):=by
  induction D with
  | nil=>intro L;show (if plevel L x<0 then 1 else 0)+0=0+(if plevel L x<0 then 1 else 0);omega
  | cons y D ih =>
    intro L
    show (if plevel L y<0 then 1 else 0)+leftN (D++[x]) (lstep L y)=(if plevel L y<0 then 1 else 0)+leftN D (lstep L y)+(if plevel (lround D (lstep L y)) x<0 then 1 else 0)
    rw [ih]
    omega
theorem leftN_le (D:List PNode):∀ L,leftN D L≤D.length:=by
  induction D with
  | nil=>intro L;exact Nat.le_refl _
  | cons y D ih =>
    intro L
    have:=ih (lstep L y)
    unfold leftN
    simp only [List.length_cons]
    split <;> omega
theorem lstep_len (L:List Int) (x:PNode):(lstep L x).length=L.length:=putAll_len _ _ _
theorem lround_len (D:List PNode):∀ L,(lround D L).length=L.length:=by
  induction D with
  | nil=>intro L;rfl
  | cons y D ih=>intro L;show (lround D (lstep L y)).length=_;rw [ih,lstep_len]
theorem lrounds_len (D:List PNode) (L:List Int):∀ k,(lrounds D k L).length=L.length
  | 0=>rfl
  | k+1=>by rw [lrounds,lround_len,lrounds_len D L k]
theorem lstart_aux (D:List PNode):∀ L,(D.foldl (fun L x=>putAll L x.nv (-1)) L).length=L.length:=by
  induction D with
  | nil=>intro L;rfl
  | cons y D ih=>intro L;show (D.foldl _ (putAll L y.nv (-1))).length=_;rw [ih,putAll_len]
theorem lstart_len (V:Nat) (D:List PNode):(lstart V D).length=V+1:=by rw [lstart,lstart_aux,List.length_replicate]
def LB (c:Int) (L:List Int):Prop:=∀ l∈L,-1≤l∧l≤c
theorem LB.mono {c d:Int} {L:List Int} (h:LB c L) (hd:c≤d):LB d L:=fun l hl=>⟨(h l hl).1,by have:=(h l hl).2;omega⟩
theorem LB.get {c:Int} {L:List Int} (h:LB c L) (hc:0≤c) (i:Nat):-1≤L.getD i 0∧L.getD i 0≤c:=by
  rw [List.getD_eq_getElem?_getD]
  cases hi:L[i]? with
  | none=>simp;exact hc
  | some l=>exact h l (mem_of_some hi)
theorem lvl_bound {c:Int} {L:List Int} (h:LB c L) (hc:0≤c) (fs:List Int):∀ n,0≤n→n≤c→-1≤lvl L n fs∧lvl L n fs≤c+1:=by
  induction fs with
  | nil=>intro n h0 h1;unfold lvl;omega
  | cons f fs ih =>
    intro n h0 h1
    have hg:=h.get hc (f / 2).toNat
    unfold lvl
    split
    · omega
    · exact ih _ (by omega) (by omega)
theorem plevel_bound {c:Int} {L:List Int} (h:LB c L) (hc:0≤c) (x:PNode):-1≤plevel L x∧plevel L x≤c+1:=lvl_bound h hc _ 0 (by omega) hc
theorem LB.put {c v:Int} {L:List Int} (h:LB c L) (vs:List Int) (h0:-1≤v) (h1:v≤c):LB c (putAll L vs v):=fun l hl=>by
  rcases putAll_mem hl with h2 | rfl
  · exact h l h2
  · exact ⟨h0,h1⟩
theorem LB.step {c:Int} {L:List Int} (h:LB c L) (hc:0≤c) (x:PNode):LB (c+1) (lstep L x) :=
  (h.mono (by omega)).put _ (plevel_bound h hc x).1 (plevel_bound h hc x).2
theorem LB.round {D:List PNode}:∀ {c:Int} {L:List Int},LB c L→0≤c→LB (c+D.length) (lround D L):=by
  induction D with
  | nil=>intro c L h hc;exact h.mono (by simp)
  | cons y D ih =>
    intro c L h hc
    have:=ih (h.step hc y) (by omega)
    exact this.mono (by simp;omega)
theorem LB.rounds {D:List PNode} {c:Int} {L:List Int} (h:LB c L) (hc:0≤c) (k:Nat):LB (c+((k*D.length:Nat):Int)) (lrounds D k L):=by
  induction k with
  | zero=>exact h.mono (by omega)
  | succ k ih =>
    have:=LB.round (D:=D) ih (by omega)
    refine this.mono ?_
    rw [Nat.succ_mul]
    omega
theorem LB.start (V:Nat) (D:List PNode):LB 0 (lstart V D):=by
  have:∀ (D:List PNode) (L:List Int),LB 0 L→LB 0 (D.foldl (fun L x=>putAll L x.nv (-1)) L):=by
    intro D
    induction D with
    | nil=>intro L h;exact h
    | cons y D ih=>intro L h;exact ih _ (h.put _ (by omega) (by omega))
  refine this D _ fun l hl=>?_
  rw [List.mem_replicate] at hl
  omega
theorem level_fits {V:Nat} {D:List PNode} (hD:D.length≤10000) {r i:Nat} (hr:r≤D.length) (hi:i≤D.length):LB 4000000000 (lround (D.take i) (lrounds D r (lstart V D))):=by
  have h1:=LB.round (D:=D.take i) ((LB.start V D).rounds (D:=D) (Int.le_refl _) r) (by omega)
  refine h1.mono ?_
  have h2:r*D.length≤10000*10000:=Nat.mul_le_mul (by omega) hD
  have h3:(D.take i).length≤D.length:=by rw [List.length_take];omega
  omega
structure Good6 (V:Nat) (D:List PNode):Prop where
  lits:∀ x∈D,∀ f∈x.nf,0≤f∧f<2*((V:Int)+1)
  vars:∀ x∈D,∀ v∈x.nv,1≤v∧v≤(V:Int)
  some:∀ x∈D,x.nv≠[]
  lens:∀ x∈D,x.nf.length≤1000∧x.nv.length≤1000
  once:(D.flatMap PNode.nv).Nodup
theorem andNodes_mem {x:PNode}:∀ {l:List PAnd} {k:Nat},x∈andNodes k l→∃ a∈l,x.nf=[a.aa,a.ab]∧x.nv=[a.av]
  | [],_,h=>by simp [andNodes] at h
  | a::l,k,h=>by
    rw [andNodes,List.mem_cons] at h
    rcases h with rfl | h
    · exact ⟨a,by simp,rfl,rfl⟩
    · obtain ⟨b,hb,h2⟩:=andNodes_mem h
      exact ⟨b,by simp [hb],h2⟩
theorem portNodes_mem {x:PNode} {w:Int} {i:Nat}:∀ {l:List PRead} {k:Nat},x∈portNodes w i k l→∃ r∈l,x.nf=r.ra∧x.nv=dataL r.rv w
  | [],_,h=>by simp [portNodes] at h
  | r::l,k,h=>by
    rw [portNodes,List.mem_cons] at h
    rcases h with rfl | h
    · exact ⟨r,by simp,rfl,rfl⟩
    · obtain ⟨b,hb,h2⟩:=portNodes_mem h
      exact ⟨b,by simp [hb],h2⟩
theorem memNodes_mem {x:PNode}:∀ {l:List PMem} {i:Nat},x∈memNodes i l→∃ m∈l,∃ r∈m.mr,x.nf=r.ra∧x.nv=dataL r.rv m.mw
  | [],_,h=>by simp [memNodes] at h
  | m::l,i,h=>by
    rw [memNodes,List.mem_append] at h
    rcases h with h | h
    · obtain ⟨r,hr,h2⟩:=portNodes_mem h
      exact ⟨m,by simp,r,hr,h2⟩
    · obtain ⟨b,hb,h2⟩:=memNodes_mem h
      exact ⟨b,by simp [hb],h2⟩
theorem andNodes_vars:∀ (l:List PAnd) (k:Nat),(andNodes k l).flatMap PNode.nv=l.map PAnd.av
  | [],_=>rfl
  | a::l,k=>by rw [andNodes,List.flatMap_cons,andNodes_vars l];rfl
theorem portNodes_vars (w:Int) (i:Nat):∀ (l:List PRead) (k:Nat),(portNodes w i k l).flatMap PNode.nv=l.flatMap (fun r=>dataL r.rv w)
  | [],_=>rfl
  | r::l,k=>by rw [portNodes,List.flatMap_cons,portNodes_vars w i l,List.flatMap_cons]
theorem memNodes_vars:∀ (l:List PMem) (i:Nat),(memNodes i l).flatMap PNode.nv=l.flatMap PMem.data
  | [],_=>rfl
  | m::l,i=>by rw [memNodes,List.flatMap_append,memNodes_vars l,portNodes_vars,List.flatMap_cons];rfl
theorem portNodes_len (w:Int) (i:Nat):∀ (l:List PRead) (k:Nat),(portNodes w i k l).length=l.length
  | [],_=>rfl
  | r::l,k=>by rw [portNodes,List.length_cons,portNodes_len w i l];rfl
theorem andNodes_len:∀ (l:List PAnd) (k:Nat),(andNodes k l).length=l.length
  | [],_=>rfl
  | r::l,k=>by rw [andNodes,List.length_cons,andNodes_len l];rfl
theorem memNodes_len {K:Nat}:∀ (l:List PMem) (i:Nat),(∀ m∈l,m.mr.length≤K)→(memNodes i l).length≤l.length*K
  | [],_,_=>by simp [memNodes]
  | m::l,i,h=>by
    rw [memNodes,List.length_append,portNodes_len,List.length_cons,Nat.succ_mul]
    have:=memNodes_len l (i+1) fun m hm=>h m (by simp [hm])
    have:=h m (by simp)
    omega
theorem nodes_len {n:PNet} (h:n.Within):n.nodes.length≤10000:=by
  unfold PNet.nodes
  rw [List.length_append,andNodes_len]
  have:=memNodes_len n.mems 0 fun m hm=>(h.ports m hm).1
  have:=h.mems
  have:=h.ands
  omega
theorem sound_parts {n:PNet} (h:n.sound=0):n.lim=false∧n.mems.any PMem.wide=false∧n.once=0∧n.loose=false:=by
  unfold PNet.sound at h
  split at h
  · omega
  · rename_i h1
    split at h
    · omega
    · rename_i h2
      split at h
      · omega
      · split at h
        · rename_i h3;exact absurd h h3
        · rename_i h3
          split at h
          · omega
          · rename_i h4
            exact ⟨by simpa using h1,by simpa using h2,by simpa using h3,by simpa using h4⟩
theorem defs_of_once {n:PNet} (hv:0≤n.vars) (h:n.once=0):Good n.vars n.defs:=by
  have hS:∀ k,k≤n.defs.length→Sofar n k:=by
    intro k
    induction k with
    | zero=>intro _;exact Sofar.zero n
    | succ k ih =>
      intro hk
      have hs:=ih (by omega)
      obtain ⟨x,hx⟩:=some_of_lt (show k<n.defs.length by omega)
      by_cases hb:x<1∨n.vars<x
      · have:=hs.dangling hx hb;omega
      · by_cases hm:x∈n.defs.take k
        · have:=hs.twice hx (by omega) (by omega) hm;omega
        · refine sofar_of (k+1) hk ?_ ?_
          · rw [take_some hx]
            exact (Good.snoc (V:=n.vars) ⟨hs.nodup,hs.inside⟩ (by omega) (by omega) hm).1
          · rw [take_some hx]
            exact (Good.snoc (V:=n.vars) ⟨hs.nodup,hs.inside⟩ (by omega) (by omega) hm).2
  have:=hS n.defs.length (Nat.le_refl _)
  exact ⟨by have:=this.nodup;rwa [List.take_length] at this,by have:=this.inside;rwa [List.take_length] at this⟩
theorem good6_of {n:PNet} (h:n.sound=0):n.Within∧(∀ m∈n.mems,m.Fit)∧Good6 n.vars.toNat n.nodes∧Good n.vars n.defs∧∀ l∈n.lits,0≤l∧l≤2*n.vars+1:=by
  obtain ⟨h1,h2,h3,h4⟩:=sound_parts h
  have hW:=within_of h1
  have hF:∀ m∈n.mems,m.Fit:=fun m hm=>fit_of (any_no h2 m hm)
  have hv:=hW.vars
  have hG:=defs_of_once hv.1 h3
  have hL:∀ l∈n.lits,0≤l∧l≤2*n.vars+1:=fun l hl=>by
    have:=any_no h4 l hl
    simp [outB] at this
    omega
  have hV:((n.vars.toNat:Nat):Int)=n.vars:=by omega
  refine ⟨hW,hF,⟨fun x hx f hf=>?_,fun x hx v hvv=>?_,fun x hx=>?_,fun x hx=>?_,?_⟩,hG,hL⟩
  · rw [hV]
    have:f∈n.lits:=by
      unfold PNet.nodes at hx
      rcases List.mem_append.1 hx with hx | hx
      · obtain ⟨a,ha,e,_⟩:=andNodes_mem hx
        rw [e] at hf
        exact List.mem_append_right _ (List.mem_flatMap.2 ⟨a,ha,hf⟩)
      · obtain ⟨m,hm,r,hr,e,_⟩:=memNodes_mem hx
        rw [e] at hf
        exact List.mem_append_left _ (List.mem_append_right _ (List.mem_flatMap.2 ⟨m,hm,List.mem_append_left _ (List.mem_flatMap.2 ⟨r,hr,hf⟩)⟩))
    have:=hL f this
    omega
  · rw [hV]
    refine hG.2 v ?_
    unfold PNet.nodes at hx
    rcases List.mem_append.1 hx with hx | hx
    · obtain ⟨a,ha,_,e⟩:=andNodes_mem hx
      rw [e] at hvv
      simp at hvv
      subst hvv
      exact List.mem_append_right _ (List.mem_map.2 ⟨a,ha,rfl⟩)
    · obtain ⟨m,hm,r,hr,_,e⟩:=memNodes_mem hx
      rw [e] at hvv
      exact List.mem_append_left _ (List.mem_append_right _ (List.mem_flatMap.2 ⟨m,hm,List.mem_flatMap.2 ⟨r,hr,hvv⟩⟩))
  · unfold PNet.nodes at hx
    rcases List.mem_append.1 hx with hx | hx
    · obtain ⟨a,ha,_,e⟩:=andNodes_mem hx
      rw [e];simp
    · obtain ⟨m,hm,r,hr,_,e⟩:=memNodes_mem hx
      intro h0
      rw [e] at h0
      have h5:=dataL_len r.rv m.mw
      rw [h0] at h5
      have:=(hF m hm).word
      simp at h5
      omega
  · unfold PNet.nodes at hx
    rcases List.mem_append.1 hx with hx | hx
    · obtain ⟨a,ha,e,e2⟩:=andNodes_mem hx
      rw [e,e2];simp
    · obtain ⟨m,hm,r,hr,e,e2⟩:=memNodes_mem hx
      rw [e,e2,dataL_len]
      have:=(hF m hm).word
      have:=(hF m hm).addr
      have:=(hF m hm).reads r hr
      omega
  · have:=hG.1
    unfold PNet.nodes
    rw [List.flatMap_append,andNodes_vars,memNodes_vars]
    unfold PNet.defs at this
    rw [List.append_assoc,List.append_assoc,List.nodup_append] at this
    have:=this.2.1
    rw [List.nodup_append] at this
    have h5:=this.2.1
    exact (List.perm_append_comm.nodup_iff).1 h5
def Ints (w:World) (g:Nat) (L:List Int):Prop:=w.heap[g]?=some (.cells (L.map (Value.int .i64)).toArray 3 (0,0))
theorem Ints.cell {w:World} {g:Nat} {L:List Int} (h:Ints w g L) {j:Nat} {l:Int} (hj:L[j]?=some l):w.cell? ⟨g,j,none⟩=some (.int .i64 l):=by
  rw [cell_of_row w g j _ 3 (0,0) h,List.getElem?_toArray,List.getElem?_map,hj]
  rfl
theorem Ints.free {w:World} {g:Nat} {L:List Int} (h:Ints w g L) (j:Nat):w.frozen? ⟨g,j,none⟩=false:=frozen_of_row w g j _ 3 h
theorem Ints.lt {w:World} {g:Nat} {L:List Int} (h:Ints w g L):g<w.heap.size:=lt_of_row h
theorem Ints.same {w w':World} {g:Nat} {L:List Int} (h:Ints w g L) (hg:w'.heap[g]?=w.heap[g]?):Ints w' g L:=hg.trans h
theorem Ints.src {w:World} {g:Nat} {L:List Int} (h:Ints w g L):Src w w.heap.size (some ⟨g,0,none⟩) L:=fun _=>⟨g,0,rfl,h.lt,fun j x hj=>by rw [Nat.zero_add];exact h.cell hj⟩
theorem Ints.set {w:World} {g:Nat} {L:List Int} (h:Ints w g L) (j:Nat) (v:Int):Ints (w.setCell ⟨g,j,none⟩ (.int .i64 v)) g (L.set j v):=by
  have:=heap_setCell_same w g j _ 3 (.int .i64 v) h
  unfold Ints
  rw [this]
  congr 2
  simp [List.map_set]
theorem Ints.new (w:World) (N:Nat):Ints (w.alloc (.cells (madeCells #[.int .i64 0] N) 3)) w.heap.size (List.replicate N 0):=by
  unfold Ints
  rw [heap_alloc_new]
  congr 2
  apply Array.ext
  · rw [size_madeCells];simp
  · intro i h1 h2
    simp [madeCells,Nat.mod_one]
theorem run_ints (v:Int) (h0:0≤v) (h1:v≤1000000) (w:World) :
    (Instr.makeSlice 22 (.int .i64 (v+1)) (.int .i64 (v+1))).run Tryz.prog w=.ok (.slice (some ⟨w.heap.size,0,none⟩) (v.toNat+1) (v.toNat+1)) (w.alloc (.cells (madeCells #[.int .i64 0] (v.toNat+1)) 3)):=by
  obtain ⟨i,hi,hz,hs,hb⟩:=info_parts int_info
  have:=run_make (P:=Tryz.prog) w 22 3 i (.int .i64 0) Tryz.underlying22 hi hz .i64 .i64 (v+1) (v+1) (by omega) (Int.le_refl _) (by rw [hb];omega) (by omega)
  rw [this,hs,show (v+1).toNat=v.toNat+1 from by omega,Nat.mul_one]
  rfl
structure LvAt (B g:Nat) (P:Nat→Prop) (A:Option Addr) (D:List PNode) (w0 wx:World) (L:List Int):Prop where
  below:Below B w0 wx
  nodes:NodesAt wx P A D
  ints:Ints wx g L
  lt:∀ b,P b→b<wx.heap.size
  ge:B≤g
  ne:∀ b,P b→b≠g
theorem LvAt.call {B g:Nat} {P:Nat→Prop} {A:Option Addr} {D:List PNode} {w0 wx w':World} {L:List Int} (h:LvAt B g P A D w0 wx L) (hb:Below wx.heap.size wx w'):LvAt B g P A D w0 w' L :=
  ⟨h.below.trans (hb.mono (Nat.le_of_lt (Nat.lt_of_le_of_lt h.ge h.ints.lt))),h.nodes.keep fun b hp=>hb.block b (h.lt b hp),h.ints.same (hb.block g h.ints.lt),fun b hp=>Nat.lt_of_lt_of_le (h.lt b hp) hb.size,h.ge,h.ne⟩
theorem LvAt.set {B g:Nat} {P:Nat→Prop} {A:Option Addr} {D:List PNode} {w0 wx:World} {L:List Int} (h:LvAt B g P A D w0 wx L) (j:Nat) (v:Int):LvAt B g P A D w0 (wx.setCell ⟨g,j,none⟩ (.int .i64 v)) (L.set j v) :=
  ⟨h.below.setCell (p:=⟨g,j,none⟩) h.ge _,h.nodes.keep fun b hp=>heap_setCell_other wx ⟨g,j,none⟩ b _ (h.ne b hp),h.ints.set j v,fun b hp=>by have:=h.lt b hp;simpa [World.setCell] using this,h.ge,h.ne⟩
def LevelsLeft (w:World):Option (List Int)→Ending→World→Prop
  | none,e,w'=>e=.returned (.tuple #[.slice none 0 0,.bool false])∧Below w.heap.size w w'
  | some L,e,w'=>∃ g,e=.returned (.tuple #[.slice (some ⟨g,0,none⟩) L.length L.length,.bool true])∧Ints w' g L∧w.heap.size≤g∧Below w.heap.size w w'
theorem LvAt.start {B:Nat} {A:Option Addr} {D:List PNode} {w0 w3 w5:World} {N:Nat} (h3:Below B w0 w3) (hB:B≤w3.heap.size)
    (hb5:Below (w3.alloc (.cells (madeCells #[.int .i64 0] N) 3)).heap.size (w3.alloc (.cells (madeCells #[.int .i64 0] N) 3)) w5) (hN:NodesAt w5 (Sided B (w3.alloc (.cells (madeCells #[.int .i64 0] N) 3)).heap.size w5) A D) :
    ∃ P,LvAt B w3.heap.size P A D w0 w5 (List.replicate N 0):=by
  have hlt:w3.heap.size<(w3.alloc (.cells (madeCells #[.int .i64 0] N) 3)).heap.size:=by simp
  refine ⟨_,(h3.alloc hB _).trans (hb5.mono (by omega)),hN,(Ints.new w3 N).same (hb5.block _ hlt),fun b hb=>hb.2,hB,fun b hb e=>?_⟩
  rcases hb.1 with h1 | h1 <;> omega
theorem LvAt.node {B g i:Nat} {P:Nat→Prop} {A:Option Addr} {D:List PNode} {w0 wx:World} {L:List Int} {x:PNode} (h:LvAt B g P A D w0 wx L) (hx:D[i]?=some x):∃ b o,A=some ⟨b,o,none⟩∧NodeAt wx P b (o+i*5) x:=by
  obtain ⟨b,o,e,_,h1⟩:=h.nodes.at hx
  exact ⟨b,o,e,h1⟩
theorem lstart_snoc (V:Nat) (D:List PNode) (x:PNode):lstart V (D++[x])=putAll (lstart V D) x.nv (-1):=by simp [lstart]
set_option maxRecDepth 100000 in
set_option maxHeartbeats 4000000 in
theorem rlevels_any (n:PNet) (S:NetS) (w:World) (h:NetAt w w.heap.size S n) (hf:n.fits) (hm:n.modest) (hr:n.near) :
    Calls Tryz.prog 52 #[.agg #[.int .i64 n.vars,.slice S.i n.inputs.length S.ic,.slice S.l n.latches.length S.lc,.slice S.o n.outs.length S.oc,.slice S.b n.bads.length S.bc,.slice S.c n.cons.length S.cc,.slice S.m n.mems.length S.mc,.slice S.a n.ands.length S.ac]] w (LevelsLeft w n.levels):=by
  have hbx:=below_box w #[.int .i64 n.vars,.slice S.i n.inputs.length S.ic,.slice S.l n.latches.length S.lc,.slice S.o n.outs.length S.oc,.slice S.b n.bads.length S.bc,.slice S.c n.cons.length S.cc,.slice S.m n.mems.length S.mc,.slice S.a n.ands.length S.ac] 27
  have hM:=netBox_new w n S 27
  have hN:=NetAt.later h hbx (by simp)
  have HQ:=Lib.hid (rsound_any n S _ hN hf hm hr)
  have HN:=Lib.hid (And.intro hN (And.intro hM hbx))
  obtain ⟨e0,e1,e2,e3,e4,e5,e6,e7,e8⟩:=hM
  by_cases hs:n.sound=0
  · have hz:(n.sound != 0)=false:=by simp [hs]
    obtain ⟨hW,hF,hG,_,_⟩:=good6_of hs
    have hv0:=hW.vars.1
    have hv1:=hW.vars.2
    have HG:=Lib.hid hG
    have hD:=nodes_len hW
    have HLV:=Lib.hid (show n.levels=levelsOf n.vars.toNat n.nodes by unfold PNet.levels;rw [if_pos hs])
    have HT:=Lib.hid (told_of hr hF)
    have HM:=Lib.hid hm
    have hmk:=run_ints n.vars hv0 (by omega)
    have hD2:n.nodes.length≤1000000:=by omega
    have HND:=Lib.hid fun (w3:World) (hb3:Below (w.alloc (.cells #[.int .i64 n.vars,.slice S.i n.inputs.length S.ic,.slice S.l n.latches.length S.lc,.slice S.o n.outs.length S.oc,.slice S.b n.bads.length S.bc,.slice S.c n.cons.length S.cc,.slice S.m n.mems.length S.mc,.slice S.a n.ands.length S.ac] 27)).heap.size (w.alloc (.cells #[.int .i64 n.vars,.slice S.i n.inputs.length S.ic,.slice S.l n.latches.length S.lc,.slice S.o n.outs.length S.oc,.slice S.b n.bads.length S.bc,.slice S.c n.cons.length S.cc,.slice S.m n.mems.length S.mc,.slice S.a n.ands.length S.ac] 27)) w3) =>
      rnodes_any n S w.heap.size (w3.alloc (.cells (madeCells #[.int .i64 0] (n.vars.toNat+1)) 3)) (NetAt.below ((below_on hbx hb3).alloc (Nat.le_trans hbx.size hb3.size) _) (Nat.le_refl _) h) (Nat.le_trans (Nat.le_trans hbx.size hb3.size) (by simp)) hm (told_of hr hF) hD2
    clear h hbx hN hs hW hF hG hf hm hr e0 e1 e2 e3 e4 e5 e6 e7 e8
    obtain ⟨e0,e1,e2,e3,e4,e5,e6,e7,e8⟩:=HN.out.2.1
    go_enter Tryz.func52,Tryz.ntmps52
    go_wp2_with (first | (go_at_call 17;refine HQ.out.mono ?_;rintro e w3 ⟨rfl,hb3⟩;obtain ⟨g0,g1,g2,g3,g4,g5,g6,g7,g8⟩:=HN.out.2.1.below hb3 HN.out.2.1.lt) | (go_at_call 87;refine (HND.out _ (by assumption)).mono ?_;rintro e w5 ⟨A,cA,rfl,hNd,hb5⟩;have HL0:=Lib.hid (LvAt.start (below_on HN.out.2.2 hb3) (Nat.le_trans HN.out.2.2.size hb3.size) hb5 hNd);have HL3:=Lib.hid (Nat.le_trans HN.out.2.2.size hb3.size);clear g0 g1 g2 g3 g4 g5 g6 g7 g8 hb3 hNd hb5))
    clear hD2
    obtain ⟨P,hL⟩:=HL0.out
    clear HL0
    have hgB:=HL3.out
    generalize w3.heap.size=g at hL hgB ⊢
    generalize hVV:n.vars.toNat=V at *
    have hV2:(V:Int)=n.vars:=by omega
    go_loopg [6] n.nodes.length (fun m s6 wx=>∃ i:Nat,i+m=n.nodes.length∧s6=.int .i64 i∧LvAt w.heap.size g P A n.nodes w wx (lstart V (n.nodes.take i)))
    case atStart=>exact ⟨0,by omega,rfl,hL⟩
    case round =>
      clear hL
      obtain ⟨i,hi,rfl,hL⟩:=hrel
      generalize gk=m at *
      by_cases hlt:i<n.nodes.length
      · obtain ⟨x,hx⟩:=some_of_lt hlt
        have hltI:(i:Int)<(n.nodes.length:Int):=by omega
        have hi0:(0:Int)≤(i:Int):=by omega
        have HX:=Lib.hid hx
        have hxl:=(HG.out.lens x (mem_of_some hx)).2
        have hvx:=HG.out.vars x (mem_of_some hx)
        have HVX:=Lib.hid hvx
        clear hx hvx
        go_wp2
        go_loopg [7] x.nv.length (fun m s7 wx=>∃ k:Nat,k+m=x.nv.length∧s7=.int .i64 k∧LvAt w.heap.size g P A n.nodes w wx (putAll (lstart V (n.nodes.take i)) (x.nv.take k) (-1)))
        case atStart=>exact ⟨0,by omega,rfl,hL⟩
        case round =>
          clear hL
          obtain ⟨k,hk,rfl,hL⟩:=hrel
          generalize gk=m2 at *
          obtain ⟨b,o,hS,a,c1,a2,c2,q0,q1,q2,q3,q4,hsf,hsv⟩:=hL.node HX.out
          subst hS
          by_cases hkl:k<x.nv.length
          · obtain ⟨u,hu⟩:=some_of_lt hkl
            have hklI:(k:Int)<(x.nv.length:Int):=by omega
            have hk0:(0:Int)≤(k:Int):=by omega
            obtain ⟨b2,o2,hS2,hP2,hcell⟩:=hsv (by rintro e;rw [e] at hu;simp at hu)
            subst hS2
            have hc:=hcell k u hu
            obtain ⟨hu1,hu2⟩:=HVX.out u (mem_of_some hu)
            have hu3:u<n.vars+1:=by omega
            have hu4:0≤u:=by omega
            have hfree:=hL.ints.free u.toNat
            have hlen:(putAll (lstart V (n.nodes.take i)) (x.nv.take k) (-1)).length=V+1:=by rw [putAll_len,lstart_len]
            obtain ⟨l,hl⟩:=some_of_lt (show u.toNat<(putAll (lstart V (n.nodes.take i)) (x.nv.take k) (-1)).length by rw [hlen];omega)
            have hcur:=hL.ints.cell hl
            have HS:=Lib.hid (show LvAt w.heap.size g P (some ⟨b,o,none⟩) n.nodes w _ (putAll (lstart V (n.nodes.take i)) (x.nv.take (k+1)) (-1)) by
              rw [take_some hu,putAll_snoc];exact hL.set u.toNat (-1))
            clear hcell hl hlen hL hsf hsv hu hP2
            go_wp2
            go_roundg (m2 - 1)
            case measure=>omega
            case rel=>exact ⟨k+1,by omega,by first | rfl | simp,HS.out⟩
          · have hkn:¬ ((k:Int)<(x.nv.length:Int)):=by omega
            have HS:=Lib.hid (show LvAt w.heap.size g P (some ⟨b,o,none⟩) n.nodes w _ (lstart V (n.nodes.take (i+1))) by
              rw [take_some HX.out,lstart_snoc];rw [show x.nv.take k=x.nv from List.take_of_length_le (by omega)] at hL;exact hL)
            clear hL hsf hsv
            go_wp2
            go_roundg (m - 1)
            case measure=>omega
            case rel=>exact ⟨i+1,by omega,by first | rfl | simp,HS.out⟩
      · have hltn:¬ ((i:Int)<(n.nodes.length:Int)):=by omega
        rw [show n.nodes.take i=n.nodes from List.take_of_length_le (by omega)] at hL
        clear hlt hi
        go_wp2
        go_loopg [8,9] (n.nodes.length+1) (fun m s8 s9 wx=>∃ r:Nat,r+m=n.nodes.length+1∧s8=.int .i64 (pleft n.nodes (lstart V n.nodes) r:Nat)∧s9=.int .i64 r∧LvAt w.heap.size g P A n.nodes w wx (lrounds n.nodes r (lstart V n.nodes)))
        case atStart=>exact ⟨0,by omega,by first | rfl | simp [pleft],rfl,hL⟩
        case round =>
          clear hL
          obtain ⟨r,hrm,rfl,rfl,hL⟩:=hrel
          generalize gk=m at *
          by_cases hle:r≤n.nodes.length
          · have hleI:(r:Int)≤(n.nodes.length:Int):=by omega
            go_wp2
            go_loopg [8,10] n.nodes.length (fun m s8 s10 wx=>∃ i:Nat,i+m=n.nodes.length∧s8=.int .i64 (leftN (n.nodes.take i) (lrounds n.nodes r (lstart V n.nodes)):Nat)∧s10=.int .i64 i∧LvAt w.heap.size g P A n.nodes w wx (lround (n.nodes.take i) (lrounds n.nodes r (lstart V n.nodes))))
            case atStart=>exact ⟨0,by omega,by first | rfl | simp [leftN],rfl,hL⟩
            case round =>
              clear hL
              obtain ⟨i,hi,rfl,rfl,hL⟩:=hrel
              generalize gk=m2 at *
              by_cases hlt:i<n.nodes.length
              · obtain ⟨x,hx⟩:=some_of_lt hlt
                have hltI:(i:Int)<(n.nodes.length:Int):=by omega
                have hi0:(0:Int)≤(i:Int):=by omega
                have HX:=Lib.hid hx
                obtain ⟨hxf,hxl⟩:=HG.out.lens x (mem_of_some hx)
                have HVX:=Lib.hid (HG.out.vars x (mem_of_some hx))
                have hLB:=level_fits (V:=V) hD hle (Nat.le_of_lt hlt)
                have hlen:(lround (n.nodes.take i) (lrounds n.nodes r (lstart V n.nodes))).length=V+1:=by rw [lround_len,lrounds_len,lstart_len]
                have hln:=leftN_le (n.nodes.take i) (lrounds n.nodes r (lstart V n.nodes))
                rw [List.length_take] at hln
                have hst:=leftN_snoc (n.nodes.take i) x (lrounds n.nodes r (lstart V n.nodes))
                have hsr:=lround_snoc (n.nodes.take i) x (lrounds n.nodes r (lstart V n.nodes))
                rw [← take_some hx] at hst hsr
                have hsr2:lround (n.nodes.take (i+1)) (lrounds n.nodes r (lstart V n.nodes))=putAll (lround (n.nodes.take i) (lrounds n.nodes r (lstart V n.nodes))) x.nv (plevel (lround (n.nodes.take i) (lrounds n.nodes r (lstart V n.nodes))) x):=hsr
                obtain ⟨b,o,hS,a,c1,a2,c2,q0,q1,q2,q3,q4,hsf,hsv⟩:=hL.node hx
                have hlev:=rlevel_any x ⟨a,c1,a2,c2⟩ (some ⟨g,0,none⟩) (V+1) _ wr (hsf.src hL.lt) hL.ints.src (by rw [hlen];omega) (by omega) (fun f hf=>by have:=HG.out.lits x (mem_of_some hx) f hf;rw [hlen];omega) (fun l hl=>by have:=hLB l hl;omega)
                rw [hlen] at hlev
                have hpb:=plevel_bound hLB (by omega) x
                generalize hLi:lround (n.nodes.take i) (lrounds n.nodes r (lstart V n.nodes))=Li at hL hlen hst hsr2 hlev hpb
                generalize hpl:plevel Li x=pl at hst hsr2 hlev hpb
                generalize leftN (n.nodes.take i) (lrounds n.nodes r (lstart V n.nodes))=ln at hst hln ⊢
                have HLEV:=Lib.hid hlev
                have HST:=Lib.hid hst
                have HSR:=Lib.hid hsr2
                have HLEN:=Lib.hid hlen
                have HL:=Lib.hid hL
                subst hS
                clear hx hLB hlen hst hsr hsr2 hlev hsf hsv hL hLi hpl
                obtain ⟨hp0,hp1⟩:=hpb
                by_cases hneg:pl<0
                all_goals
                  go_wp2_with (first | (go_at_call 88;refine HLEV.out.mono ?_;rintro e w6 ⟨rfl,hb6⟩;have hL:=HL.out.call hb6;clear hb6))
                  go_loopg [12] x.nv.length (fun m s12 wx=>∃ k:Nat,k+m=x.nv.length∧s12=.int .i64 k∧LvAt w.heap.size g P (some ⟨b,o,none⟩) n.nodes w wx (putAll Li (x.nv.take k) pl))
                  case atStart=>exact ⟨0,by omega,rfl,hL⟩
                  case round =>
                    clear hL q0 q1 q2 q3 q4
                    obtain ⟨k,hk,rfl,hL⟩:=hrel
                    generalize gk=m3 at *
                    obtain ⟨b',o',hS,a,c1,a2,c2,q0,q1,q2,q3,q4,hsf,hsv⟩:=hL.node HX.out
                    injection hS with hS
                    injection hS with hS1 hS2
                    subst hS1
                    subst hS2
                    by_cases hkl:k<x.nv.length
                    · obtain ⟨u,hu⟩:=some_of_lt hkl
                      have hklI:(k:Int)<(x.nv.length:Int):=by omega
                      have hk0:(0:Int)≤(k:Int):=by omega
                      obtain ⟨b2,o2,hS2,hP2,hcell⟩:=hsv (by rintro e;rw [e] at hu;simp at hu)
                      subst hS2
                      have hc:=hcell k u hu
                      obtain ⟨hu1,hu2⟩:=HVX.out u (mem_of_some hu)
                      have hu3:u<n.vars+1:=by omega
                      have hu4:0≤u:=by omega
                      have hfree:=hL.ints.free u.toNat
                      obtain ⟨l,hl⟩:=some_of_lt (show u.toNat<(putAll Li (x.nv.take k) pl).length by rw [putAll_len,HLEN.out];omega)
                      have hcur:=hL.ints.cell hl
                      have HS:=Lib.hid (show LvAt w.heap.size g P (some ⟨b,o,none⟩) n.nodes w _ (putAll Li (x.nv.take (k+1)) pl) by
                        rw [take_some hu,putAll_snoc];exact hL.set u.toNat pl)
                      clear hcell hl hL hsf hsv hu hP2
                      go_wp2
                      go_roundg (m3 - 1)
                      case measure=>omega
                      case rel=>exact ⟨k+1,by omega,by first | rfl | simp,HS.out⟩
                    · have hkn:¬ ((k:Int)<(x.nv.length:Int)):=by omega
                      have HS:=Lib.hid (show LvAt w.heap.size g P (some ⟨b,o,none⟩) n.nodes w _ (lround (n.nodes.take (i+1)) (lrounds n.nodes r (lstart V n.nodes))) by
                        rw [HSR.out];rw [show x.nv.take k=x.nv from List.take_of_length_le (by omega)] at hL;exact hL)
                      clear hL hsf hsv
                      go_wp2
                      go_roundg (m2 - 1)
                      case measure=>omega
                      case rel=>exact ⟨i+1,by omega,by rw [HST.out];first | (rw [if_pos hneg];simp;done) | (rw [if_neg (by omega)];simp;done),by first | rfl | simp,HS.out⟩
              · have hltn:¬ ((i:Int)<(n.nodes.length:Int)):=by omega
                rw [show n.nodes.take i=n.nodes from List.take_of_length_le (by omega)] at hL ⊢
                have HS:=Lib.hid (show LvAt w.heap.size g P A n.nodes w _ (lrounds n.nodes (r+1) (lstart V n.nodes)) from hL)
                clear hL
                go_wp2
                go_roundg (m - 1)
                case measure=>omega
                case rel=>exact ⟨r+1,by omega,by first | rfl | simp [pleft],by first | rfl | simp,HS.out⟩
          · have hrn:r=n.nodes.length+1:=by omega
            subst hrn
            have hlen:(lrounds n.nodes (n.nodes.length+1) (lstart V n.nodes)).length=V+1:=by rw [lrounds_len,lstart_len]
            have hleI:¬ (((n.nodes.length+1:Nat):Int)≤(n.nodes.length:Int)):=by omega
            have HL:=Lib.hid hL
            have HLEN:=Lib.hid hlen
            clear hL hlen
            by_cases hz2:leftN n.nodes (lrounds n.nodes n.nodes.length (lstart V n.nodes))=0
            · have hlv:n.levels=some (lrounds n.nodes (n.nodes.length+1) (lstart V n.nodes)):=by rw [HLV.out];unfold levelsOf;rw [if_pos hz2]
              have hz3:pleft n.nodes (lstart V n.nodes) (n.nodes.length+1)=0:=hz2
              rw [hz3]
              have HLV2:=Lib.hid hlv
              clear hz2 hz3 hlv
              go_wp2
              go_ret2
              rw [HLV2.out]
              exact ⟨g,by rw [HLEN.out];rfl,HL.out.ints,HL.out.ge,HL.out.below⟩
            · have hlv:n.levels=none:=by rw [HLV.out];unfold levelsOf;rw [if_neg hz2]
              have hz3:(0:Int)<(pleft n.nodes (lstart V n.nodes) (n.nodes.length+1):Nat):=by
                have:pleft n.nodes (lstart V n.nodes) (n.nodes.length+1)=leftN n.nodes (lrounds n.nodes n.nodes.length (lstart V n.nodes)):=rfl
                omega
              generalize pleft n.nodes (lstart V n.nodes) (n.nodes.length+1)=pf at hz3 ⊢
              have HLV2:=Lib.hid hlv
              clear hz2 hlv
              go_wp2
              go_ret2
              rw [HLV2.out]
              exact ⟨rfl,HL.out.below⟩
  · have hl:n.levels=none:=by unfold PNet.levels;rw [if_neg hs]
    have hz:(n.sound != 0)=true:=by simp [hs]
    rw [hl]
    clear h hN hf hm hr
    go_enter Tryz.func52,Tryz.ntmps52
    go_wp2_with (first | (go_at_call 17;refine HQ.out.mono ?_;rintro e w3 ⟨rfl,hb3⟩))
    go_ret2
    exact ⟨rfl,below_on HN.out.2.2 hb3⟩
def PNet.check (n:PNet):Int:=if n.sound=0 then (match n.levels with | none=>8 | some _=>0) else n.sound
set_option maxRecDepth 100000 in
theorem rcheck6_any (n:PNet) (S:NetS) (w:World) (h:NetAt w w.heap.size S n) (hf:n.fits) (hm:n.modest) (hr:n.near) :
    Calls Tryz.prog 16 #[.agg #[.int .i64 n.vars,.slice S.i n.inputs.length S.ic,.slice S.l n.latches.length S.lc,.slice S.o n.outs.length S.oc,.slice S.b n.bads.length S.bc,.slice S.c n.cons.length S.cc,.slice S.m n.mems.length S.mc,.slice S.a n.ands.length S.ac]] w fun e w'=>e=.returned (.int .i64 n.check)∧Below w.heap.size w w':=by
  have hbx:=below_box w #[.int .i64 n.vars,.slice S.i n.inputs.length S.ic,.slice S.l n.latches.length S.lc,.slice S.o n.outs.length S.oc,.slice S.b n.bads.length S.bc,.slice S.c n.cons.length S.cc,.slice S.m n.mems.length S.mc,.slice S.a n.ands.length S.ac] 27
  have hM:=netBox_new w n S 27
  have hN:=NetAt.later h hbx (by simp)
  have HQ:=Lib.hid (rsound_any n S _ hN hf hm hr)
  have HN:=Lib.hid (And.intro hN (And.intro hM hbx))
  have HL:=Lib.hid fun (w3:World) (hb3:Below (w.alloc (.cells #[.int .i64 n.vars,.slice S.i n.inputs.length S.ic,.slice S.l n.latches.length S.lc,.slice S.o n.outs.length S.oc,.slice S.b n.bads.length S.bc,.slice S.c n.cons.length S.cc,.slice S.m n.mems.length S.mc,.slice S.a n.ands.length S.ac] 27)).heap.size (w.alloc (.cells #[.int .i64 n.vars,.slice S.i n.inputs.length S.ic,.slice S.l n.latches.length S.lc,.slice S.o n.outs.length S.oc,.slice S.b n.bads.length S.bc,.slice S.c n.cons.length S.cc,.slice S.m n.mems.length S.mc,.slice S.a n.ands.length S.ac] 27)) w3)=>rlevels_any n S w3 (NetAt.later hN hb3 hb3.size) hf hm hr
  obtain ⟨e0,e1,e2,e3,e4,e5,e6,e7,e8⟩:=hM
  clear h hbx hN hf hm hr
  by_cases hs:n.sound=0
  · have hz:(n.sound != 0)=false:=by simp [hs]
    cases hl:n.levels with
    | none =>
      have HC:=Lib.hid (show n.check=8 by unfold PNet.check;rw [if_pos hs,hl])
      rw [hl] at HL
      clear hs hl
      go_enter Tryz.func16,Tryz.ntmps16
      go_wp2_with (first | (go_at_call 17;refine HQ.out.mono ?_;rintro e w3 ⟨rfl,hb3⟩;obtain ⟨g0,g1,g2,g3,g4,g5,g6,g7,g8⟩:=HN.out.2.1.below hb3 HN.out.2.1.lt) | (go_at_call 52;refine (HL.out _ (by assumption)).mono ?_;rintro e w4 ⟨rfl,hb4⟩))
      go_ret
      exact ⟨ret_int HC.out.symm,below_on HN.out.2.2 (below_on hb3 hb4)⟩
    | some L =>
      have HC:=Lib.hid (show n.check=0 by unfold PNet.check;rw [if_pos hs,hl])
      rw [hl] at HL
      clear hs hl
      go_enter Tryz.func16,Tryz.ntmps16
      go_wp2_with (first | (go_at_call 17;refine HQ.out.mono ?_;rintro e w3 ⟨rfl,hb3⟩;obtain ⟨g0,g1,g2,g3,g4,g5,g6,g7,g8⟩:=HN.out.2.1.below hb3 HN.out.2.1.lt) | (go_at_call 52;refine (HL.out _ (by assumption)).mono ?_;rintro e w4 ⟨gL,rfl,hI,hgL,hb4⟩))
      go_ret
      exact ⟨ret_int HC.out.symm,below_on HN.out.2.2 (below_on hb3 hb4)⟩
  · have hz:(n.sound != 0)=true:=by simp [hs]
    have HC:=Lib.hid (show n.check=n.sound by unfold PNet.check;rw [if_neg hs])
    clear hs
    go_enter Tryz.func16,Tryz.ntmps16
    go_wp2_with (first | (go_at_call 17;refine HQ.out.mono ?_;rintro e w3 ⟨rfl,hb3⟩))
    go_ret
    exact ⟨ret_int HC.out.symm,below_on HN.out.2.2 hb3⟩
theorem Marked.put {w:World} {g N:Nat} {seen:List Int} {v:Int} (h:Marked w g N seen) (h0:0≤v) (h1:v<N):Marked (w.setCell ⟨g,v.toNat,none⟩ (.bool true)) g N (seen++[v]):=by
  have:=h.set (x:=v.toNat) (by omega)
  rwa [show ((v.toNat:Nat):Int)=v from by omega] at this
theorem Marked.look {w:World} {g N:Nat} {seen:List Int} {v:Int} (h:Marked w g N seen) (h0:0≤v) (h1:v<N):w.cell? ⟨g,v.toNat,none⟩=some (.bool (decide (v∈seen))):=by
  have:=h.cell (i:=v.toNat) (by omega)
  rwa [show ((v.toNat:Nat):Int)=v from by omega] at this
end Go.Proofs.YtldnepogjnahfaaGreatDoor
