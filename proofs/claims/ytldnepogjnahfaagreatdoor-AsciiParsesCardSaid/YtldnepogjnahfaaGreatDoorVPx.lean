/- The parser of lines as it stands in memory: what is left to read, which fault came first; what may have turned behind a call of one of its methods (no condition but those that each theorem names); The parser's smallest methods by contracts: refuse, expect, within (conditions: the parser lies in memory; at most 400000 bytes); The parser's methods for numbers and literals by contracts (conditions: the parser lies in memory; at most 400000 bytes); The parser's method definition by contract: a literal whose variables are defined by it (conditions: the parser lies in memory, its marks are made; at most 400000 bytes; 1 to 1000 variables); The parser of lines: a box of one's own beside it; a latch's words (conditions: the parser lies in memory; at most 400000 bytes); Parts that are read by a range over a function: what they come to, what the range knows, what it may do (no condition but those that each theorem names); The parser's method Memory by contract: a memory's own line, with ports that are empty yet (conditions: the parser lies in memory; at most 400000 bytes); Lists of numbers that lie apart from the parser (no condition but those that each theorem names); The parser of texts: an input, a latch, an and, a definition behind a space by contracts (conditions: the parser lies in memory, its marks are made; at most 400000 bytes). -/
import Derived.Test.YtldnepogjnahfaaGreatDoorVFB
import Derived.Test.YtldnepogjnahfaaGreatDoorVNumAny
import Derived.Test.YtldnepogjnahfaaGreatDoorVZC
import Derived.Test.YtldnepogjnahfaaGreatDoorVZD
import Derived.Maps.AppendAt
import Derived.OwnWalk
import Derived.Test.YtldnepogjnahfaaGreatDoorVZG
import Derived.Test.YtldnepogjnahfaaGreatDoorVRange
import Derived.Test.YtldnepogjnahfaaGreatDoorVZE
set_option linter.unusedVariables false
namespace Go.Proofs.YtldnepogjnahfaaGreatDoor
open Go.ChangeShapes Go.WideShapes Go.RowKit
structure Ps where
  l:List Int
  i:Nat
  seen:List Int
  e:Option (Int × Int)
def Ps.refuse (s:Ps) (k a:Int):Ps:=match s.e with
  | some _=>s
  | none=>if k=0 then s else { s with e:=some (k,a) }
def Ps.skip (s:Ps) (n:Nat):Ps:={ s with l:=s.l.drop n,i:=s.i+n }
def Ps.expect (s:Ps) (b:List Int):Ps:=match s.e with
  | some _=>s
  | none=>(s.skip (Sc.wantN s.l b)).refuse (Sc.wantA s.l b s.i).2 (Sc.wantA s.l b s.i).1
def maxN:Int:=1099511627776
def Ps.within (s:Ps) (lo hi k:Int):Int × Ps:=match s.e with
  | some _=>(0,s)
  | none =>
    if (Sc.numA s.l maxN).2≠0 then (0,(s.skip (Sc.numN s.l maxN)).refuse (Sc.numA s.l maxN).2 s.i)
    else if (Sc.numA s.l maxN).1<lo∨hi<(Sc.numA s.l maxN).1 then (0,(s.skip (Sc.numN s.l maxN)).refuse k s.i)
    else ((Sc.numA s.l maxN).1,s.skip (Sc.numN s.l maxN))
theorem mat_le (l bs:List Int):Sc.mat l bs≤l.length:=by
  induction l generalizing bs with
  | nil=>unfold Sc.mat;simp
  | cons x xs ih =>
    cases bs with
    | nil=>unfold Sc.mat;simp
    | cons y ys =>
      have:=ih ys
      unfold Sc.mat
      split <;> simp <;> omega
theorem wantN_le (l bs:List Int):Sc.wantN l bs≤l.length:=by
  unfold Sc.wantN
  have:=mat_le l bs
  split <;> omega
theorem wantN_bad {l bs:List Int} {i:Nat} (h:(Sc.wantA l bs i).2≠0):Sc.wantN l bs=0:=by
  unfold Sc.wantA at h
  unfold Sc.wantN
  split
  · rename_i h1;rw [if_pos h1] at h;exact absurd rfl h
  · rfl
theorem digs_len (l:List Int):Sc.digs l≤l.length:=by unfold Sc.digs;exact (List.takeWhile_sublist _).length_le
theorem digs_at (l:List Int):∀ j,j<Sc.digs l→Sc.isDig (l.getD j 0)=true:=by
  induction l with
  | nil=>intro j hj;simp [Sc.digs] at hj
  | cons x xs ih =>
    intro j hj
    unfold Sc.digs at hj
    rw [List.takeWhile_cons] at hj
    by_cases hx:Sc.isDig x=true
    · rw [if_pos hx] at hj
      cases j with
      | zero=>simpa using hx
      | succ j=>simpa using ih j (by unfold Sc.digs;simpa using hj)
    · rw [if_neg hx] at hj;simp at hj
theorem numN_le (l:List Int) (most:Int):Sc.numN l most≤l.length:=by
  unfold Sc.numN
  have:=digs_len l
  split
  · omega
  · split
    · omega
    · split <;> omega
theorem numA_in (l:List Int) (most:Int) (hm:0≤most):0≤(Sc.numA l most).1∧(Sc.numA l most).1≤most:=by
  unfold Sc.numA
  split
  · exact ⟨by decide,hm⟩
  · split
    · exact ⟨by decide,hm⟩
    · split
      · exact ⟨by decide,hm⟩
      · rename_i h3
        have hg:Sc.good l most=true:=by
          unfold Sc.bad at h3
          simp only [Bool.not_eq_true,Bool.or_eq_false_iff,Bool.not_eq_false'] at h3
          exact h3.2
        refine ⟨Sc.val_pos l _ (digs_at l),?_⟩
        cases hd:Sc.digs l with
        | zero=>exact hm
        | succ k =>
          unfold Sc.good at hg
          rw [List.all_eq_true] at hg
          have:=hg k (by simp;omega)
          have hb:=Sc.big_false (by simpa using this)
          show Sc.val l k*10+(l.getD k 0 - 48)≤most
          exact hb.2
theorem Ps.within_in (s:Ps) (lo hi k:Int):(s.within lo hi k).1=0∨(lo≤(s.within lo hi k).1∧(s.within lo hi k).1≤hi):=by
  unfold Ps.within
  split
  · exact .inl rfl
  · split
    · exact .inl rfl
    · split
      · exact .inl rfl
      · exact .inr (by show lo≤_∧_≤hi;omega)
structure NC where
  c1:Value
  c2:Value
  c3:Value
  c4:Value
  c5:Value
  c6:Value
  c7:Value
def prow (r:Nat) (V:Int) (N:NC) (ev:Value):Array Value:=#[.pointer (some ⟨r,0,none⟩),.int .i64 V,N.c1,N.c2,N.c3,N.c4,N.c5,N.c6,N.c7,ev]
def Err (dep:Nat) (w:World) (ev:Value):Option (Int × Int)→Prop
  | none=>ev=.nilIface
  | some x=>∃ L k,Fa.Chain w (Fa.under (some k)) L ev∧L≠[]∧L.length≤dep∧Fa.inmost (Fa.base (some k)) L=x
structure Kept3 (p r g:Nat) (w w':World):Prop where
  os:w'.os=w.os
  tape:w'.tape=w.tape
  output:w'.output=w.output
  size:w.heap.size≤w'.heap.size
  block:∀ k,k<w.heap.size→k≠p→k≠r→k≠g→w'.heap[k]?=w.heap[k]?
theorem Kept3.refl (p r g:Nat) (w:World):Kept3 p r g w w:=⟨rfl,rfl,rfl,Nat.le_refl _,fun _ _ _ _ _=>rfl⟩
theorem Kept3.trans {p r g:Nat} {a b c:World} (h:Kept3 p r g a b) (k:Kept3 p r g b c):Kept3 p r g a c :=
  ⟨k.os.trans h.os,k.tape.trans h.tape,k.output.trans h.output,Nat.le_trans h.size k.size,fun i hi h1 h2 h3=>(k.block i (by have:=h.size;omega) h1 h2 h3).trans (h.block i hi h1 h2 h3)⟩
theorem Kept3.of_below {p r g:Nat} {w w':World} (h:Below w.heap.size w w'):Kept3 p r g w w':=⟨h.os,h.tape,h.output,h.size,fun k hk _ _ _=>h.block k hk⟩
theorem Kept3.of_only {p r g:Nat} {w w':World} (h:Sc.Only r w w'):Kept3 p r g w w':=⟨h.os,h.tape,h.output,h.size,fun k hk _ h2 _=>h.block k hk h2⟩
theorem Kept3.put {p r g:Nat} {a w:World} (h:Kept3 p r g a w) (j:Nat) (v:Value):Kept3 p r g a (w.setCell ⟨p,j,none⟩ v) :=
  ⟨h.os,h.tape,h.output,by simpa using h.size,fun k hk h1 h2 h3=>by rw [heap_setCell_other _ _ _ _ (by simpa using h1)];exact h.block k hk h1 h2 h3⟩
theorem Kept3.mark {p r g:Nat} {a w:World} (h:Kept3 p r g a w) (j:Nat) (v:Value):Kept3 p r g a (w.setCell ⟨g,j,none⟩ v) :=
  ⟨h.os,h.tape,h.output,by simpa using h.size,fun k hk h1 h2 h3=>by rw [heap_setCell_other _ _ _ _ (by simpa using h3)];exact h.block k hk h1 h2 h3⟩
theorem Kept3.alloc {p r g:Nat} {a w:World} (h:Kept3 p r g a w) (o:Obj):Kept3 p r g a (w.alloc o):=h.trans (Kept3.of_below ((Below.refl _ w).alloc (Nat.le_refl _) o))
theorem Kept3.drew {p r g:Nat} {a w:World} (h:Kept3 p r g a w):Kept3 p r g a w.drew:=⟨h.os,h.tape,h.output,h.size,h.block⟩
theorem Kept3.below {p r g n:Nat} {w w':World} (h:Kept3 p r g w w') (hn:n≤w.heap.size) (hp:n≤p) (hr:n≤r) (hg:n≤g):Below n w w' :=
  ⟨h.os,h.tape,h.output,h.size,fun k hk=>h.block k (by omega) (by omega) (by omega) (by omega)⟩
theorem chain_rows {w:World} {bot:Value} {L:List (Nat × Int × Int)} {e:Value} (h:Fa.Chain w bot L e):∀ y∈L,∃ cs,w.heap[y.1]?=some (.cells cs 235 (0,0)):=by
  induction L generalizing e with
  | nil=>intro y hy;cases hy
  | cons x L ih =>
    obtain ⟨_,_,u,hr,hc⟩:=h
    intro y hy
    rcases List.mem_cons.1 hy with rfl | hy
    · exact ⟨_,hr⟩
    · exact ih hc y hy
theorem chain_keep {w w':World} {bot:Value} {L:List (Nat × Int × Int)} {e:Value} (h:Fa.Chain w bot L e) (hk:∀ y∈L,w'.heap[y.1]?=w.heap[y.1]?):Fa.Chain w' bot L e:=by
  induction L generalizing e with
  | nil=>exact h
  | cons x L ih =>
    obtain ⟨h1,h2,u,hr,hc⟩:=h
    exact ⟨h1,h2,u,(hk x (by simp)).trans hr,ih hc (fun y hy=>hk y (by simp [hy]))⟩
theorem Err.keep {dep:Nat} {w w':World} {ev:Value} {o:Option (Int × Int)} (h:Err dep w ev o) (hk:∀ (k:Nat) (cs:Array Value),w.heap[k]?=some (.cells cs 235 (0,0))→w'.heap[k]?=w.heap[k]?):Err dep w' ev o:=by
  cases o with
  | none=>exact h
  | some x =>
    obtain ⟨L,k,hc,h1,h2,h3⟩:=h
    refine ⟨L,k,chain_keep hc fun y hy=>?_,h1,h2,h3⟩
    obtain ⟨cs,hr⟩:=chain_rows hc y hy
    exact hk _ _ hr
theorem Err.mono {dep dep':Nat} {w:World} {ev:Value} {o:Option (Int × Int)} (h:Err dep w ev o) (hd:dep≤dep'):Err dep' w ev o:=by
  cases o with
  | none=>exact h
  | some x =>
    obtain ⟨L,k,hc,h1,h2,h3⟩:=h
    exact ⟨L,k,hc,h1,by omega,h3⟩
theorem Err.form {dep:Nat} {w:World} {ev:Value} {x:Int × Int} (h:Err dep w ev (some x)):∃ b,ev=.iface 188 (.pointer (some ⟨b,0,none⟩)):=by
  obtain ⟨L,k,hc,h1,h2,h3⟩:=h
  cases L with
  | nil=>exact absurd rfl h1
  | cons y L=>exact ⟨y.1,hc.1⟩
theorem Err.put {dep:Nat} {w:World} {ev:Value} {o:Option (Int × Int)} (h:Err dep w ev o) {p j:Nat} {cs:Array Value} {t:TypeId} (hp:w.heap[p]?=some (.cells cs t (0,0))) (ht:t≠235) (v:Value):Err dep (w.setCell ⟨p,j,none⟩ v) ev o :=
  h.keep fun k cs' hk=>heap_setCell_other _ _ _ _ (by
    rintro rfl
    rw [hp] at hk
    injection hk with hk
    injection hk with _ e _
    exact ht e)
structure Ext where
  B:Nat
  At:World→List Int→Prop
structure Ext.Ok (m:Ext) (p r g:Nat):Prop where
  keep:∀ (W W':World) (l:List Int),m.At W l→(∀ (k:Nat) (cs:Array Value) (t:TypeId) (fz:Nat × Nat),k<m.B→k≠p→k≠r→W.heap[k]?=some (.cells cs t fz)→W'.heap[k]?=some (.cells cs t fz))→m.At W' l
  row:∀ (W:World) (l:List Int),m.At W l→∃ cs t,t≠235∧W.heap[g]?=some (.cells cs t (0,0))
  lt:1<r∧r<p∧p<m.B∧g<m.B∧g≠p∧g≠r
theorem Ext.Ok.same {m:Ext} {p r g:Nat} (h:m.Ok p r g) {W W':World} {l:List Int} (hx:m.At W l) (hb:∀ k,k<m.B→k≠p→k≠r→W'.heap[k]?=W.heap[k]?):m.At W' l :=
  h.keep W W' l hx fun k cs t fz h1 h2 h3 h4=>(hb k h1 h2 h3).trans h4
structure PAt (dep p r g:Nat) (m:Ext) (V:Int) (N:NC) (w:World) (s:Ps):Prop where
  row:∃ ev,w.heap[p]?=some (.cells (prow r V N ev) 118 (0,0))∧Err dep w ev s.e
  rd:Sc.Rd w r s.l s.i
  ext:m.At w s.seen
  laid:Fa.Laid w
  room:s.i+s.l.length≤400000
  byte:∀ x∈s.l,0≤x∧x<256
  ok:m.Ok p r g
  top:m.B≤w.heap.size
  vars:0≤V∧V≤2000
theorem rd_row {w:World} {r:Nat} {l:List Int} {i:Nat} (h:Sc.Rd w r l i):∃ cs,w.heap[r]?=some (.cells cs 170 (0,0)):=by
  obtain ⟨a,c,h1,_⟩:=h
  exact ⟨_,h1⟩
theorem rd_same {w w':World} {r:Nat} {l:List Int} {i:Nat} (h:Sc.Rd w r l i) (hs:w.heap.size≤w'.heap.size) (hb:∀ k,k≤r→w'.heap[k]?=w.heap[k]?):Sc.Rd w' r l i:=by
  obtain ⟨a,c,k1,k2,k3,k4,k5,k6⟩:=h
  exact ⟨a,c,(hb r (Nat.le_refl _)).trans k1,k2,k3,k4,k5,fun hl=>by
    obtain ⟨b,o',e1,e2,e3,e4⟩:=k6 hl
    exact ⟨b,o',e1,e2,Nat.lt_of_lt_of_le e3 hs,fun j hj=>(World.cell?_of_block (a:=⟨b,o'+j,none⟩) (hb b (by omega))).trans (e4 j hj)⟩⟩
theorem marked_row {w:World} {g N:Nat} {l:List Int} (h:Marked w g N l):∃ cs,w.heap[g]?=some (.cells cs 4 (0,0)):=by
  obtain ⟨cs,h1,_⟩:=h
  exact ⟨_,h1⟩
theorem apart_rows {w:World} {a b:Nat} {cs cs':Array Value} {t t':TypeId} (ha:w.heap[a]?=some (.cells cs t (0,0))) (hb:w.heap[b]?=some (.cells cs' t' (0,0))) (ht:t≠t'):a≠b:=by
  rintro rfl
  rw [ha] at hb
  injection hb with hb
  injection hb with _ e _
  exact ht e
theorem PAt.mono {dep dep' p r g:Nat} {m:Ext} {V:Int} {N:NC} {w:World} {s:Ps} (h:PAt dep p r g m V N w s) (hd:dep≤dep'):PAt dep' p r g m V N w s:=by
  obtain ⟨⟨ev,h1,h2⟩,h3,h4,h5,h6,h7,h8,h9,h10⟩:=h
  exact ⟨⟨ev,h1,h2.mono hd⟩,h3,h4,h5,h6,h7,h8,h9,h10⟩
theorem PAt.lt {dep p r g:Nat} {m:Ext} {V:Int} {N:NC} {w:World} {s:Ps} (h:PAt dep p r g m V N w s):p<w.heap.size∧r<w.heap.size:=by
  have h1:=h.ok.lt
  have h2:=h.top
  omega
theorem PAt.glt {dep p r g:Nat} {m:Ext} {V:Int} {N:NC} {w:World} {s:Ps} (h:PAt dep p r g m V N w s):g<w.heap.size:=by
  have h1:=h.ok.lt
  have h2:=h.top
  omega
theorem PAt.stay {dep p r g:Nat} {m:Ext} {V:Int} {N:NC} {w w':World} {s:Ps} (h:PAt dep p r g m V N w s) (hs:w.heap.size≤w'.heap.size) (hb:∀ k,k<m.B→w'.heap[k]?=w.heap[k]?) (he:∀ (k:Nat) (cs:Array Value),w.heap[k]?=some (.cells cs 235 (0,0))→w'.heap[k]?=w.heap[k]?):PAt dep p r g m V N w' s:=by
  obtain ⟨⟨ev,h1,h2⟩,h3,h4,h5,h6,h7,h8,h9,h10⟩:=h
  have hl:=h8.lt
  exact ⟨⟨ev,(hb p (by omega)).trans h1,h2.keep he⟩,rd_same h3 hs fun k hk=>hb k (by omega),h8.same h4 fun k hk _ _=>hb k hk,(World.cell?_of_block (a:=⟨1,0,none⟩) (hb 1 (by omega))).trans h5,h6,h7,h8,Nat.le_trans h9 hs,h10⟩
theorem PAt.below {dep p r g:Nat} {m:Ext} {V:Int} {N:NC} {w w':World} {s:Ps} (h:PAt dep p r g m V N w s) (hb:Below w.heap.size w w'):PAt dep p r g m V N w' s :=
  h.stay hb.size (fun k hk=>hb.block k (by have:=h.top;omega)) fun k cs hk=>hb.block k (lt_of_row hk)
def PStep (dep p r g:Nat) (m:Ext) (V:Int) (N:NC) (w:World) (v:Value) (s:Ps) (e:Ending) (w':World):Prop:=e=.returned v∧PAt dep p r g m V N w' s∧Kept3 p r g w w'
theorem Ps.refuse_some {s:Ps} {x:Int × Int} (he:s.e=some x) (k a:Int):s.refuse k a=s:=by unfold Ps.refuse;rw [he]
theorem Ps.refuse_none {s:Ps} (he:s.e=none) {k:Int} (hk:k≠0) (a:Int):s.refuse k a={ s with e:=some (k,a) }:=by unfold Ps.refuse;rw [he];exact if_neg hk
theorem Ps.refuse_ok (s:Ps) (a:Int):s.refuse 0 a=s:=by unfold Ps.refuse;cases s.e <;> rfl
section
variable {dep p r g:Nat} {m:Ext} {V:Int} {N:NC} {w:World} {s:Ps}
theorem PAt.setErr {ev':Value} {o:Option (Int × Int)} (h:PAt dep p r g m V N w s) (hE:Err dep w ev' o):PAt dep p r g m V N (w.setCell ⟨p,9,none⟩ ev') { s with e:=o }:=by
  obtain ⟨⟨ev,h1,h2⟩,h3,h4,h5,h6,h7,h8,h9,h10⟩:=h
  have hl:=h8.lt
  have hother:∀ k,k≠p→(w.setCell ⟨p,9,none⟩ ev').heap[k]?=w.heap[k]?:=fun k hk=>heap_setCell_other _ _ _ _ (by simpa using hk)
  refine ⟨⟨ev',?_,hE.put h1 (by decide) ev'⟩,rd_same h3 (by simp) fun k hk=>hother k (by omega),h8.same h4 fun k _ hk _=>hother k hk,(World.cell?_of_block (a:=⟨1,0,none⟩) (hother 1 (by omega))).trans h5,h6,h7,h8,by simpa using h9,h10⟩
  rw [heap_setCell_same w p 9 _ _ ev' h1];rfl
theorem PAt.read {w':World} {l:List Int} {i:Nat} (h:PAt dep p r g m V N w s) (hR:Sc.Rd w' r l i) (hO:Sc.Only r w w') (hi:i+l.length≤400000) (hb:∀ x∈l,0≤x∧x<256):PAt dep p r g m V N w' { s with l:=l,i:=i }:=by
  obtain ⟨⟨ev,h1,h2⟩,h3,h4,h5,h6,h7,h8,h9,h10⟩:=h
  have hl:=h8.lt
  refine ⟨⟨ev,(hO.block p (lt_of_row h1) (by omega)).trans h1,h2.keep fun k cs hk=>hO.block k (lt_of_row hk) ?_⟩,hR,h8.same h4 fun k hk _ hn=>hO.block k (by omega) hn,?_,hi,hb,h8,Nat.le_trans h9 hO.size,h10⟩
  · obtain ⟨cs',hr⟩:=rd_row h3
    exact apart_rows hk hr (by decide)
  · exact (World.cell?_of_block (a:=⟨1,0,none⟩) (hO.block 1 (h5.pos) (by omega))).trans h5
theorem PAt.cells (h:PAt dep p r g m V N w s):∃ ev,Err dep w ev s.e∧w.cell? ⟨p,0,none⟩=some (.pointer (some ⟨r,0,none⟩))∧w.cell? ⟨p,1,none⟩=some (.int .i64 V)∧w.cell? ⟨p,9,none⟩=some ev∧∀ j,w.frozen? ⟨p,j,none⟩=false:=by
  obtain ⟨ev,h1,h2⟩:=h.row
  refine ⟨ev,h2,?_,?_,?_,fun j=>frozen_of_row _ _ _ _ _ h1⟩
  all_goals rw [cell_of_row _ _ _ _ _ _ h1];rfl
theorem refuse_any (k a:Int) (h:PAt dep p r g m V N w s) (hd:1≤dep) :
    Calls Tryz.prog 149 #[.pointer (some ⟨p,0,none⟩),.int .i64 k,.int .i64 a] w (PStep dep p r g m V N w (.tuple #[]) (s.refuse k a)):=by
  obtain ⟨ev,hE,c0,c1,c9,cf⟩:=h.cells
  have H:=Lib.hid h
  cases he:s.e with
  | some x =>
    rw [he] at hE
    obtain ⟨b,rfl⟩:=hE.form
    rw [Ps.refuse_some he]
    clear h hE c0 c1 cf he
    go_enter Tryz.func149,Tryz.ntmps149
    go_wp2
    go_end0
    exact ⟨rfl,H.out,Kept3.refl _ _ _ _⟩
  | none =>
    rw [he] at hE
    cases hE
    by_cases hk:k=0
    · subst hk
      rw [Ps.refuse_ok]
      have f9:=cf 9
      have HF:=Lib.hid (show PAt dep p r g m V N (w.setCell ⟨p,9,none⟩ .nilIface) s from by
        have:=H.out.setErr (ev':=.nilIface) (o:=none) rfl
        rwa [show ({ s with e:=none }:Ps)=s from by cases s;simp at he;simp [he]] at this)
      clear h c0 c1 cf he
      go_enter Tryz.func149,Tryz.ntmps149
      go_wp2_with (go_at_call 202;refine (Fa.New_ok _ _).mono ?_;rintro e w1 ⟨rfl,rfl⟩)
      go_end0
      exact ⟨rfl,HF.out,(Kept3.refl _ _ _ _).put 9 _⟩
    · rw [Ps.refuse_none he hk]
      have HN:=Lib.hid (Fa.New_any k a hk w)
      have HP:=Lib.hid (fun (W:World) (hb:Below w.heap.size w W)=>(H.out.below hb).cells)
      clear h c1 cf
      go_enter Tryz.func149,Tryz.ntmps149
      go_wp2_with (go_at_call 202;refine HN.out.mono ?_;rintro e w1 ⟨b,rfl,hb1,hc1⟩;obtain ⟨ev1,-,-,-,d9,df⟩:=HP.out _ hb1;have f9:=df 9;have HB:=Lib.hid (And.intro hb1 hc1);clear hb1 hc1)
      go_end0
      refine ⟨rfl,(H.out.below HB.out.1).setErr ⟨_,k,HB.out.2,by simp,by simpa using hd,rfl⟩,(Kept3.of_below HB.out.1).put 9 _⟩
theorem PAt.next {w':World} {n:Nat} (h:PAt dep p r g m V N w s) (hR:Sc.Rd w' r (s.l.drop n) (s.i+n)) (hO:Sc.Only r w w') (hn:n≤s.l.length):PAt dep p r g m V N w' (s.skip n) :=
  h.read hR hO (by rw [List.length_drop];have:=h.room;omega) (fun x hx=>h.byte x (List.mem_of_mem_drop hx))
set_option maxHeartbeats 1000000 in
theorem expect_any (b:ByteArray) (hb:b.size≤1000) (h:PAt dep p r g m V N w s) (hd:1≤dep) :
    Calls Tryz.prog 120 #[.pointer (some ⟨p,0,none⟩),.string b] w (PStep dep p r g m V N w (.tuple #[]) (s.expect (Sc.sbytes b))):=by
  obtain ⟨ev,hE,c0,c1,c9,cf⟩:=h.cells
  have H:=Lib.hid h
  cases he:s.e with
  | some x =>
    rw [he] at hE
    obtain ⟨q,rfl⟩:=hE.form
    rw [show s.expect (Sc.sbytes b)=s by unfold Ps.expect;rw [he]]
    clear h hE c0 c1 cf he
    go_enter Tryz.func120,Tryz.ntmps120
    go_wp2
    go_end0
    exact ⟨rfl,H.out,Kept3.refl _ _ _ _⟩
  | none =>
    rw [he] at hE
    cases hE
    rw [show s.expect (Sc.sbytes b)=(s.skip (Sc.wantN s.l (Sc.sbytes b))).refuse (Sc.wantA s.l (Sc.sbytes b) s.i).2 (Sc.wantA s.l (Sc.sbytes b) s.i).1 by unfold Ps.expect;rw [he]]
    have HW:=Lib.hid (Sc.want_any r s.i s.l b w h.rd (by omega) (by have:=h.room;omega))
    have HL:=Lib.hid (wantN_le s.l (Sc.sbytes b))
    unfold Sc.two at HW
    generalize Sc.wantA s.l (Sc.sbytes b) s.i=A at *
    generalize Sc.wantN s.l (Sc.sbytes b)=n at *
    obtain ⟨a1,a2⟩:=A
    clear h c1 cf he
    go_enter Tryz.func120,Tryz.ntmps120
    go_wp2_with (first
      | (go_at_call 170;refine HW.out.mono ?_;rintro e w1 ⟨rfl,hR,hO⟩;have HP:=Lib.hid (And.intro (H.out.next hR hO HL.out) (Kept3.of_only (p:=p) (g:=g) hO));clear hR hO)
      | (go_at_call 149;refine (refuse_any _ _ HP.out.1 hd).mono ?_;rintro e w2 ⟨rfl,hP,hK⟩))
    go_end0
    exact ⟨rfl,hP,HP.out.2.trans hK⟩
set_option maxHeartbeats 1000000 in
theorem within_any (lo hi k:Int) (h:PAt dep p r g m V N w s) (hd:1≤dep) :
    Calls Tryz.prog 172 #[.pointer (some ⟨p,0,none⟩),.int .i64 lo,.int .i64 hi,.int .i64 k] w (PStep dep p r g m V N w (.int .i64 (s.within lo hi k).1) (s.within lo hi k).2):=by
  obtain ⟨ev,hE,c0,c1,c9,cf⟩:=h.cells
  have H:=Lib.hid h
  cases he:s.e with
  | some x =>
    rw [he] at hE
    obtain ⟨q,rfl⟩:=hE.form
    rw [show s.within lo hi k=(0,s) by unfold Ps.within;rw [he]]
    clear h hE c0 c1 cf he
    go_enter Tryz.func172,Tryz.ntmps172
    go_wp2
    go_ret
    exact ⟨rfl,H.out,Kept3.refl _ _ _ _⟩
  | none =>
    rw [he] at hE
    cases hE
    have HA:=Lib.hid (Sc.at_any r s.l s.i w h.rd)
    have HW:=Lib.hid (Sc.num_any r s.i s.l maxN w h.rd h.room (by decide) (by decide) h.byte)
    have HL:=Lib.hid (numN_le s.l maxN)
    have hs:s.within lo hi k=if (Sc.numA s.l maxN).2≠0 then (0,(s.skip (Sc.numN s.l maxN)).refuse (Sc.numA s.l maxN).2 s.i)
      else if (Sc.numA s.l maxN).1<lo∨hi<(Sc.numA s.l maxN).1 then (0,(s.skip (Sc.numN s.l maxN)).refuse k s.i)
      else ((Sc.numA s.l maxN).1,s.skip (Sc.numN s.l maxN)):=by unfold Ps.within;rw [he]
    rw [hs]
    unfold Sc.two at HW
    generalize Sc.numA s.l maxN=A at *
    generalize Sc.numN s.l maxN=n at *
    obtain ⟨a1,a2⟩:=A
    unfold maxN at HW
    clear h c1 cf he hs
    by_cases h2:a2=0
    · subst h2
      rw [if_neg (by simp)]
      by_cases hl:a1<lo
      · rw [if_pos (.inl hl)]
        go_enter Tryz.func172,Tryz.ntmps172
        go_wp2_with (first
          | (go_at_call 168;refine HA.out.mono ?_;rintro e w0 ⟨rfl,rfl⟩)
          | (go_at_call 214;refine HW.out.mono ?_;rintro e w1 ⟨rfl,hR,hO⟩;have HP:=Lib.hid (And.intro (H.out.next hR hO HL.out) (Kept3.of_only (p:=p) (g:=g) hO));clear hR hO)
          | (go_at_call 149;refine (refuse_any _ _ HP.out.1 hd).mono ?_;rintro e w2 ⟨rfl,hP,hK⟩))
        go_ret
        exact ⟨rfl,hP,HP.out.2.trans hK⟩
      · by_cases hh:hi<a1
        · rw [if_pos (.inr hh)]
          go_enter Tryz.func172,Tryz.ntmps172
          go_wp2_with (first
            | (go_at_call 168;refine HA.out.mono ?_;rintro e w0 ⟨rfl,rfl⟩)
            | (go_at_call 214;refine HW.out.mono ?_;rintro e w1 ⟨rfl,hR,hO⟩;have HP:=Lib.hid (And.intro (H.out.next hR hO HL.out) (Kept3.of_only (p:=p) (g:=g) hO));clear hR hO)
            | (go_at_call 149;refine (refuse_any _ _ HP.out.1 hd).mono ?_;rintro e w2 ⟨rfl,hP,hK⟩))
          go_ret
          exact ⟨rfl,hP,HP.out.2.trans hK⟩
        · rw [if_neg (by show ¬ (a1<lo∨hi<a1);omega)]
          go_enter Tryz.func172,Tryz.ntmps172
          go_wp2_with (first
            | (go_at_call 168;refine HA.out.mono ?_;rintro e w0 ⟨rfl,rfl⟩)
            | (go_at_call 214;refine HW.out.mono ?_;rintro e w1 ⟨rfl,hR,hO⟩;have HP:=Lib.hid (And.intro (H.out.next hR hO HL.out) (Kept3.of_only (p:=p) (g:=g) hO));clear hR hO))
          go_ret
          exact ⟨rfl,HP.out.1,HP.out.2⟩
    · rw [if_pos h2]
      go_enter Tryz.func172,Tryz.ntmps172
      go_wp2_with (first
        | (go_at_call 168;refine HA.out.mono ?_;rintro e w0 ⟨rfl,rfl⟩)
        | (go_at_call 214;refine HW.out.mono ?_;rintro e w1 ⟨rfl,hR,hO⟩;have HP:=Lib.hid (And.intro (H.out.next hR hO HL.out) (Kept3.of_only (p:=p) (g:=g) hO));clear hR hO)
        | (go_at_call 149;refine (refuse_any _ _ HP.out.1 hd).mono ?_;rintro e w2 ⟨rfl,hP,hK⟩))
      go_ret
      exact ⟨rfl,hP,HP.out.2.trans hK⟩
end
def Ps.nextWithin (s:Ps) (lo hi k:Int):Int × Ps:=(s.expect [32]).within lo hi k
def Ps.anyNumber (s:Ps):Int × Ps:=s.within 0 maxN 4
def Ps.nextAny (s:Ps):Int × Ps:=(s.expect [32]).anyNumber
def Ps.literal (V:Int) (s:Ps):Int × Ps:=s.within 0 (2*V+1) 5
def Ps.nextLiteral (V:Int) (s:Ps):Int × Ps:=(s.expect [32]).literal V
def Ps.nextLiterals (V:Int):Nat→Ps→List Int × Ps
  | 0,s=>([],s)
  | k+1,s=>((Ps.nextLiterals V k s).1++[((Ps.nextLiterals V k s).2.nextLiteral V).1],((Ps.nextLiterals V k s).2.nextLiteral V).2)
theorem sb_space:Sc.sbytes ⟨#[32]⟩=[32]:=by decide
theorem sb_lf:Sc.sbytes ⟨#[10]⟩=[10]:=by decide
theorem sb_m:Sc.sbytes ⟨#[109]⟩=[109]:=by decide
theorem sb_w:Sc.sbytes ⟨#[119]⟩=[119]:=by decide
theorem sb_r:Sc.sbytes ⟨#[114]⟩=[114]:=by decide
theorem sb_c:Sc.sbytes ⟨#[99,10]⟩=[99,10]:=by decide
theorem Ps.nextLiterals_len (V:Int) (k:Nat) (s:Ps):(Ps.nextLiterals V k s).1.length=k:=by
  induction k with
  | zero=>rfl
  | succ k ih=>unfold Ps.nextLiterals;rw [List.length_append,ih];rfl
section
variable {dep p r g:Nat} {m:Ext} {V:Int} {N:NC} {w:World} {s:Ps}
theorem nextWithin_any (lo hi k:Int) (h:PAt dep p r g m V N w s) (hd:1≤dep) :
    Calls Tryz.prog 173 #[.pointer (some ⟨p,0,none⟩),.int .i64 lo,.int .i64 hi,.int .i64 k] w (PStep dep p r g m V N w (.int .i64 (s.nextWithin lo hi k).1) (s.nextWithin lo hi k).2):=by
  have H:=Lib.hid (sb_space ▸ expect_any ⟨#[32]⟩ (by decide) h hd)
  clear h
  go_enter Tryz.func173,Tryz.ntmps173
  go_wp2_with (first
    | (go_at_call 120;refine H.out.mono ?_;rintro e w1 ⟨rfl,hP1,hK1⟩;have HP1:=Lib.hid (And.intro hP1 hK1);clear hP1 hK1)
    | (go_at_call 172;refine (within_any lo hi k HP1.out.1 hd).mono ?_;rintro e w2 ⟨rfl,hP2,hK2⟩))
  go_ret
  exact ⟨rfl,hP2,HP1.out.2.trans hK2⟩
theorem anyNumber_any (h:PAt dep p r g m V N w s) (hd:1≤dep) :
    Calls Tryz.prog 215 #[.pointer (some ⟨p,0,none⟩)] w (PStep dep p r g m V N w (.int .i64 s.anyNumber.1) s.anyNumber.2):=by
  have H:=Lib.hid (within_any 0 1099511627776 4 h hd)
  clear h
  go_enter Tryz.func215,Tryz.ntmps215
  go_wp2_with (first
    | (go_at_call 172;refine H.out.mono ?_;rintro e w2 ⟨rfl,hP2,hK2⟩))
  go_ret
  exact ⟨rfl,hP2,hK2⟩
theorem nextAny_any (h:PAt dep p r g m V N w s) (hd:1≤dep) :
    Calls Tryz.prog 174 #[.pointer (some ⟨p,0,none⟩)] w (PStep dep p r g m V N w (.int .i64 s.nextAny.1) s.nextAny.2):=by
  have H:=Lib.hid (sb_space ▸ expect_any ⟨#[32]⟩ (by decide) h hd)
  clear h
  go_enter Tryz.func174,Tryz.ntmps174
  go_wp2_with (first
    | (go_at_call 120;refine H.out.mono ?_;rintro e w1 ⟨rfl,hP1,hK1⟩;have HP1:=Lib.hid (And.intro hP1 hK1);clear hP1 hK1)
    | (go_at_call 215;refine (anyNumber_any HP1.out.1 hd).mono ?_;rintro e w2 ⟨rfl,hP2,hK2⟩))
  go_ret
  exact ⟨rfl,hP2,HP1.out.2.trans hK2⟩
theorem literal_any (h:PAt dep p r g m V N w s) (hd:1≤dep) :
    Calls Tryz.prog 182 #[.pointer (some ⟨p,0,none⟩)] w (PStep dep p r g m V N w (.int .i64 (s.literal V).1) (s.literal V).2):=by
  obtain ⟨ev,hE,c0,c1,c9,cf⟩:=h.cells
  have hv:=h.vars
  have HM:=Lib.hid (fun (W:World)=>make_any V true hv.1 (by omega) W)
  have H:=Lib.hid (within_any 0 (2*V+1) 5 h hd)
  rw [show mkl V true=2*V+1 from rfl] at HM
  clear h hE c0 c9 cf
  go_enter Tryz.func182,Tryz.ntmps182
  go_wp2_with (first
    | (go_at_call 71;refine (HM.out _).mono ?_;rintro e w1 ⟨rfl,rfl⟩)
    | (go_at_call 172;refine H.out.mono ?_;rintro e w2 ⟨rfl,hP2,hK2⟩))
  go_ret
  exact ⟨rfl,hP2,hK2⟩
theorem nextLiteral_any (h:PAt dep p r g m V N w s) (hd:1≤dep) :
    Calls Tryz.prog 192 #[.pointer (some ⟨p,0,none⟩)] w (PStep dep p r g m V N w (.int .i64 (s.nextLiteral V).1) (s.nextLiteral V).2):=by
  have H:=Lib.hid (sb_space ▸ expect_any ⟨#[32]⟩ (by decide) h hd)
  clear h
  go_enter Tryz.func192,Tryz.ntmps192
  go_wp2_with (first
    | (go_at_call 120;refine H.out.mono ?_;rintro e w1 ⟨rfl,hP1,hK1⟩;have HP1:=Lib.hid (And.intro hP1 hK1);clear hP1 hK1)
    | (go_at_call 182;refine (literal_any HP1.out.1 hd).mono ?_;rintro e w2 ⟨rfl,hP2,hK2⟩))
  go_ret
  exact ⟨rfl,hP2,HP1.out.2.trans hK2⟩
theorem PAt.grown {w':World} {base e size n:Nat} {v:Value} {xs:List Value} (h:PAt dep p r g m V N w s) (ho:w.ownsRow base e size v n xs) (he:e≠235) (hb:m.B≤base) (hg:w.grownBy w' v.ownBlock):PAt dep p r g m V N w' s:=by
  have ht:=h.top
  refine h.stay hg.size (fun k hk=>hg.block k (by omega) fun e'=>by have:=(ho.lt k e'.symm).1;omega) fun k cs hk=>hg.block k (lt_of_row hk) fun e'=>?_
  rcases ho.2 with ⟨rfl,_⟩ | ⟨q,cap,cur,rfl,_,hq,_⟩
  · cases e'
  · injection e' with e'
    subst e'
    rw [hq] at hk
    injection hk with hk
    injection hk with _ e2 _
    exact he e2
theorem own_step {w':World} {base e size n:Nat} {v:Value} {xs:List Value} (ho:w.ownsRow base e size v n xs) (hk:Kept3 p r g w w') (hb:p<base∧r<base∧g<base):w'.ownsRow base e size v n xs:=by
  refine ⟨ho.1,?_⟩
  rcases ho.2 with h | ⟨q,cap,cur,hv,hq0,hq,h⟩
  · exact .inl h
  · exact .inr ⟨q,cap,cur,hv,hq0,(hk.block q (lt_of_row hq) (by omega) (by omega) (by omega)).trans hq,h⟩
theorem Kept3.grown {w0 w':World} {base e size n:Nat} {v:Value} {xs:List Value} (h:Kept3 p r g w0 w) (ho:w.ownsRow base e size v n xs) (hb:w0.heap.size≤base) (hg:w.grownBy w' v.ownBlock):Kept3 p r g w0 w' :=
  ⟨hg.os.trans h.os,hg.tape.trans h.tape,hg.output.trans h.output,Nat.le_trans h.size hg.size,fun k hk h1 h2 h3=>(hg.block k (by have:=h.size;omega) (fun e'=>by have:=(ho.lt k e'.symm).1;omega)).trans (h.block k hk h1 h2 h3)⟩
def PList (dep p r g:Nat) (m:Ext) (V:Int) (N:NC) (w:World) (l:List Int) (s:Ps) (e:Ending) (w':World):Prop :=
  ∃ v,e=.returned v∧w'.ownsRow w.heap.size 3 1 v l.length (l.map (Value.int .i64))∧PAt dep p r g m V N w' s∧Kept3 p r g w w'
set_option maxHeartbeats 1000000 in
theorem nextLiterals_any (k0:Nat) (hk0:k0≤1000) (h:PAt dep p r g m V N w s) (hd:1≤dep) :
    Calls Tryz.prog 188 #[.pointer (some ⟨p,0,none⟩),.int .i64 k0] w (PList dep p r g m V N w (Ps.nextLiterals V k0 s).1 (Ps.nextLiterals V k0 s).2):=by
  obtain ⟨i0,hi,hz0,hz1,hz2⟩:=info_parts int_info
  have hpr:=h.lt
  have hg:=h.glt
  have htop:=h.top
  have H:=Lib.hid h
  have HO:=Lib.hid (World.ownsRow_nil w w.heap.size 3 1)
  clear h
  go_enter Tryz.func188,Tryz.ntmps188
  go_wp2
  go_loopg [5,7] k0 (fun m' s5 s7 wx=>∃ k:Nat,k+m'=k0∧s7=.int .i64 k∧wx.ownsRow w.heap.size 3 1 s5 k ((Ps.nextLiterals V k s).1.map (Value.int .i64))∧PAt dep p r g m V N wx (Ps.nextLiterals V k s).2∧Kept3 p r g w wx)
  case atStart=>exact ⟨0,by omega,rfl,HO.out,H.out,Kept3.refl _ _ _ _⟩
  case round =>
    obtain ⟨k,hk,rfl,ho,hP,hK⟩:=hrel
    generalize gk=m' at *
    by_cases hlt:k<k0
    · have hltI:(k:Int)<(k0:Int):=by omega
      have HX:=Lib.hid (And.intro ho hK)
      have HN:=Lib.hid (nextLiteral_any hP hd)
      have HE:=Lib.hid (show Ps.nextLiterals V (k+1) s=((Ps.nextLiterals V k s).1++[((Ps.nextLiterals V k s).2.nextLiteral V).1],((Ps.nextLiterals V k s).2.nextLiteral V).2) from rfl)
      generalize ((Ps.nextLiterals V k s).2.nextLiteral V).1=x at *
      generalize ((Ps.nextLiterals V k s).2.nextLiteral V).2=s' at *
      clear ho hP hK
      go_wp2_with (first
        | (go_at_call 192;refine HN.out.mono ?_;rintro e w1 ⟨rfl,hP1,hK1⟩;have hO1:=own_step HX.out.1 hK1 ⟨hpr.1,hpr.2,hg⟩;have HY:=Lib.hid (And.intro hP1 (HX.out.2.trans hK1));clear hP1 hK1)
        | (at_builtin;refine wpList_append_own _ rfl _ _ 22 rfl w.heap.size 3 i0 (.int .i64 0) 1 8 Tryz.underlying22 hi hz0 hz1 hz2 rfl (by decide) _ _ _ rfl (hO1.alloc _) ⟨w1.heap.size,0,none⟩ 1 1 [Value.int .i64 x] rfl rfl (cell_one_new _ _ _) (by simp [Value.oneCell']) (by unfold maxLen;omega) (by omega) (by have:=HY.out.2.size;simp;omega) ?_;intro v' w2 hO2 hgrow _;have HZ:=Lib.hid (And.intro hO2 (And.intro ((HY.out.1.below ((Below.refl _ w1).alloc (Nat.le_refl _) _)).grown (hO1.alloc _) (by decide) htop hgrow) ((HY.out.2.alloc _).grown (hO1.alloc _) (Nat.le_refl _) hgrow)));clear hO2 hgrow hO1))
      go_roundg (m' - 1)
      case measure=>omega
      case rel=>exact ⟨k+1,by omega,by first | rfl | simp,by rw [HE.out,List.map_append];exact HZ.out.1,by rw [HE.out];exact HZ.out.2.1,HZ.out.2.2⟩
    · have hltn:¬ ((k:Int)<(k0:Int)):=by omega
      have hkk:k=k0:=by omega
      have HX:=Lib.hid (And.intro ho (And.intro hP hK))
      clear ho hP hK
      go_wp2
      go_ret
      subst hkk
      exact ⟨_,rfl,by rw [Ps.nextLiterals_len];exact HX.out.1,HX.out.2.1,HX.out.2.2⟩
end
def hits (seen:List Int) (v:Int) (cnt:Nat):Bool:=(List.range cnt).any fun j=>decide (v+(j:Int)∈seen)
theorem hits_yes {seen:List Int} {v:Int} {cnt k:Nat} (hk:k<cnt) (h:v+(k:Int)∈seen):hits seen v cnt=true:=by
  unfold hits;rw [List.any_eq_true];exact ⟨k,by simpa using hk,by simpa using h⟩
theorem hits_no {seen:List Int} {v:Int} {cnt:Nat} (h:∀ k:Nat,k<cnt→¬ v+(k:Int)∈seen):hits seen v cnt=false:=by
  unfold hits;rw [List.any_eq_false];intro k hk;simpa using h k (by simpa using hk)
def spread (v:Int):Nat→List Int
  | 0=>[]
  | k+1=>spread v k++[v+(k:Int)]
def Ps.definition (V:Int) (cnt:Nat) (s:Ps):Int × Ps :=
  if (s.literal V).1 / 2=0∨(s.literal V).1 % 2=1∨V+1<(s.literal V).1 / 2+cnt then (0,(s.literal V).2.refuse 5 s.i)
  else if hits s.seen ((s.literal V).1 / 2) cnt=true then (0,(s.literal V).2.refuse 6 s.i)
  else ((s.literal V).1 / 2,{ (s.literal V).2 with seen:=s.seen++spread ((s.literal V).1 / 2) cnt })
theorem Ps.refuse_seen (s:Ps) (k a:Int):(s.refuse k a).seen=s.seen:=by
  unfold Ps.refuse;cases s.e <;> simp <;> split <;> rfl
theorem Ps.within_seen (s:Ps) (lo hi k:Int):(s.within lo hi k).2.seen=s.seen:=by
  unfold Ps.within
  split
  · rfl
  · split
    · exact Ps.refuse_seen _ _ _
    · split
      · exact Ps.refuse_seen _ _ _
      · rfl
theorem Ps.expect_seen (s:Ps) (b:List Int):(s.expect b).seen=s.seen:=by
  unfold Ps.expect
  split
  · rfl
  · exact Ps.refuse_seen _ _ _
theorem neg_any (l:Int) (w:World):Calls Tryz.prog 217 #[.int .i64 l] w fun e w'=>e=.returned (.bool (odd l))∧w=w':=by
  go_enter Tryz.func217,Tryz.ntmps217
  go_wp2
  go_ret
  refine ⟨?_,rfl⟩
  unfold odd
  simp [i64_and1]
set_option maxHeartbeats 1000000 in
theorem index_bool (g N:Nat) (seen:List Int) (w:World) (hM:Marked w g N seen) (v cnt c:Nat) (hvc:v+cnt≤N) (hN:N≤1000000) :
    Calls Tryz.prog 248 #[.slice (some ⟨g,v,none⟩) cnt c,.bool true] w fun e w'=>(∃ r:Int,e=.returned (.int .i64 r)∧(hits seen v cnt=true∧0≤r∨hits seen v cnt=false∧r=-1))∧w=w':=by
  have HM:=Lib.hid hM
  clear hM
  go_enter Tryz.func248,Tryz.ntmps248
  go_wp2
  go_loopg [8] cnt (fun m s8 wx=>∃ k:Nat,k+m=cnt∧s8=.int .i64 k∧Aside (∀ j:Nat,j<k→¬ (v:Int)+(j:Int)∈seen)∧w=wx)
  case atStart=>exact ⟨0,by omega,rfl,fun j hj=>by omega,rfl⟩
  case round =>
    obtain ⟨k,hk,rfl,HI,rfl⟩:=hrel
    generalize gk=m at *
    have hk0:(0:Int)≤(k:Int):=by omega
    by_cases hlt:k<cnt
    · have hltI:(k:Int)<(cnt:Int):=by omega
      have hc:=HM.out.cell (i:=v+k) (by omega)
      by_cases hx:(v:Int)+(k:Int)∈seen
      · rw [show decide (((v+k:Nat):Int)∈seen)=true by simpa using hx] at hc
        have HH:=Lib.hid (hits_yes hlt hx)
        clear HI hx
        go_wp2
        go_ret
        exact ⟨⟨_,rfl,.inl ⟨HH.out,by omega⟩⟩,rfl⟩
      · rw [show decide (((v+k:Nat):Int)∈seen)=false by simpa using hx] at hc
        have HI2:=Lib.hid (show ∀ j:Nat,j<k+1→¬ (v:Int)+(j:Int)∈seen from fun j hj=>by
          by_cases e:j=k
          · subst e;exact hx
          · exact HI.out j (by omega))
        clear HI hx
        go_wp2
        go_roundg (m - 1)
        case measure=>omega
        case rel=>exact ⟨k+1,by omega,by first | rfl | simp,HI2.out,rfl⟩
    · have hltn:¬ ((k:Int)<(cnt:Int)):=by omega
      have HH:=Lib.hid (hits_no (seen:=seen) (v:=v) (cnt:=cnt) fun j hj=>HI.out j (by omega))
      clear HI
      go_wp2
      go_ret
      exact ⟨⟨_,rfl,.inr ⟨HH.out,rfl⟩⟩,rfl⟩
theorem contains_bool (g N:Nat) (seen:List Int) (w:World) (hM:Marked w g N seen) (v cnt c:Nat) (hvc:v+cnt≤N) (hN:N≤1000000) :
    Calls Tryz.prog 218 #[.slice (some ⟨g,v,none⟩) cnt c,.bool true] w fun e w'=>e=.returned (.bool (hits seen v cnt))∧w=w':=by
  have H:=Lib.hid (index_bool g N seen w hM v cnt c hvc hN)
  clear hM
  cases hh:hits seen v cnt with
  | true =>
    rw [hh] at H
    go_enter Tryz.func218,Tryz.ntmps218
    go_wp2_with (go_at_call 248;refine H.out.mono ?_;rintro e w' ⟨⟨r,rfl,h⟩,rfl⟩;have hr:(0:Int)≤r:=by (rcases h with h | h;exact h.2;exact absurd h.1 (by simp)))
    go_ret
    exact ⟨by simp,rfl⟩
  | false =>
    rw [hh] at H
    go_enter Tryz.func218,Tryz.ntmps218
    go_wp2_with (go_at_call 248;refine H.out.mono ?_;rintro e w' ⟨⟨r,rfl,h⟩,rfl⟩;obtain rfl:r=-1:=by (rcases h with h | h;exact absurd h.1 (by simp);exact h.2))
    go_ret
    exact ⟨rfl,rfl⟩
def marksE (q p g:Nat) (V:Int):Ext:=⟨g+1,fun W l=>W.heap[q]?=some (.cells #[.pointer (some ⟨p,0,none⟩),.slice (some ⟨g,0,none⟩) (V.toNat+1) (V.toNat+1)] 66 (0,0))∧Marked W g (V.toNat+1) l⟩
theorem marksE_ok {q p r g:Nat} {V:Int} (h:1<r∧r<p∧p<g∧q<g∧q≠p∧q≠r):(marksE q p g V).Ok p r g:=by
  refine ⟨fun W W' l hx hk=>⟨hk q _ _ _ (by show q<g+1;omega) h.2.2.2.2.1 h.2.2.2.2.2 hx.1,?_⟩,fun W l hx=>?_,by have:(marksE q p g V).B=g+1:=rfl;omega⟩
  · obtain ⟨C,h1,h2⟩:=hx.2
    exact ⟨C,hk g _ _ _ (by show g<g+1;omega) (by omega) (by omega) h1,h2⟩
  · obtain ⟨cs,h1⟩:=marked_row hx.2
    exact ⟨cs,_,by decide,h1⟩
section
variable {dep q p r g:Nat} {V:Int} {N:NC} {w:World} {s:Ps}
theorem PAt.marks (h:PAt dep p r g (marksE q p g V) V N w s):Marked w g (V.toNat+1) s.seen:=h.ext.2
theorem PAt.asc (h:PAt dep p r g (marksE q p g V) V N w s):w.cell? ⟨q,0,none⟩=some (.pointer (some ⟨p,0,none⟩))∧w.cell? ⟨q,1,none⟩=some (.slice (some ⟨g,0,none⟩) (V.toNat+1) (V.toNat+1)):=by
  have h1:w.heap[q]?=_:=h.ext.1
  exact ⟨by rw [cell_of_row _ _ _ _ _ _ h1];rfl,by rw [cell_of_row _ _ _ _ _ _ h1];rfl⟩
theorem PAt.mark (h:PAt dep p r g (marksE q p g V) V N w s) {x:Int} (h0:0≤x) (h1:x≤V):PAt dep p r g (marksE q p g V) V N (w.setCell ⟨g,x.toNat,none⟩ (.bool true)) { s with seen:=s.seen++[x] }:=by
  have hM:=h.marks.set (x:=x.toNat) (by omega)
  rw [show ((x.toNat:Nat):Int)=x by omega] at hM
  have hqr:w.heap[q]?=_:=h.ext.1
  obtain ⟨cs,hr⟩:=marked_row h.marks
  have hq:q≠g:=apart_rows hqr hr (by decide)
  obtain ⟨⟨ev,h1,h2⟩,h3,h4,h5,h6,h7,h8,h9,h10⟩:=h
  have hl:=h8.lt
  have hpg:p<g:=by
    have h1:p<g+1:=hl.2.2.1
    omega
  have hother:∀ k,k≠g→(w.setCell ⟨g,x.toNat,none⟩ (.bool true)).heap[k]?=w.heap[k]?:=fun k hk=>heap_setCell_other _ _ _ _ (by simpa using hk)
  exact ⟨⟨ev,(hother p (by omega)).trans h1,h2.keep fun k cs' hk=>hother k (apart_rows hk hr (by decide))⟩,rd_same h3 (by simp) fun k hk=>hother k (by omega),⟨(hother q hq).trans hqr,hM⟩,(World.cell?_of_block (a:=⟨1,0,none⟩) (hother 1 (by omega))).trans h5,h6,h7,h8,by simpa using h9,h10⟩
theorem run_slice_marks (w:World) (g n v b:Nat) (h1:v≤b) (h2:b≤n):(Instr.slice 64 (.slice (some ⟨g,0,none⟩) n n) (some (.int .i64 (v:Int))) (some (.int .i64 (b:Int))) none).run Tryz.prog w=.ok (.slice (some ⟨g,if n=v then 0 else v,none⟩) (b - v) (n - v)) w:=by
  obtain ⟨i,hi,hz,hs,hb⟩:=info_parts bool_info
  have ht':Tryz.prog.underlying 64=some (.slice (Tryz.prog.elem 64)):=by kernel_rfl
  have he:Tryz.prog.elem 64=4:=by kernel_rfl
  rw [run_slice_lh w 64 _ n n ht' .i64 .i64 _ _ (by omega) (by omega) (by omega),he]
  have hsz:(sizeOf 4).run Tryz.prog w=.ok 1 w:=by kernel_rfl
  rw [hsz]
  simp only [Result.andThen,sliced]
  split <;> simp_all [Addr.add_lit]
set_option maxRecDepth 100000 in
set_option maxHeartbeats 4000000 in
theorem definition_any (cnt:Nat) (hc:1≤cnt∧cnt≤1000) (h:PAt dep p r g (marksE q p g V) V N w s) (hd:1≤dep) :
    Calls Tryz.prog 177 #[.pointer (some ⟨q,0,none⟩),.int .i64 cnt] w (PStep dep p r g (marksE q p g V) V N w (.int .i64 (s.definition V cnt).1) (s.definition V cnt).2):=by
  obtain ⟨ev,hE,c0,c1,c9,cf⟩:=h.cells
  obtain ⟨cq0,cq1⟩:=h.asc
  have hv:=h.vars
  have HA:=Lib.hid (Sc.at_any r s.l s.i w h.rd)
  have HL:=Lib.hid (literal_any h hd)
  have HS:=Lib.hid (show (s.literal V).2.seen=s.seen from Ps.within_seen _ _ _ _)
  have hx:0≤(s.literal V).1∧(s.literal V).1≤2*V+1:=by
    rcases Ps.within_in s 0 (2*V+1) 5 with h | h
    · have:(s.literal V).1=0:=h
      omega
    · exact h
  have hdef:s.definition V cnt=if (s.literal V).1 / 2=0∨(s.literal V).1 % 2=1∨V+1<(s.literal V).1 / 2+cnt then (0,(s.literal V).2.refuse 5 s.i)
    else if hits s.seen ((s.literal V).1 / 2) cnt=true then (0,(s.literal V).2.refuse 6 s.i)
    else ((s.literal V).1 / 2,{ (s.literal V).2 with seen:=s.seen++spread ((s.literal V).1 / 2) cnt }):=rfl
  rw [hdef]
  generalize (s.literal V).1=x at *
  generalize (s.literal V).2=s1 at *
  obtain ⟨hx0,hx1⟩:=hx
  have HC:=Lib.hid (fun (W:World) (h:PAt dep p r g (marksE q p g V) V N W s1)=>h.cells)
  clear h hE c1 c9 cq1 cf hdef
  by_cases h1:x / 2=0
  · rw [if_pos (.inl h1)]
    go_enter Tryz.func177,Tryz.ntmps177
    go_wp2_with (first
      | (go_at_call 168;refine HA.out.mono ?_;rintro e w0 ⟨rfl,rfl⟩)
      | (go_at_call 182;refine HL.out.mono ?_;rintro e w1 ⟨rfl,hP1,hK1⟩;have HP:=Lib.hid (And.intro hP1 hK1);obtain ⟨dq0,-⟩:=hP1.asc;clear hP1 hK1)
      | (go_at_call 164;refine (tvar_any _ _).mono ?_;rintro e w0 ⟨rfl,rfl⟩)
      | (go_at_call 149;refine (refuse_any _ _ HP.out.1 hd).mono ?_;rintro e w2 ⟨rfl,hP2,hK2⟩))
    go_ret
    exact ⟨rfl,hP2,HP.out.2.trans hK2⟩
  · by_cases h2:x % 2=1
    · rw [if_pos (.inr (.inl h2))]
      have hodd:odd x=true:=by rw [odd_iff];simp [h2]
      go_enter Tryz.func177,Tryz.ntmps177
      go_wp2_with (first
        | (go_at_call 168;refine HA.out.mono ?_;rintro e w0 ⟨rfl,rfl⟩)
        | (go_at_call 182;refine HL.out.mono ?_;rintro e w1 ⟨rfl,hP1,hK1⟩;have HP:=Lib.hid (And.intro hP1 hK1);obtain ⟨dq0,-⟩:=hP1.asc;clear hP1 hK1)
        | (go_at_call 164;refine (tvar_any _ _).mono ?_;rintro e w0 ⟨rfl,rfl⟩)
        | (go_at_call 217;refine (neg_any _ _).mono ?_;rintro e w0 ⟨rfl,rfl⟩;rw [hodd])
        | (go_at_call 149;refine (refuse_any _ _ HP.out.1 hd).mono ?_;rintro e w2 ⟨rfl,hP2,hK2⟩))
      go_ret
      exact ⟨rfl,hP2,HP.out.2.trans hK2⟩
    · have hodd:odd x=false:=by rw [odd_iff];simp [h2]
      obtain ⟨v,hve⟩:∃ v:Nat,(v:Int)=x / 2:=⟨(x / 2).toNat,by omega⟩
      obtain ⟨n,hne⟩:∃ n:Nat,V.toNat+1=n:=⟨_,rfl⟩
      have hVn:V+1=(n:Int):=by omega
      rw [← hve] at h1 ⊢
      have HV:=Lib.hid hve
      have hv1:(1:Int)≤(v:Int):=by omega
      have hvV:(v:Int)≤V:=by omega
      clear hve
      by_cases h3:V+1<(v:Int)+(cnt:Int)
      · rw [if_pos (.inr (.inr h3))]
        have h3n:((n:Nat):Int)<(v:Int)+(cnt:Int):=by omega
        go_enter Tryz.func177,Tryz.ntmps177
        go_wp2_with (first
          | (go_at_call 168;refine HA.out.mono ?_;rintro e w0 ⟨rfl,rfl⟩)
          | (go_at_call 182;refine HL.out.mono ?_;rintro e w1 ⟨rfl,hP1,hK1⟩;have HP:=Lib.hid (And.intro hP1 hK1);obtain ⟨dq0,d9⟩:=hP1.asc;rw [hne] at d9;clear hP1 hK1)
          | (go_at_call 164;refine (tvar_any _ _).mono ?_;rintro e w0 ⟨rfl,rfl⟩;rw [← HV.out])
          | (go_at_call 217;refine (neg_any _ _).mono ?_;rintro e w0 ⟨rfl,rfl⟩;rw [hodd])
          | (go_at_call 149;refine (refuse_any _ _ HP.out.1 hd).mono ?_;rintro e w2 ⟨rfl,hP2,hK2⟩))
        go_ret
        exact ⟨rfl,hP2,HP.out.2.trans hK2⟩
      · rw [if_neg (by omega)]
        obtain ⟨bh,hbe⟩:∃ bh:Nat,v+cnt=bh:=⟨_,rfl⟩
        have hbI:(v:Int)+(cnt:Int)=(bh:Int):=by omega
        have hbn:(bh:Int)≤(n:Int):=by omega
        have hbc:bh - v=cnt:=by omega
        have hsl:=fun W=>run_slice_marks W g n v bh (by omega) (by omega)
        rw [hbc,if_neg (by omega)] at hsl
        have HCB:=Lib.hid (fun (W:World) (hP:PAt dep p r g (marksE q p g V) V N W s1)=>contains_bool g n s.seen W (HS.out ▸ hne ▸ hP.marks) v cnt (n - v) (by omega) (by omega))
        cases hh:hits s.seen (v:Int) cnt with
        | true =>
          rw [if_pos rfl]
          rw [hh] at HCB
          go_enter Tryz.func177,Tryz.ntmps177
          go_wp2_with (first
            | (go_at_call 168;refine HA.out.mono ?_;rintro e w0 ⟨rfl,rfl⟩)
            | (go_at_call 182;refine HL.out.mono ?_;rintro e w1 ⟨rfl,hP1,hK1⟩;have HP:=Lib.hid (And.intro hP1 hK1);obtain ⟨dq0,d9⟩:=hP1.asc;rw [hne] at d9;clear hP1 hK1)
            | (go_at_call 164;refine (tvar_any _ _).mono ?_;rintro e w0 ⟨rfl,rfl⟩;rw [← HV.out])
            | (go_at_call 217;refine (neg_any _ _).mono ?_;rintro e w0 ⟨rfl,rfl⟩;rw [hodd])
            | (go_at_call 218;refine (HCB.out _ HP.out.1).mono ?_;rintro e w0 ⟨rfl,rfl⟩)
            | (go_at_call 149;refine (refuse_any _ _ HP.out.1 hd).mono ?_;rintro e w2 ⟨rfl,hP2,hK2⟩))
          go_ret
          exact ⟨rfl,hP2,HP.out.2.trans hK2⟩
        | false =>
          rw [if_neg (by simp)]
          rw [hh] at HCB
          go_enter Tryz.func177,Tryz.ntmps177
          go_wp2_with (first
            | (go_at_call 168;refine HA.out.mono ?_;rintro e w0 ⟨rfl,rfl⟩)
            | (go_at_call 182;refine HL.out.mono ?_;rintro e w1 ⟨rfl,hP1,hK1⟩;have HP:=Lib.hid (And.intro hP1 hK1);obtain ⟨dq0,d9⟩:=hP1.asc;rw [hne] at d9;clear hP1 hK1)
            | (go_at_call 164;refine (tvar_any _ _).mono ?_;rintro e w0 ⟨rfl,rfl⟩;rw [← HV.out])
            | (go_at_call 217;refine (neg_any _ _).mono ?_;rintro e w0 ⟨rfl,rfl⟩;rw [hodd])
            | (go_at_call 218;refine (HCB.out _ HP.out.1).mono ?_;rintro e w0 ⟨rfl,rfl⟩))
          clear dq0 d9 cq0 c0
          go_loopg [9] cnt (fun m' s9 wx=>∃ k:Nat,k+m'=cnt∧s9=.int .i64 ((v:Int)+(k:Int))∧PAt dep p r g (marksE q p g V) V N wx { s1 with seen:=s.seen++spread v k }∧Kept3 p r g w wx)
          case atStart=>exact ⟨0,by omega,by simp,by have:=HP.out.1;rw [show ({ s1 with seen:=s.seen++spread (v:Int) 0 }:Ps)=s1 from by rw [← HS.out];simp [spread]];exact this,HP.out.2⟩
          case round =>
            obtain ⟨k,hk,rfl,hP,hK⟩:=hrel
            generalize gk=m' at *
            have hk0:(0:Int)≤(k:Int):=by omega
            by_cases hlt:k<cnt
            · have hltI:(v:Int)+(k:Int)<(bh:Int):=by omega
              have hltn:(v:Int)+(k:Int)<(n:Int):=by omega
              have hge:(0:Int)≤(v:Int)+(k:Int):=by omega
              have hPM:=hP.mark (x:=(v:Int)+(k:Int)) hge (by omega)
              have hKM:=hK.mark ((v:Int)+(k:Int)).toNat (.bool true)
              obtain ⟨dq0,d9⟩:=hP.asc
              rw [hne] at d9
              have hc:=hP.marks.look (v:=(v:Int)+(k:Int)) hge (by omega)
              have hf:=hP.marks.free ((v:Int)+(k:Int)).toNat
              have evk:((v:Int)+(k:Int)).toNat=v+k:=by omega
              rw [evk] at hc hf hPM hKM
              clear evk
              have HM:=Lib.hid (And.intro hPM hKM)
              clear hP hK hPM hKM
              go_wp2
              go_roundg (m' - 1)
              case measure=>omega
              case rel =>
                have h9:=HM.out
                refine ⟨k+1,by omega,by simp;omega,?_,h9.2⟩
                rw [show s.seen++spread (v:Int) (k+1)=s.seen++spread (v:Int) k++[(v:Int)+(k:Int)] from by rw [List.append_assoc];rfl]
                exact h9.1
            · have hkc:k=cnt:=by omega
              have hltI:¬ ((v:Int)+(k:Int)<(bh:Int)):=by omega
              have HM:=Lib.hid (And.intro hP hK)
              clear hP hK
              go_wp2
              go_ret
              subst hkc
              exact ⟨rfl,HM.out.1,HM.out.2⟩
end
def Ps.start (v:Int) (s:Ps):Int × Ps :=
  if s.anyNumber.1=0∨s.anyNumber.1=1 then s.anyNumber
  else if s.anyNumber.1=2*v then (2,s.anyNumber.2)
  else (0,s.anyNumber.2.refuse 14 s.i)
section
variable {dep p r g:Nat} {m:Ext} {V:Int} {N:NC} {w:World} {s:Ps}
theorem PAt.setBox {q j:Nat} {cs:Array Value} {t:TypeId} {v:Value} (h:PAt dep p r g m V N w s) (hq:w.heap[q]?=some (.cells cs t (0,0))) (ht:t≠235) (hp:m.B≤q):PAt dep p r g m V N (w.setCell ⟨q,j,none⟩ v) s :=
  h.stay (by simp) (fun k hk=>heap_setCell_other _ _ _ _ (by show k≠q;omega)) fun k cs' hk=>heap_setCell_other _ _ _ _ (apart_rows hk hq (Ne.symm ht))
theorem Kept3.setBox {w0:World} {q j:Nat} {v:Value} (h:Kept3 p r g w0 w) (hq:w0.heap.size≤q):Kept3 p r g w0 (w.setCell ⟨q,j,none⟩ v) :=
  ⟨h.os,h.tape,h.output,by simpa using h.size,fun k hk h1 h2 h3=>by rw [heap_setCell_other _ _ _ _ (by show k≠q;omega)];exact h.block k hk h1 h2 h3⟩
structure Lc (dep p r g:Nat) (m:Ext) (V:Int) (N:NC) (w0:World) (b:Nat) (t:TypeId) (w:World) (cs:Array Value) (s:Ps):Prop where
  pat:PAt dep p r g m V N w s
  kept:Kept3 p r g w0 w
  row:w.heap[b]?=some (.cells cs t (0,0))
  base:w0.heap.size≤b
  topb:m.B≤b
  tag:t≠235
theorem Lc.old {w0:World} {b:Nat} {t:TypeId} {cs:Array Value} (h:Lc dep p r g m V N w0 b t w cs s):p<b∧r<b∧g≠b:=by
  have h1:=h.pat.ok.lt
  have h2:=h.topb
  omega
theorem Lc.new {cs:Array Value} {t:TypeId} (h:PAt dep p r g m V N w s) (ht:t≠235):Lc dep p r g m V N w w.heap.size t (w.alloc (.cells cs t)) cs s :=
  ⟨h.below ((Below.refl _ w).alloc (Nat.le_refl _) _),(Kept3.refl _ _ _ w).alloc _,heap_alloc_new w _,Nat.le_refl _,h.top,ht⟩
theorem Lc.call {w0 w':World} {b:Nat} {t:TypeId} {cs:Array Value} {s':Ps} (h:Lc dep p r g m V N w0 b t w cs s) (hP:PAt dep p r g m V N w' s') (hK:Kept3 p r g w w'):Lc dep p r g m V N w0 b t w' cs s' :=
  ⟨hP,h.kept.trans hK,(hK.block b (lt_of_row h.row) (by have:=h.old;omega) (by have:=h.old;omega) (by have:=h.old;omega)).trans h.row,h.base,h.topb,h.tag⟩
theorem Lc.set {w0:World} {b:Nat} {t:TypeId} {cs:Array Value} (h:Lc dep p r g m V N w0 b t w cs s) (j:Nat) (v:Value):Lc dep p r g m V N w0 b t (w.setCell ⟨b,j,none⟩ v) (cs.setIfInBounds j v) s :=
  ⟨h.pat.setBox h.row h.tag h.topb,h.kept.setBox h.base,heap_setCell_same _ b j cs t v h.row,h.base,h.topb,h.tag⟩
theorem Lc.cell {w0:World} {b j:Nat} {t:TypeId} {cs:Array Value} {v:Value} (h:Lc dep p r g m V N w0 b t w cs s) (hj:cs[j]?=some v):w.cell? ⟨b,j,none⟩=some v:=by
  rw [cell_of_row w b j cs t (0,0) h.row];exact hj
theorem Lc.free {w0:World} {b:Nat} {t:TypeId} {cs:Array Value} (h:Lc dep p r g m V N w0 b t w cs s) (j:Nat):w.frozen? ⟨b,j,none⟩=false:=frozen_of_row w b j cs t h.row
set_option maxHeartbeats 1000000 in
theorem start_any (v:Int) (hv0:0≤v) (hv1:v≤100000) (h:PAt dep p r g m V N w s) (hd:1≤dep) :
    Calls Tryz.prog 220 #[.pointer (some ⟨p,0,none⟩),.int .i64 v] w (PStep dep p r g m V N w (.int .i64 (s.start v).1) (s.start v).2):=by
  obtain ⟨ev,hE,c0,c1,c9,cf⟩:=h.cells
  have HA:=Lib.hid (Sc.at_any r s.l s.i w h.rd)
  have HN:=Lib.hid (anyNumber_any h hd)
  have HO:=Lib.hid (fun (W:World)=>make_any v false hv0 (by omega) W)
  rw [show mkl v false=2*v from rfl] at HO
  have hs:s.start v=if s.anyNumber.1=0∨s.anyNumber.1=1 then s.anyNumber else if s.anyNumber.1=2*v then (2,s.anyNumber.2) else (0,s.anyNumber.2.refuse 14 s.i):=rfl
  rw [hs]
  generalize s.anyNumber=X at *
  obtain ⟨x,s1⟩:=X
  clear h hE c1 c9 cf hs
  by_cases h0:x=0
  · subst h0
    rw [if_pos (.inl rfl)]
    go_enter Tryz.func220,Tryz.ntmps220
    go_wp2_with (first
      | (go_at_call 168;refine HA.out.mono ?_;rintro e w0 ⟨rfl,rfl⟩)
      | (go_at_call 215;refine HN.out.mono ?_;rintro e w1 ⟨rfl,hP1,hK1⟩))
    go_ret
    exact ⟨rfl,hP1,hK1⟩
  · by_cases h1:x=1
    · subst h1
      rw [if_pos (.inr rfl)]
      go_enter Tryz.func220,Tryz.ntmps220
      go_wp2_with (first
        | (go_at_call 168;refine HA.out.mono ?_;rintro e w0 ⟨rfl,rfl⟩)
        | (go_at_call 215;refine HN.out.mono ?_;rintro e w1 ⟨rfl,hP1,hK1⟩))
      go_ret
      exact ⟨rfl,hP1,hK1⟩
    · rw [if_neg (by show ¬ (x=0∨x=1);omega)]
      by_cases h2:x=2*v
      · rw [if_pos h2]
        subst h2
        go_enter Tryz.func220,Tryz.ntmps220
        go_wp2_with (first
          | (go_at_call 168;refine HA.out.mono ?_;rintro e w0 ⟨rfl,rfl⟩)
          | (go_at_call 71;refine (HO.out _).mono ?_;rintro e w0 ⟨rfl,rfl⟩)
          | (go_at_call 215;refine HN.out.mono ?_;rintro e w1 ⟨rfl,hP1,hK1⟩))
        go_ret
        exact ⟨rfl,hP1,hK1⟩
      · rw [if_neg h2]
        go_enter Tryz.func220,Tryz.ntmps220
        go_wp2_with (first
          | (go_at_call 168;refine HA.out.mono ?_;rintro e w0 ⟨rfl,rfl⟩)
          | (go_at_call 71;refine (HO.out _).mono ?_;rintro e w0 ⟨rfl,rfl⟩)
          | (go_at_call 215;refine HN.out.mono ?_;rintro e w1 ⟨rfl,hP1,hK1⟩;have HP:=Lib.hid (And.intro hP1 hK1);clear hP1 hK1)
          | (go_at_call 149;refine (refuse_any _ _ HP.out.1 hd).mono ?_;rintro e w2 ⟨rfl,hP2,hK2⟩))
        go_ret
        exact ⟨rfl,hP2,HP.out.2.trans hK2⟩
structure Lc2 (dep p r g:Nat) (m:Ext) (V:Int) (N:NC) (w0:World) (b:Nat) (t:TypeId) (b2:Nat) (t2:TypeId) (w:World) (cs cs2:Array Value) (s:Ps):Prop where
  one:Lc dep p r g m V N w0 b t w cs s
  two:w.heap[b2]?=some (.cells cs2 t2 (0,0))
  base2:w0.heap.size≤b2
  apart:b≠b2
  topb2:m.B≤b2
  tag2:t2≠235
theorem Lc2.old2 {w0:World} {b b2:Nat} {t t2:TypeId} {cs cs2:Array Value} (h:Lc2 dep p r g m V N w0 b t b2 t2 w cs cs2 s):p<b2∧r<b2∧g≠b2:=by
  have h1:=h.one.pat.ok.lt
  have h2:=h.topb2
  omega
theorem Lc2.new {cs cs2:Array Value} {t t2:TypeId} (h:PAt dep p r g m V N w s) (ht:t≠235) (ht2:t2≠235):Lc2 dep p r g m V N w w.heap.size t (w.heap.size+1) t2 ((w.alloc (.cells cs t)).alloc (.cells cs2 t2)) cs cs2 s:=by
  have h1:=Lc.new (cs:=cs) h ht
  have hl:=h.top
  refine ⟨⟨h1.pat.below ((Below.refl _ _).alloc (Nat.le_refl _) _),h1.kept.alloc _,(Below.heap_alloc _ _ _ (by simp)).trans h1.row,h1.base,h1.topb,h1.tag⟩,?_,by omega,by omega,by omega,ht2⟩
  have:=heap_alloc_new (w.alloc (.cells cs t)) (.cells cs2 t2)
  rwa [show (w.alloc (.cells cs t)).heap.size=w.heap.size+1 by simp] at this
theorem Lc2.call {w0 w':World} {b b2:Nat} {t t2:TypeId} {cs cs2:Array Value} {s':Ps} (h:Lc2 dep p r g m V N w0 b t b2 t2 w cs cs2 s) (hP:PAt dep p r g m V N w' s') (hK:Kept3 p r g w w'):Lc2 dep p r g m V N w0 b t b2 t2 w' cs cs2 s' :=
  ⟨h.one.call hP hK,(hK.block b2 (lt_of_row h.two) (by have:=h.old2;omega) (by have:=h.old2;omega) (by have:=h.old2;omega)).trans h.two,h.base2,h.apart,h.topb2,h.tag2⟩
theorem Lc2.set {w0:World} {b b2:Nat} {t t2:TypeId} {cs cs2:Array Value} (h:Lc2 dep p r g m V N w0 b t b2 t2 w cs cs2 s) (j:Nat) (v:Value):Lc2 dep p r g m V N w0 b t b2 t2 (w.setCell ⟨b,j,none⟩ v) (cs.setIfInBounds j v) cs2 s :=
  ⟨h.one.set j v,(heap_setCell_other _ _ _ _ (by show b2≠b;exact Ne.symm h.apart)).trans h.two,h.base2,h.apart,h.topb2,h.tag2⟩
theorem Lc2.set2 {w0:World} {b b2:Nat} {t t2:TypeId} {cs cs2:Array Value} (h:Lc2 dep p r g m V N w0 b t b2 t2 w cs cs2 s) (j:Nat) (v:Value):Lc2 dep p r g m V N w0 b t b2 t2 (w.setCell ⟨b2,j,none⟩ v) cs (cs2.setIfInBounds j v) s :=
  ⟨⟨h.one.pat.setBox h.two h.tag2 h.topb2,h.one.kept.setBox h.base2,(heap_setCell_other _ _ _ _ (by show b≠b2;exact h.apart)).trans h.one.row,h.one.base,h.one.topb,h.one.tag⟩,heap_setCell_same _ b2 j cs2 t2 v h.two,h.base2,h.apart,h.topb2,h.tag2⟩
theorem Lc2.cell2 {w0:World} {b b2 j:Nat} {t t2:TypeId} {cs cs2:Array Value} {v:Value} (h:Lc2 dep p r g m V N w0 b t b2 t2 w cs cs2 s) (hj:cs2[j]?=some v):w.cell? ⟨b2,j,none⟩=some v:=by
  rw [cell_of_row w b2 j cs2 t2 (0,0) h.two];exact hj
theorem Lc2.free2 {w0:World} {b b2:Nat} {t t2:TypeId} {cs cs2:Array Value} (h:Lc2 dep p r g m V N w0 b t b2 t2 w cs cs2 s) (j:Nat):w.frozen? ⟨b2,j,none⟩=false:=frozen_of_row w b2 j cs2 t2 h.two
def Ps.latchV (V v:Int) (s:Ps):PLatch × Ps :=
  let n:=s.literal V
  let t:=(n.2.expect [32]).start v
  (⟨v,n.1,t.1⟩,t.2)
set_option maxHeartbeats 1000000 in
theorem latchV_any (v:Int) (hv0:0≤v) (hv1:v≤100000) (h:PAt dep p r g m V N w s) (hd:1≤dep) :
    Calls Tryz.prog 181 #[.pointer (some ⟨p,0,none⟩),.int .i64 v] w (PStep dep p r g m V N w (.agg #[.int .i64 (s.latchV V v).1.lv,.int .i64 (s.latchV V v).1.ln,.int .i64 (s.latchV V v).1.li]) (s.latchV V v).2):=by
  have HB:=Lib.hid (Lc.new (cs:=#[.int .i64 0,.int .i64 0,.int .i64 0]) (t:=48) h (by decide))
  have HS:=Lib.hid (fun (W:World) (s':Ps) (h:PAt dep p r g m V N W s')=>start_any v hv0 hv1 h hd)
  have HL:=Lib.hid (fun (W:World) (h:PAt dep p r g m V N W s)=>literal_any h hd)
  have hl:s.latchV V v=(⟨v,(s.literal V).1,(((s.literal V).2.expect [32]).start v).1⟩,(((s.literal V).2.expect [32]).start v).2):=rfl
  rw [hl]
  clear h hl
  generalize s.literal V=A at *
  obtain ⟨a1,s2⟩:=A
  have HE:=Lib.hid (fun (W:World) (h:PAt dep p r g m V N W s2)=>sb_space ▸ expect_any ⟨#[32]⟩ (by decide) h hd)
  generalize s2.expect [32]=s3 at *
  have HS3:=Lib.hid (fun (W:World) (h:PAt dep p r g m V N W s3)=>HS.out W s3 h)
  clear HS
  generalize s3.start v=T at *
  obtain ⟨t1,s4⟩:=T
  go_enter Tryz.func181,Tryz.ntmps181
  go_wp2_with (first
    | (go_at_call 182;refine (HL.out _ HB.out.pat).mono ?_;rintro e w2 ⟨rfl,hP2,hK2⟩;have HB2:=Lib.hid (HB.out.call hP2 hK2);clear hP2 hK2)
    | (go_at_call 120;refine (HE.out _ HB2.out.pat).mono ?_;rintro e w3 ⟨rfl,hP3,hK3⟩;have HB3:=Lib.hid (HB2.out.call hP3 hK3);clear hP3 hK3 HB2)
    | (go_at_call 220;refine (HS3.out _ HB3.out.pat).mono ?_;rintro e w4 ⟨rfl,hP4,hK4⟩;have HB4:=HB3.out.call hP4 hK4;have k0:=HB4.cell (j:=0) rfl;have k1:=HB4.cell (j:=1) rfl;have k2:=HB4.cell (j:=2) rfl;have f0:=HB4.free 0;have f1:=HB4.free 1;have f2:=HB4.free 2;have HC:=Lib.hid (((HB4.set 0 (.int .i64 v)).set 1 (.int .i64 a1)).set 2 (.int .i64 t1));clear HB4 hP4 hK4))
  try simp only [Exit.inBlock,Exit.then]
  refine bodyPost_ret (results_cell_row rfl _ _ w.heap.size 48 _ (0,0) _ rfl HC.out.row Tryz.underlying48 rfl (by kernel_rfl)) rfl ?_
  exact ⟨rfl,HC.out.pat,HC.out.kept⟩
end
def eachF {α κ:Type} (wf:Ps→α × Ps) (nx:Ps × κ→α→Ps × κ):Nat→Ps × κ→Ps × κ
  | 0,s=>s
  | k+1,s =>
    if s.1.e.isSome then s
    else if (wf s.1).2.e.isSome then ((wf s.1).2,s.2)
    else eachF wf nx k (nx ((wf s.1).2,s.2) (wf s.1).1)
theorem eachF_bad {α κ:Type} {wf:Ps→α × Ps} {nx:Ps × κ→α→Ps × κ} {s:Ps × κ} (h:s.1.e.isSome=true) (k:Nat):eachF wf nx k s=s:=by
  cases k with
  | zero=>rfl
  | succ k=>unfold eachF;rw [if_pos h]
theorem eachF_stop {α κ:Type} {wf:Ps→α × Ps} {nx:Ps × κ→α→Ps × κ} {s:Ps × κ} (h:s.1.e=none) {x:α} {s2:Ps} (h1:wf s.1=(x,s2)) (h3:s2.e.isSome=true) (k:Nat):eachF wf nx (k+1) s=(s2,s.2):=by
  unfold eachF
  rw [if_neg (by simp [h]),h1,if_pos h3]
theorem eachF_next {α κ:Type} {wf:Ps→α × Ps} {nx:Ps × κ→α→Ps × κ} {s:Ps × κ} (h:s.1.e=none) {x:α} {s2:Ps} (h1:wf s.1=(x,s2)) (h3:s2.e=none) (k:Nat):eachF wf nx (k+1) s=eachF wf nx k (nx (s2,s.2) x):=by
  conv=>lhs;unfold eachF
  rw [if_neg (by simp [h]),h1,if_neg (by simp [h3])]
def Ps.ln {α:Type} (wf:Ps→α × Ps) (s:Ps):α × Ps:=((wf s).1,(wf s).2.expect [10])
def linesF {α κ:Type} (wf:Ps→α × Ps) (nx:Ps × κ→α→Ps × κ):Nat→Ps × κ→Ps × κ
  | 0,s=>s
  | k+1,s =>
    if s.1.e.isSome then s
    else if ((wf s.1).2.expect [10]).e.isSome then ((wf s.1).2.expect [10],s.2)
    else linesF wf nx k (nx ((wf s.1).2.expect [10],s.2) (wf s.1).1)
theorem linesF_each {α κ:Type} {wf:Ps→α × Ps} {nx:Ps × κ→α→Ps × κ}:∀ (k:Nat) (s:Ps × κ),eachF (Ps.ln wf) nx k s=linesF wf nx k s
  | 0,s=>rfl
  | k+1,s=>by
    unfold eachF linesF
    rw [show (Ps.ln wf s.1).2=(wf s.1).2.expect [10] from rfl,show (Ps.ln wf s.1).1=(wf s.1).1 from rfl,linesF_each k]
theorem linesF_bad {α κ:Type} {wf:Ps→α × Ps} {nx:Ps × κ→α→Ps × κ} {s:Ps × κ} (h:s.1.e.isSome=true) (k:Nat):linesF wf nx k s=s:=by
  cases k with
  | zero=>rfl
  | succ k=>unfold linesF;rw [if_pos h]
section
variable {p r g:Nat} {m:Ext} {V:Int} {w:World} {s:Ps}
structure Caught (cb pb wb p cnt:Nat) (tf:TypeId) (fv:Value) (W:World):Prop where
  c:W.heap[cb]?=some (.cells #[.int .i64 cnt] 3 (0,0))
  p:W.heap[pb]?=some (.cells #[.pointer (some ⟨p,0,none⟩)] 62 (0,0))
  w:W.heap[wb]?=some (.cells #[fv] tf (0,0))
theorem Caught.cells {cb pb wb p cnt:Nat} {tf:TypeId} {fv:Value} {W:World} (h:Caught cb pb wb p cnt tf fv W):W.cell? ⟨cb,0,none⟩=some (.int .i64 cnt)∧W.cell? ⟨pb,0,none⟩=some (.pointer (some ⟨p,0,none⟩))∧W.cell? ⟨wb,0,none⟩=some fv:=by
  refine ⟨?_,?_,?_⟩
  · rw [cell_of_row _ _ _ _ _ _ h.c];rfl
  · rw [cell_of_row _ _ _ _ _ _ h.p];rfl
  · rw [cell_of_row _ _ _ _ _ _ h.w];rfl
theorem Caught.kept {cb pb wb cnt:Nat} {tf:TypeId} {fv:Value} {W W':World} (h:Caught cb pb wb p cnt tf fv W) (hk:Kept3 p r g W W') (ha:(cb≠p∧cb≠r∧cb≠g)∧(pb≠p∧pb≠r∧pb≠g)∧(wb≠p∧wb≠r∧wb≠g)):Caught cb pb wb p cnt tf fv W' :=
  ⟨(hk.block _ (lt_of_row h.c) ha.1.1 ha.1.2.1 ha.1.2.2).trans h.c,(hk.block _ (lt_of_row h.p) ha.2.1.1 ha.2.1.2.1 ha.2.1.2.2).trans h.p,(hk.block _ (lt_of_row h.w) ha.2.2.1 ha.2.2.2.1 ha.2.2.2.2).trans h.w⟩
structure CaughtL (lb qb p:Nat) (tf:TypeId) (fv:Value) (W:World):Prop where
  w:W.heap[lb]?=some (.cells #[fv] tf (0,0))
  p:W.heap[qb]?=some (.cells #[.pointer (some ⟨p,0,none⟩)] 62 (0,0))
theorem CaughtL.cells {lb qb p:Nat} {tf:TypeId} {fv:Value} {W:World} (h:CaughtL lb qb p tf fv W):W.cell? ⟨lb,0,none⟩=some fv∧W.cell? ⟨qb,0,none⟩=some (.pointer (some ⟨p,0,none⟩)):=by
  refine ⟨?_,?_⟩
  · rw [cell_of_row _ _ _ _ _ _ h.w];rfl
  · rw [cell_of_row _ _ _ _ _ _ h.p];rfl
theorem CaughtL.kept {lb qb:Nat} {tf:TypeId} {fv:Value} {W W':World} (h:CaughtL lb qb p tf fv W) (hk:Kept3 p r g W W') (ha:(lb≠p∧lb≠r∧lb≠g)∧(qb≠p∧qb≠r∧qb≠g)):CaughtL lb qb p tf fv W' :=
  ⟨(hk.block _ (lt_of_row h.w) ha.1.1 ha.1.2.1 ha.1.2.2).trans h.w,(hk.block _ (lt_of_row h.p) ha.2.1 ha.2.2.1 ha.2.2.2).trans h.p⟩
theorem inmost_ne {L:List (Nat × Int × Int)} (h:L≠[]) (d d':Int × Int):Fa.inmost d L=Fa.inmost d' L:=by
  cases L with
  | nil=>exact absurd rfl h
  | cons x L=>rfl
theorem wrap_any {ev:Value} (at0:Int) (hl:Fa.Laid w) (hE:Err 1 w ev s.e) :
    Calls Tryz.prog 169 #[ev,.int .i64 at0] w fun e w'=>(∃ ev',e=.returned ev'∧Err 2 w' ev' s.e)∧Below w.heap.size w w':=by
  cases he:s.e with
  | none =>
    rw [he] at hE
    cases hE
    refine (Fa.Wrap_nil at0 w hl).mono ?_
    rintro e w' ⟨rfl,hb⟩
    exact ⟨⟨_,rfl,rfl⟩,hb⟩
  | some x =>
    rw [he] at hE
    obtain ⟨L,k,hc,h1,h2,h3⟩:=hE
    refine (Fa.Wrap_any L k at0 ev w (by omega) hl hc).mono ?_
    rintro e w' ⟨b,rfl,hb,hc2⟩
    refine ⟨⟨_,rfl,_,k,hc2,by simp,by simp;omega,?_⟩,hb⟩
    rw [← h3]
    show Fa.inmost _ L=_
    exact inmost_ne h1 _ _
def LKnow {κ:Type} (p r g:Nat) (m:Ext) (V:Int) (cb pb wb cnt:Nat) (tf:TypeId) (fv:Value) (X:World→Prop) (s:Ps × κ) (A:World):Prop :=
  (∃ N,PAt 2 p r g m V N A s.1)∧Caught cb pb wb p cnt tf fv A∧X A
def LSt {κ:Type} (p r g:Nat) (m:Ext) (V:Int) (s s':Ps × κ) (A B:World):Prop:=s'.2=s.2∧(∀ N,PAt 2 p r g m V N A s.1→PAt 2 p r g m V N B s'.1)∧Kept3 p r g A B
theorem PAt.uniq {dep dep':Nat} {N N':NC} {s':Ps} (h:PAt dep p r g m V N w s) (h':PAt dep' p r g m V N' w s'):N=N':=by
  obtain ⟨ev,h1,_⟩:=h.row
  obtain ⟨ev',h2,_⟩:=h'.row
  rw [h1] at h2
  injection h2 with h2
  injection h2 with h2 _ _
  unfold prow at h2
  cases N
  cases N'
  simp at h2
  simp [h2]
theorem PAt.up {N:NC} (h:PAt 1 p r g m V N w s):PAt 2 p r g m V N w s:=h.mono (by omega)
theorem PAt.fresh {N:NC} (h:PAt 2 p r g m V N w s) (he:s.e=none):PAt 1 p r g m V N w s:=by
  obtain ⟨⟨ev,h1,h2⟩,h3,h4,h5,h6,h7,h8,h9,h10⟩:=h
  rw [he] at h2
  exact ⟨⟨ev,h1,by rw [he];exact h2⟩,h3,h4,h5,h6,h7,h8,h9,h10⟩
end
structure PShape where
  sa:Int
  sw:Int
  sn:Bool
  sr:Int
  sx:Int
def Ps.memory (s:Ps):PShape × Ps :=
  let a:=(s.expect [109]).nextWithin 1 62 9
  let b:=a.2.nextWithin 1 64 9
  let c:=b.2.nextWithin 0 1 4
  let d:=c.2.nextWithin 0 4 10
  let f:=d.2.nextWithin 0 4 10
  (⟨a.1,b.1,c.1 == 1,d.1,f.1⟩,f.2)
theorem zread_info:(Tryz.prog.info? 97).map (fun i=>(i.zero,i.size,i.bytes))=some (some (.agg #[.int .i64 0,.slice none 0 0]),2,32):=by kernel_rfl
theorem zwrite_info:(Tryz.prog.info? 99).map (fun i=>(i.zero,i.size,i.bytes))=some (some (.agg #[.int .i64 0,.slice none 0 0,.slice none 0 0]),3,56):=by kernel_rfl
theorem run_reads:∃ C:Int→Array Value,∀ (k:Int) (w:World),0≤k→k≤4→(Instr.makeSlice 51 (.int .i64 k) (.int .i64 k)).run Tryz.prog w=.ok (.slice (some ⟨w.heap.size,0,none⟩) k.toNat k.toNat) (w.alloc (.cells (C k) 97)):=by
  obtain ⟨i,hi,hz,hs,hb⟩:=info_parts zread_info
  refine ⟨fun k=>madeCells (Value.agg #[.int .i64 0,.slice none 0 0]).cells (k.toNat*i.size),fun k w h0 h1=>?_⟩
  have:=run_make (P:=Tryz.prog) w 51 97 i (.agg #[.int .i64 0,.slice none 0 0]) Tryz.underlying51 hi hz .i64 .i64 k k h0 (Int.le_refl _) (by rw [hb];omega) (by omega)
  exact this
theorem run_writes:∃ C:Int→Array Value,∀ (k:Int) (w:World),0≤k→k≤4→(Instr.makeSlice 52 (.int .i64 k) (.int .i64 k)).run Tryz.prog w=.ok (.slice (some ⟨w.heap.size,0,none⟩) k.toNat k.toNat) (w.alloc (.cells (C k) 99)):=by
  obtain ⟨i,hi,hz,hs,hb⟩:=info_parts zwrite_info
  refine ⟨fun k=>madeCells (Value.agg #[.int .i64 0,.slice none 0 0,.slice none 0 0]).cells (k.toNat*i.size),fun k w h0 h1=>?_⟩
  have:=run_make (P:=Tryz.prog) w 52 99 i (.agg #[.int .i64 0,.slice none 0 0,.slice none 0 0]) Tryz.underlying52 hi hz .i64 .i64 k k h0 (Int.le_refl _) (by rw [hb];omega) (by omega)
  exact this
section
variable {dep p r g:Nat} {m:Ext} {V:Int} {N:NC} {w:World} {s:Ps}
theorem Lc2.alloc {w0:World} {b b2:Nat} {t t2:TypeId} {cs cs2:Array Value} (h:Lc2 dep p r g m V N w0 b t b2 t2 w cs cs2 s) (o:Obj):Lc2 dep p r g m V N w0 b t b2 t2 (w.alloc o) cs cs2 s :=
  h.call (h.one.pat.below ((Below.refl _ w).alloc (Nat.le_refl _) o)) ((Kept3.refl _ _ _ w).alloc o)
def MemLeft (dep p r g:Nat) (m:Ext) (V:Int) (N:NC) (w:World) (x:PShape) (s:Ps) (e:Ending) (w':World):Prop :=
  ∃ A A2,e=.returned (.agg #[.int .i64 x.sa,.int .i64 x.sw,.bool x.sn,.slice A x.sr.toNat x.sr.toNat,.slice A2 x.sx.toNat x.sx.toNat])∧PAt dep p r g m V N w' s∧Kept3 p r g w w'
set_option maxRecDepth 100000 in
set_option maxHeartbeats 4000000 in
theorem memory_any (h:PAt dep p r g m V N w s) (hd:1≤dep) :
    Calls Tryz.prog 129 #[.pointer (some ⟨p,0,none⟩)] w (MemLeft dep p r g m V N w s.memory.1 s.memory.2):=by
  have HB:=Lib.hid (Lc2.new (cs:=#[.int .i64 0,.int .i64 0,.bool false,.slice none 0 0,.slice none 0 0]) (cs2:=#[.int .i64 0,.int .i64 0,.bool false,.slice none 0 0,.slice none 0 0]) (t:=54) (t2:=54) h (by decide) (by decide))
  have hl:s.memory=(⟨((s.expect [109]).nextWithin 1 62 9).1,(((s.expect [109]).nextWithin 1 62 9).2.nextWithin 1 64 9).1,((((s.expect [109]).nextWithin 1 62 9).2.nextWithin 1 64 9).2.nextWithin 0 1 4).1 == 1,(((((s.expect [109]).nextWithin 1 62 9).2.nextWithin 1 64 9).2.nextWithin 0 1 4).2.nextWithin 0 4 10).1,((((((s.expect [109]).nextWithin 1 62 9).2.nextWithin 1 64 9).2.nextWithin 0 1 4).2.nextWithin 0 4 10).2.nextWithin 0 4 10).1⟩,((((((s.expect [109]).nextWithin 1 62 9).2.nextWithin 1 64 9).2.nextWithin 0 1 4).2.nextWithin 0 4 10).2.nextWithin 0 4 10).2):=rfl
  rw [hl]
  have HE:=Lib.hid (fun (W:World) (h:PAt dep p r g m V N W s)=>sb_m ▸ expect_any ⟨#[109]⟩ (by decide) h hd)
  clear h hl
  generalize s.expect [109]=s1 at *
  have HA:=Lib.hid (fun (W:World) (h:PAt dep p r g m V N W s1)=>nextWithin_any 1 62 9 h hd)
  generalize s1.nextWithin 1 62 9=A at *
  obtain ⟨a1,s2⟩:=A
  have HA2:=Lib.hid (fun (W:World) (h:PAt dep p r g m V N W s2)=>nextWithin_any 1 64 9 h hd)
  generalize s2.nextWithin 1 64 9=A at *
  obtain ⟨a2,s3⟩:=A
  have HA3:=Lib.hid (fun (W:World) (h:PAt dep p r g m V N W s3)=>nextWithin_any 0 1 4 h hd)
  generalize s3.nextWithin 0 1 4=A at *
  obtain ⟨a3,s4⟩:=A
  have hr4:(s4.nextWithin 0 4 10).1=0∨_:=Ps.within_in (s4.expect [32]) 0 4 10
  have HA4:=Lib.hid (fun (W:World) (h:PAt dep p r g m V N W s4)=>nextWithin_any 0 4 10 h hd)
  generalize hx4:s4.nextWithin 0 4 10=A at *
  obtain ⟨a4,s5⟩:=A
  have hr4:0≤a4∧a4≤4:=by
    rw [show (s4.expect [32]).within 0 4 10=(a4,s5) from hx4] at hr4
    dsimp only at hr4
    omega
  clear hx4
  have hr5:(s5.nextWithin 0 4 10).1=0∨_:=Ps.within_in (s5.expect [32]) 0 4 10
  have HA5:=Lib.hid (fun (W:World) (h:PAt dep p r g m V N W s5)=>nextWithin_any 0 4 10 h hd)
  generalize hx5:s5.nextWithin 0 4 10=A at *
  obtain ⟨a5,s6⟩:=A
  have hr5:0≤a5∧a5≤4:=by
    rw [show (s5.expect [32]).within 0 4 10=(a5,s6) from hx5] at hr5
    dsimp only at hr5
    omega
  clear hx5
  obtain ⟨C4,hC4⟩:=run_reads
  obtain ⟨C5,hC5⟩:=run_writes
  have hm4:=fun W=>hC4 a4 W hr4.1 hr4.2
  have hm5:=fun W=>hC5 a5 W hr5.1 hr5.2
  clear hC4 hC5 hr4 hr5
  go_enter Tryz.func129,Tryz.ntmps129
  go_wp2_with (first
    | (go_at_call 120;refine (HE.out _ HB.out.one.pat).mono ?_;rintro e w1 ⟨rfl,hP,hK⟩;have HB1:=Lib.hid (HB.out.call hP hK);clear hP hK)
    | (go_at_call 173;refine (HA.out _ HB1.out.one.pat).mono ?_;clear HA;rintro e w2 ⟨rfl,hP,hK⟩;have hB:=HB1.out.call hP hK;have c0:=hB.cell2 (j:=0) rfl;have f0:=hB.free2 0;have HB2:=Lib.hid (hB.set2 0 (.int .i64 a1));clear hP hK hB HB1)
    | (go_at_call 173;refine (HA2.out _ HB2.out.one.pat).mono ?_;clear HA2;rintro e w3 ⟨rfl,hP,hK⟩;have hB:=HB2.out.call hP hK;have c1:=hB.cell2 (j:=1) rfl;have f1:=hB.free2 1;have HB3:=Lib.hid (hB.set2 1 (.int .i64 a2));clear hP hK hB HB2)
    | (go_at_call 173;refine (HA3.out _ HB3.out.one.pat).mono ?_;clear HA3;rintro e w4 ⟨rfl,hP,hK⟩;have hB:=HB3.out.call hP hK;have c2:=hB.cell2 (j:=2) rfl;have f2:=hB.free2 2;have HB4:=Lib.hid (hB.set2 2 (.bool (decide (a3=1))));clear hP hK hB HB3)
    | (go_at_call 173;refine (HA4.out _ HB4.out.one.pat).mono ?_;clear HA4;rintro e w5 ⟨rfl,hP,hK⟩;have hB:=(HB4.out.call hP hK).alloc (.cells (C4 a4) 97);have c3:=hB.cell2 (j:=3) rfl;have f3:=hB.free2 3;have HB5:=Lib.hid (hB.set2 3 (.slice (some ⟨w5.heap.size,0,none⟩) a4.toNat a4.toNat));clear hP hK hB HB4)
    | (go_at_call 173;refine (HA5.out _ HB5.out.one.pat).mono ?_;clear HA5;rintro e w6 ⟨rfl,hP,hK⟩;have hB:=(HB5.out.call hP hK).alloc (.cells (C5 a5) 99);have c4:=hB.cell2 (j:=4) rfl;have f4:=hB.free2 4;have HB6:=Lib.hid (hB.set2 4 (.slice (some ⟨w6.heap.size,0,none⟩) a5.toNat a5.toNat));have q0:=HB6.out.cell2 (j:=0) (v:=.int .i64 a1) rfl;have q1:=HB6.out.cell2 (j:=1) (v:=.int .i64 a2) rfl;have q2:=HB6.out.cell2 (j:=2) (v:=.bool (decide (a3=1))) rfl;have q3:=HB6.out.cell2 (j:=3) (v:=.slice (some ⟨w5.heap.size,0,none⟩) a4.toNat a4.toNat) rfl;have q4:=HB6.out.cell2 (j:=4) (v:=.slice (some ⟨w6.heap.size,0,none⟩) a5.toNat a5.toNat) rfl;have u0:=HB6.out.one.cell (j:=0) rfl;have v0:=HB6.out.one.free 0;have u1:=HB6.out.one.cell (j:=1) rfl;have v1:=HB6.out.one.free 1;have u2:=HB6.out.one.cell (j:=2) rfl;have v2:=HB6.out.one.free 2;have u3:=HB6.out.one.cell (j:=3) rfl;have v3:=HB6.out.one.free 3;have u4:=HB6.out.one.cell (j:=4) rfl;have v4:=HB6.out.one.free 4;clear c0 f0 c1 f1 c2 f2 c3 f3;clear hP hK hB HB5))
  try simp only [Exit.inBlock,Exit.then]
  have HC:=(((((HB6.out.set 0 (.int .i64 a1)).set 1 (.int .i64 a2)).set 2 (.bool (decide (a3=1)))).set 3 (.slice (some ⟨w5.heap.size,0,none⟩) a4.toNat a4.toNat)).set 4 (.slice (some ⟨w6.heap.size,0,none⟩) a5.toNat a5.toNat))
  refine bodyPost_ret (results_cell_row rfl _ _ w.heap.size 54 _ (0,0) _ rfl HC.one.row Tryz.underlying54 rfl (by kernel_rfl)) rfl ?_
  exact ⟨_,_,rfl,HC.one.pat,HC.one.kept⟩
end
def LP (p r g:Nat) (A:World) (a:Option Addr) (c:Nat) (l:List Int):Prop :=
  SrcP A (fun b=>(∃ cs,A.heap[b]?=some (.cells cs 3 (0,0)))∧b≠p∧b≠r∧b≠g) a l∧l.length≤c∧c≤9223372036854775807
theorem LP.kept {p r g:Nat} {A B:World} {a:Option Addr} {c:Nat} {l:List Int} (h:LP p r g A a c l) (hk:Kept3 p r g A B):LP p r g B a c l:=by
  refine ⟨fun hn=>?_,h.2⟩
  obtain ⟨b,o,e,⟨⟨cs,h0⟩,h1,h2,h3⟩,hc⟩:=h.1 hn
  have hk2:=hk.block b (lt_of_row h0) h1 h2 h3
  exact ⟨b,o,e,⟨⟨cs,hk2.trans h0⟩,h1,h2,h3⟩,fun j x hj=>(World.cell?_of_block (a:=⟨b,o+j,none⟩) hk2).trans (hc j x hj)⟩
theorem LP.grown {p r g base size n:Nat} {e:TypeId} {A B:World} {a:Option Addr} {c:Nat} {l:List Int} {v:Value} {xs:List Value} (h:LP p r g A a c l) (ho:A.ownsRow base e size v n xs) (he:e≠3) (hg:A.grownBy B v.ownBlock):LP p r g B a c l:=by
  refine ⟨fun hn=>?_,h.2⟩
  obtain ⟨b,o,e',⟨⟨cs,h0⟩,h1⟩,hc⟩:=h.1 hn
  have hk2:B.heap[b]?=A.heap[b]?:=hg.block b (lt_of_row h0) fun e2=>by
    rcases ho.2 with ⟨rfl,_⟩ | ⟨q,cap,cur,rfl,_,hq,_⟩
    · cases e2
    · injection e2 with e2
      subst e2
      rw [hq] at h0
      injection h0 with h0
      injection h0 with _ e3 _
      exact he e3
  exact ⟨b,o,e',⟨⟨cs,hk2.trans h0⟩,h1⟩,fun j x hj=>(World.cell?_of_block (a:=⟨b,o+j,none⟩) hk2).trans (hc j x hj)⟩
theorem LP.setBox {p r g q j:Nat} {t:TypeId} {A:World} {a:Option Addr} {c:Nat} {l:List Int} {v:Value} {cs:Array Value} (h:LP p r g A a c l) (hq:A.heap[q]?=some (.cells cs t (0,0))) (ht:t≠3):LP p r g (A.setCell ⟨q,j,none⟩ v) a c l:=by
  refine ⟨fun hn=>?_,h.2⟩
  obtain ⟨b,o,e',⟨⟨cs',h0⟩,h1⟩,hc⟩:=h.1 hn
  have hne:b≠q:=apart_rows h0 hq (Ne.symm ht)
  have hk2:(A.setCell ⟨q,j,none⟩ v).heap[b]?=A.heap[b]?:=heap_setCell_other _ _ _ _ (by show b≠q;exact hne)
  exact ⟨b,o,e',⟨⟨cs',hk2.trans h0⟩,h1⟩,fun j x hj=>(World.cell?_of_block (a:=⟨b,o+j,none⟩) hk2).trans (hc j x hj)⟩
theorem LP.of_own {p r g base:Nat} {A:World} {v:Value} {l:List Int} (h:A.ownsRow base 3 1 v l.length (l.map (Value.int .i64))) (hb:p<base∧r<base∧g<base):∃ a c,v=.slice a l.length c∧LP p r g A a c l:=by
  rcases h.2 with ⟨h1,h0⟩ | ⟨q,cap,cur,hv,hq,hg,hnc,hcm,hs,ht⟩
  · have hx:l=[]:=List.eq_nil_of_length_eq_zero h0
    subst hx
    exact ⟨none,0,h1,fun hn=>absurd rfl hn,Nat.le_refl _,by omega⟩
  · refine ⟨_,cap,hv,fun hn=>?_,hnc,by unfold maxLen at hcm;omega⟩
    have h':=h
    rw [hv] at h'
    obtain ⟨b,o,e,hlt,hc⟩:=Src.of_own h' hn
    injection e with e
    injection e with e1 e2
    subst e1
    subst e2
    exact ⟨q,0,rfl,⟨⟨_,hg⟩,by omega,by omega,by omega⟩,hc⟩
theorem own_set {A:World} {base e size n b j:Nat} {v u:Value} {xs:List Value} (h:A.ownsRow base e size v n xs) (hb:b<base):(A.setCell ⟨b,j,none⟩ u).ownsRow base e size v n xs:=by
  refine ⟨h.1,?_⟩
  rcases h.2 with h | ⟨q,cap,cur,hv,hq0,hq,h⟩
  · exact .inl h
  · exact .inr ⟨q,cap,cur,hv,hq0,(heap_setCell_other _ _ _ _ (by show q≠b;omega)).trans hq,h⟩
def Ps.latch (V:Int) (s:Ps):PLatch × Ps :=
  let d:=s.definition V 1
  (d.2.expect [32]).latchV V d.1
def Ps.nextDef (V:Int) (cnt:Nat) (s:Ps):Int × Ps:=(s.expect [32]).definition V cnt
def Ps.and (V:Int) (s:Ps):PAnd × Ps :=
  let d:=s.definition V 1
  let a:=d.2.nextLiteral V
  let b:=a.2.nextLiteral V
  (⟨d.1,a.1,b.1⟩,b.2)
section
variable {dep q p r g:Nat} {V:Int} {N:NC} {w:World} {s:Ps}
theorem input_any (h:PAt dep p r g (marksE q p g V) V N w s) (hd:1≤dep) :
    Calls Tryz.prog 123 #[.pointer (some ⟨q,0,none⟩)] w (PStep dep p r g (marksE q p g V) V N w (.int .i64 (s.definition V 1).1) (s.definition V 1).2):=by
  have H:=Lib.hid (definition_any 1 (by omega) h hd)
  clear h
  go_enter Tryz.func123,Tryz.ntmps123
  go_wp2_with (first | (go_at_call 177;refine H.out.mono ?_;rintro e w1 ⟨rfl,hP1,hK1⟩))
  go_ret
  exact ⟨rfl,hP1,hK1⟩
theorem Ps.definition_in (V:Int) (cnt:Nat) (s:Ps) (hV:0≤V):0≤(s.definition V cnt).1∧(s.definition V cnt).1≤V:=by
  have hx:0≤(s.literal V).1∧(s.literal V).1≤2*V+1:=by
    rcases Ps.within_in s 0 (2*V+1) 5 with h | h
    · have:(s.literal V).1=0:=h
      omega
    · exact h
  unfold Ps.definition
  split
  · exact ⟨by simp,hV⟩
  · split
    · exact ⟨by simp,hV⟩
    · show 0≤(s.literal V).1 / 2∧(s.literal V).1 / 2≤V
      omega
set_option maxRecDepth 100000 in
set_option maxHeartbeats 4000000 in
theorem and_any (h:PAt dep p r g (marksE q p g V) V N w s) (hd:1≤dep) :
    Calls Tryz.prog 134 #[.pointer (some ⟨q,0,none⟩)] w (PStep dep p r g (marksE q p g V) V N w (.agg #[.int .i64 (s.and V).1.av,.int .i64 (s.and V).1.aa,.int .i64 (s.and V).1.ab]) (s.and V).2):=by
  have HB:=Lib.hid (Lc.new (cs:=#[.int .i64 0,.int .i64 0,.int .i64 0]) (t:=57) h (by decide))
  have HQ:=Lib.hid (fun (W:World) (s:Ps) (h:PAt dep p r g (marksE q p g V) V N W s)=>h.asc.1)
  have HD:=Lib.hid (fun (W:World) (h:PAt dep p r g (marksE q p g V) V N W s)=>definition_any 1 (by omega) h hd)
  have hl:s.and V=(⟨(s.definition V 1).1,((s.definition V 1).2.nextLiteral V).1,(((s.definition V 1).2.nextLiteral V).2.nextLiteral V).1⟩,(((s.definition V 1).2.nextLiteral V).2.nextLiteral V).2):=rfl
  rw [hl]
  clear h hl
  generalize s.definition V 1=D at *
  obtain ⟨d1,s1⟩:=D
  have HL:=Lib.hid (fun (W:World) (h:PAt dep p r g (marksE q p g V) V N W s1)=>nextLiteral_any h hd)
  generalize s1.nextLiteral V=A at *
  obtain ⟨a1,s2⟩:=A
  have HL2:=Lib.hid (fun (W:World) (h:PAt dep p r g (marksE q p g V) V N W s2)=>nextLiteral_any h hd)
  generalize s2.nextLiteral V=A at *
  obtain ⟨b1,s3⟩:=A
  go_enter Tryz.func134,Tryz.ntmps134
  go_wp2_with fail
  have HB1:=Lib.hid (HB.out.call (HB.out.pat.below ((Below.refl _ _).drew)) ((Kept3.refl p r g _).drew))
  have HS1:=Lib.hid (HQ.out _ _ HB1.out.pat)
  clear HB
  go_region_held3 (fun W=>W.cell? ⟨q,0,none⟩=some (.pointer (some ⟨p,0,none⟩)))
    (first | exact HS1.out | exact HS2.out | exact HS3.out | exact HS4.out | exact HS5.out)
    (first
    | (go_at_call 177;refine (HD.out _ HB1.out.pat).mono ?_;rintro e w1 ⟨rfl,hP,hK⟩;have HB2:=Lib.hid (HB1.out.call hP hK);have HS2:=Lib.hid (HQ.out _ _ hP);clear hP hK)
    | (go_at_call 192;refine (HL.out _ HB2.out.pat).mono ?_;clear HL;rintro e w2 ⟨rfl,hP,hK⟩;have HB3:=Lib.hid (HB2.out.call hP hK);have HS3:=Lib.hid (HQ.out _ _ hP);clear hP hK HB2)
    | (go_at_call 192;refine (HL2.out _ HB3.out.pat).mono ?_;rintro e w3 ⟨rfl,hP,hK⟩;have hB:=HB3.out.call hP hK;have k0:=hB.cell (j:=0) rfl;have k1:=hB.cell (j:=1) rfl;have k2:=hB.cell (j:=2) rfl;have f0:=hB.free 0;have f1:=hB.free 1;have f2:=hB.free 2;have HS4:=Lib.hid (HQ.out _ _ hP);have HB4:=Lib.hid (((hB.set 0 (.int .i64 d1)).set 1 (.int .i64 a1)).set 2 (.int .i64 b1));have HS5:=Lib.hid (HQ.out _ _ HB4.out.pat);clear hP hK hB)
    | fail)
  go_wp2_with fail
  refine bodyPost_ret (results_cell_row rfl _ _ w.heap.size 57 _ (0,0) _ rfl HB4.out.row Tryz.underlying57 rfl (by kernel_rfl)) rfl ?_
  exact ⟨rfl,HB4.out.pat,HB4.out.kept⟩
theorem nextDef_any (cnt:Nat) (hc:1≤cnt∧cnt≤1000) (h:PAt dep p r g (marksE q p g V) V N w s) (hd:1≤dep) :
    Calls Tryz.prog 131 #[.pointer (some ⟨q,0,none⟩),.int .i64 cnt] w (PStep dep p r g (marksE q p g V) V N w (.int .i64 (s.nextDef V cnt).1) (s.nextDef V cnt).2):=by
  have H:=Lib.hid (sb_space ▸ expect_any ⟨#[32]⟩ (by decide) h hd)
  obtain ⟨cq0,-⟩:=h.asc
  clear h
  go_enter Tryz.func131,Tryz.ntmps131
  go_wp2_with (first
    | (go_at_call 120;refine H.out.mono ?_;rintro e w1 ⟨rfl,hP1,hK1⟩;have HP1:=Lib.hid (And.intro hP1 hK1);clear hP1 hK1)
    | (go_at_call 177;refine (definition_any cnt hc HP1.out.1 hd).mono ?_;rintro e w2 ⟨rfl,hP2,hK2⟩))
  go_ret
  exact ⟨rfl,hP2,HP1.out.2.trans hK2⟩
set_option maxHeartbeats 1000000 in
theorem latch_any (h:PAt dep p r g (marksE q p g V) V N w s) (hd:1≤dep) :
    Calls Tryz.prog 126 #[.pointer (some ⟨q,0,none⟩)] w (PStep dep p r g (marksE q p g V) V N w (.agg #[.int .i64 (s.latch V).1.lv,.int .i64 (s.latch V).1.ln,.int .i64 (s.latch V).1.li]) (s.latch V).2):=by
  have hv:=h.vars
  have HB:=Lib.hid (Lc.new (cs:=#[.int .i64 0,.int .i64 0,.int .i64 0]) (t:=48) h (by decide))
  have hin:=Ps.definition_in V 1 s hv.1
  have HD:=Lib.hid (definition_any 1 (by omega) HB.out.pat hd)
  have HQ:=Lib.hid (fun (W:World) (s:Ps) (h:PAt dep p r g (marksE q p g V) V N W s)=>h.asc.1)
  have HE:=Lib.hid (fun (W:World) (s:Ps) (h:PAt dep p r g (marksE q p g V) V N W s)=>sb_space ▸ expect_any ⟨#[32]⟩ (by decide) h hd)
  have hl:s.latch V=((s.definition V 1).2.expect [32]).latchV V (s.definition V 1).1:=rfl
  rw [hl]
  clear h hl
  generalize s.definition V 1=D at *
  obtain ⟨d1,s1⟩:=D
  have HL:=Lib.hid (fun (W:World) (s:Ps) (h:PAt dep p r g (marksE q p g V) V N W s)=>latchV_any d1 hin.1 (by have:=hin.2;omega) h hd)
  clear hin
  go_enter Tryz.func126,Tryz.ntmps126
  go_wp2_with (first
    | (go_at_call 177;refine HD.out.mono ?_;rintro e w1 ⟨rfl,hP1,hK1⟩;have dq1:=HQ.out _ _ hP1;have HB1:=Lib.hid (HB.out.call hP1 hK1);clear hP1 hK1)
    | (go_at_call 120;refine (HE.out _ _ HB1.out.pat).mono ?_;rintro e w2 ⟨rfl,hP2,hK2⟩;have dq2:=HQ.out _ _ hP2;have HB2:=Lib.hid (HB1.out.call hP2 hK2);clear hP2 hK2)
    | (go_at_call 181;refine (HL.out _ _ HB2.out.pat).mono ?_;rintro e w3 ⟨rfl,hP3,hK3⟩;have hB:=HB2.out.call hP3 hK3;generalize (((s1.expect [32]).latchV V d1).1)=x at *;have k0:=hB.cell (j:=0) rfl;have k1:=hB.cell (j:=1) rfl;have k2:=hB.cell (j:=2) rfl;have f0:=hB.free 0;have f1:=hB.free 1;have f2:=hB.free 2;have HC:=Lib.hid (((hB.set 0 (.int .i64 x.lv)).set 1 (.int .i64 x.ln)).set 2 (.int .i64 x.li));clear hP3 hK3 hB))
  try simp only [Exit.inBlock,Exit.then]
  refine bodyPost_ret (results_cell_row rfl _ _ w.heap.size 48 _ (0,0) _ rfl HC.out.row Tryz.underlying48 rfl (by kernel_rfl)) rfl ?_
  exact ⟨rfl,HC.out.pat,HC.out.kept⟩
end
end Go.Proofs.YtldnepogjnahfaaGreatDoor
