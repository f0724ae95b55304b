/- errors.Is of one api.Fault and another: whether they are the same number; nothing turns. No condition; Package fault's functions by contracts: chains of wrapped errors are gone down to what lies under them all (conditions: the library's one variable is laid; chains of at most 1000 errors); Package fault's exported functions by contracts (conditions: the library's one variable is laid; chains of at most 1000 errors). -/
import Derived.Test.YtldnepogjnahfaaGreatDoorProg
import Derived.WalkKit
import Derived.LaidEql
import Derived.Stop.Asserts
import Derived.RowKitTokens
import Derived.Lib.IfaceEq
import Derived.Test.YtldnepogjnahfaaGreatDoorVFA
import Derived.Below
import Derived.WalkLawsBesides
import Derived.Lib.Hide
import Derived.Lib.OwnBridge
import Derived.Outline
import Derived.Deep.LoopGhost
import Derived.Laws.Rows
import Derived.RegionTactic
import Derived.BigRegion
import Derived.RowKit
namespace Go.Proofs.YtldnepogjnahfaaGreatDoor.Fa
open Go.RowKit Go.Extern.Stop Go.Stop Go.Extern
set_option linter.unusedVariables false
def Laid (w:World):Prop:=w.cell? ⟨1,0,none⟩=some (.iface 283 (.agg #[.pointer (some ⟨7,116,none⟩)]))
def Chain (w:World) (bot:Value):List (Nat × Int × Int)→Value→Prop
  | [],e=>e=bot
  | x::L,e=>e=.iface 188 (.pointer (some ⟨x.1,0,none⟩))∧(∀ y∈L,y.1<x.1)∧∃ u,w.heap[x.1]?=some (.cells #[.int .i64 x.2.1,.int .i64 x.2.2,u] 235 (0,0))∧Chain w bot L u
def fin (d:Option Addr):List (Nat × Int × Int)→Option Addr
  | []=>d
  | x::L=>fin (some ⟨x.1,0,none⟩) L
theorem lt_of_row {w:World} {b:Nat} {o:Obj} (h:w.heap[b]?=some o):b<w.heap.size:=by
  rcases Nat.lt_or_ge b w.heap.size with h1 | h1
  · exact h1
  · simp [Array.getElem?_eq_none h1] at h
theorem Chain.lt {w:World} {bot:Value} {L:List (Nat × Int × Int)} {e:Value} (h:Chain w bot L e):∀ y∈L,y.1<w.heap.size:=by
  induction L generalizing e with
  | nil=>intro y hy;cases hy
  | cons x L ih =>
    obtain ⟨_,_,u,hr,hc⟩:=h
    intro y hy
    rcases List.mem_cons.1 hy with rfl | hy
    · exact lt_of_row hr
    · exact ih hc y hy
theorem Chain.below {w w':World} {B:Nat} {bot:Value} {L:List (Nat × Int × Int)} {e:Value} (h:Chain w bot L e) (hb:Below B w w') (hB:∀ y∈L,y.1<B):Chain w' bot L e:=by
  induction L generalizing e with
  | nil=>exact h
  | cons x L ih =>
    obtain ⟨h1,h2,u,hr,hc⟩:=h
    exact ⟨h1,h2,u,(hb.block _ (hB x (by simp))).trans hr,ih hc (fun y hy=>hB y (by simp [hy]))⟩
theorem Laid.pos {w:World} (h:Laid w):1<w.heap.size:=by
  unfold Laid at h
  rcases Nat.lt_or_ge 1 w.heap.size with h1 | h1
  · exact h1
  · rw [World.cell?,Array.getElem?_eq_none (by simpa using h1)] at h
    cases h
theorem Laid.below {w w':World} {B:Nat} (h:Laid w) (hb:Below B w w') (hB:1<B):Laid w':=(hb.cell (p:=⟨1,0,none⟩) hB).trans h
structure Put (w w':World) (t:Nat) (v:Value):Prop where
  os:w'.os=w.os
  tape:w'.tape=w.tape
  output:w'.output=w.output
  size:w.heap.size≤w'.heap.size
  block:∀ k,k<w.heap.size→k≠t→w'.heap[k]?=w.heap[k]?
  row:∀ old ty,w.heap[t]?=some (.cells #[old] ty (0,0))→w'.heap[t]?=some (.cells #[v] ty (0,0))
theorem put_of {w w1:World} {t:Nat} {v:Value} (hb:Below w.heap.size w w1) (ht:t<w.heap.size):Put w (w1.setCell ⟨t,0,none⟩ v) t v:=by
  refine ⟨hb.os,hb.tape,hb.output,by simpa using hb.size,fun k hk hn=>?_,fun old ty h=>?_⟩
  · rw [heap_setCell_other _ _ _ _ (by simpa using hn)];exact hb.block k hk
  · rw [heap_setCell_same w1 t 0 #[old] ty v ((hb.block t ht).trans h)];rfl
theorem below4 (w:World) (a b c d:Obj):Below w.heap.size w ((((w.alloc a).alloc b).alloc c).alloc d) :=
  ((((Below.refl _ w).alloc (Nat.le_refl _) a).alloc (by simp) b).alloc (by simp;omega) c).alloc (by simp;omega) d
theorem below3 (w:World) (a b c:Obj):Below w.heap.size w (((w.alloc a).alloc b).alloc c) :=
  (((Below.refl _ w).alloc (Nat.le_refl _) a).alloc (by simp) b).alloc (by simp;omega) c
theorem hitE (a t:Nat) (old:Value) (w:World) (hg:Laid w) (ht:w.heap[t]?=some (.cells #[old] 188 (0,0))) :
    Calls Tryz.prog 196 #[.iface 188 (.pointer (some ⟨a,0,none⟩)),.iface 233 (.pointer (some ⟨t,0,none⟩))] w fun ev w'=>ev=.returned (.bool true)∧Put w w' t (.pointer (some ⟨a,0,none⟩)):=by
  refine (asE_hit ⟨a,0,none⟩ ⟨t,0,none⟩ old w hg (by rw [cell_of_row w t 0 _ _ _ ht];rfl) (frozen_of_row w t 0 _ _ ht)).mono ?_
  rintro ev w' ⟨rfl,rfl⟩
  exact ⟨rfl,put_of (below4 w _ _ _ _) (lt_of_row ht)⟩
theorem hitF (k:Int) (t:Nat) (old:Value) (w:World) (hg:Laid w) (ht:w.heap[t]?=some (.cells #[old] 31 (0,0))) :
    Calls Tryz.prog 196 #[.iface 31 (.int .i64 k),.iface 236 (.pointer (some ⟨t,0,none⟩))] w fun ev w'=>ev=.returned (.bool true)∧Put w w' t (.int .i64 k):=by
  refine (asF_hit k ⟨t,0,none⟩ old w hg (by rw [cell_of_row w t 0 _ _ _ ht];rfl) (frozen_of_row w t 0 _ _ ht)).mono ?_
  rintro ev w' ⟨rfl,rfl⟩
  exact ⟨rfl,put_of (below4 w _ _ _ _) (lt_of_row ht)⟩
def Bare (v:Value):Prop:=v=.nilIface∨∃ k,v=.iface 31 (.int .i64 k)
theorem miss (v:Value) (hv:Bare v) (t:Nat) (old:Value) (w:World) (hg:Laid w) (ht:w.heap[t]?=some (.cells #[old] 188 (0,0))) :
    Calls Tryz.prog 196 #[v,.iface 233 (.pointer (some ⟨t,0,none⟩))] w fun ev w'=>ev=.returned (.bool false)∧Below w.heap.size w w':=by
  rcases hv with rfl | ⟨k,rfl⟩
  · refine (as_nil _ w).mono ?_
    rintro ev w' ⟨rfl,rfl⟩
    exact ⟨rfl,Below.refl _ _⟩
  · refine (as_miss k ⟨t,0,none⟩ old w hg (by rw [cell_of_row w t 0 _ _ _ ht];rfl)).mono ?_
    rintro ev w' ⟨rfl,rfl⟩
    exact ⟨rfl,below3 w _ _ _⟩
theorem run_eql_ptr_other {P:Program} {w:World} {tp te:TypeId} {j:TypeInfo} {a b:Addr} {ca cb:Array Value} {ta tb:TypeId}
    (hp:P.underlying tp=some (.pointer te)) (hte:P.info? te=some j) (hsz:j.size≠0) (hne:a≠b) (ha:w.heap[a.block]?=some (.cells ca ta (0,0))) (hb:w.heap[b.block]?=some (.cells cb tb (0,0))) :
    (binOp .eql tp (.pointer (some a)) (.pointer (some b))).run P w=.ok (.bool false) w:=by
  have h:∀ d:Nat,(Op.equalIn (d+1) tp (.pointer (some a)) (.pointer (some b))).run P w=.ok false w:=fun d=>by
    simp [Op.equalIn,run_underlying hp,typeInfo,sizeOf,hte,hsz,run_sameAddr_other w hne ha hb]
  simp only [binOp]
  simp [Op.equal,Op.maxDepth,h 9999]
def Left (B:Nat) (w:World) (v:Value) (e:Ending) (w':World):Prop:=e=.returned v∧Below B w w'
theorem Chain.form {w:World} {bot:Value} {L:List (Nat × Int × Int)} {e:Value} (h:Chain w bot L e) (hb:Bare bot):e=.nilIface∨∃ t v,e=.iface t v:=by
  cases L with
  | nil =>
    obtain rfl:e=bot:=h
    rcases hb with h | ⟨k,h⟩
    · exact .inl h
    · exact .inr ⟨_,_,h⟩
  | cons x L=>exact .inr ⟨_,_,h.1⟩
theorem error_size:(Tryz.prog.info? 235).map (·.size)=some 3:=by kernel_rfl
structure Inv (w wx:World) (bot:Value) (L L':List (Nat × Int × Int)) (d:Nat) (p:Option Addr) (u mk:Value):Prop where
  below:Below w.heap.size w wx
  res:wx.heap[w.heap.size]?=some (.cells #[.pointer none,.int .i64 0,.nilIface] 190 (0,0))
  row:wx.heap[w.heap.size+1]?=some (.cells #[.pointer p,.int .i64 d,u] 190 (0,0))
  nxt:∃ nx,wx.heap[w.heap.size+1+1]?=some (.cells #[nx] 188 (0,0))
  chain:Chain wx bot L' u
  low:∀ y∈L',y.1<w.heap.size
  cnt:d+L'.length=L.length
  last:fin p L'=fin none L
  mark:mk=.pointer none∨∃ m c t,mk=.pointer (some ⟨m,0,none⟩)∧(∀ y∈L',y.1<m)∧m<w.heap.size∧w.heap[m]?=some (.cells c t (0,0))
theorem Inv.size {w wx:World} {bot:Value} {L L':List (Nat × Int × Int)} {d:Nat} {p:Option Addr} {u mk:Value} (h:Inv w wx bot L L' d p u mk):w.heap.size+1+1<wx.heap.size:=by
  obtain ⟨nx,h1⟩:=h.nxt
  exact lt_of_row h1
theorem Inv.fall {w wx wy:World} {bot:Value} {L L':List (Nat × Int × Int)} {d:Nat} {p:Option Addr} {u mk:Value} (h:Inv w wx bot L L' d p u mk) (hb:Below wx.heap.size wx wy):Inv w wy bot L L' d p u mk:=by
  obtain ⟨nx,h1⟩:=h.nxt
  have hs:=h.size
  exact ⟨h.below.trans (hb.mono h.below.size),(hb.block _ (lt_of_row h.res)).trans h.res,(hb.block _ (lt_of_row h.row)).trans h.row,⟨nx,(hb.block _ (lt_of_row h1)).trans h1⟩,
    h.chain.below hb h.chain.lt,h.low,h.cnt,h.last,h.mark⟩
theorem Inv.resCells {w wx:World} {bot:Value} {L L':List (Nat × Int × Int)} {d:Nat} {p:Option Addr} {u mk:Value} (h:Inv w wx bot L L' d p u mk) :
    wx.cell? ⟨w.heap.size,0,none⟩=some (.pointer none)∧wx.cell? ⟨w.heap.size,1,none⟩=some (.int .i64 0)∧wx.cell? ⟨w.heap.size,2,none⟩=some .nilIface ∧
    wx.frozen? ⟨w.heap.size,0,none⟩=false∧wx.frozen? ⟨w.heap.size,1,none⟩=false∧wx.frozen? ⟨w.heap.size,2,none⟩=false:=by
  refine ⟨?_,?_,?_,frozen_of_row _ _ _ _ _ h.res,frozen_of_row _ _ _ _ _ h.res,frozen_of_row _ _ _ _ _ h.res⟩ <;> rw [cell_of_row _ _ _ _ _ _ h.res] <;> rfl
theorem Inv.cells {w wx:World} {bot:Value} {L L':List (Nat × Int × Int)} {d:Nat} {p:Option Addr} {u mk:Value} (h:Inv w wx bot L L' d p u mk) :
    (wx.cell? ⟨w.heap.size+1,0,none⟩=some (.pointer p)∧wx.cell? ⟨w.heap.size+1,1,none⟩=some (.int .i64 d)∧wx.cell? ⟨w.heap.size+1,2,none⟩=some u):=by
  refine ⟨?_,?_,?_⟩ <;> rw [cell_of_row _ _ _ _ _ _ h.row] <;> rfl
theorem Inv.step {w wx wy:World} {bot:Value} {L L':List (Nat × Int × Int)} {d:Nat} {p:Option Addr} {u u' mk:Value} {xb:Nat} {xk xa:Int} (h:Inv w wx bot L ((xb,xk,xa)::L') d p u mk)
    (hb:Put wx wy (w.heap.size+1+1) (.pointer (some ⟨xb,0,none⟩))) (hx:wx.heap[xb]?=some (.cells #[.int .i64 xk,.int .i64 xa,u'] 235 (0,0))) :
    wy.cell? ⟨w.heap.size+1,0,none⟩=some (.pointer p)∧wy.cell? ⟨w.heap.size+1,1,none⟩=some (.int .i64 d)∧wy.cell? ⟨w.heap.size+1,2,none⟩=some u ∧
    wy.cell? ⟨w.heap.size+1+1,0,none⟩=some (.pointer (some ⟨xb,0,none⟩))∧wy.cell? ⟨xb,2,none⟩=some u' ∧
    wy.frozen? ⟨w.heap.size+1,0,none⟩=false∧wy.frozen? ⟨w.heap.size+1,1,none⟩=false∧wy.frozen? ⟨w.heap.size+1,2,none⟩=false ∧
    (binOp .eql 188 (.pointer (some ⟨xb,0,none⟩)) mk).run Tryz.prog wy=.ok (.bool false) wy:=by
  obtain ⟨nx,h1⟩:=h.nxt
  have hs:=h.size
  have hxl:xb<w.heap.size:=h.low (xb,xk,xa) (by simp)
  have hr:=(hb.block _ (by omega) (by omega)).trans h.row
  have hn:=hb.row _ _ h1
  have hxy:=(hb.block xb (lt_of_row hx) (by omega)).trans hx
  refine ⟨?_,?_,?_,?_,?_,frozen_of_row _ _ _ _ _ hr,frozen_of_row _ _ _ _ _ hr,frozen_of_row _ _ _ _ _ hr,?_⟩
  · rw [cell_of_row _ _ _ _ _ _ hr];rfl
  · rw [cell_of_row _ _ _ _ _ _ hr];rfl
  · rw [cell_of_row _ _ _ _ _ _ hr];rfl
  · rw [cell_of_row _ _ _ _ _ _ hn];rfl
  · rw [cell_of_row _ _ _ _ _ _ hxy];rfl
  · rcases h.mark with rfl | ⟨m,c,t,rfl,hlt,hml,hmr⟩
    · exact run_eql_pointer_nil wy _ _ (by kernel_rfl)
    · have hxm:xb<m:=hlt (xb,xk,xa) (by simp)
      have hmy:wy.heap[m]?=some (.cells c t (0,0)):=(hb.block m (by omega) (by omega)).trans ((h.below.block m hml).trans hmr)
      obtain ⟨j,hj,hjs⟩:=Option.map_eq_some_iff.1 error_size
      exact run_eql_ptr_other Tryz.underlying188 hj (by rw [hjs];decide) (fun e=>by have:xb=m:=congrArg Addr.block e;omega) hxy hmy
structure Mid (w w2:World) (d xb:Nat) (v:Value):Prop where
  below:Below w.heap.size w w2
  res:w2.heap[w.heap.size]?=some (.cells #[.pointer none,.int .i64 0,.nilIface] 190 (0,0))
  row:w2.heap[w.heap.size+1]?=some (.cells #[.pointer (some ⟨xb,0,none⟩),.int .i64 d,v] 190 (0,0))
  nxt:w2.heap[w.heap.size+1+1]?=some (.cells #[.pointer (some ⟨xb,0,none⟩)] 188 (0,0))
theorem Mid.cells {w w2:World} {d xb:Nat} {v:Value} (h:Mid w w2 d xb v):w2.cell? ⟨w.heap.size+1,1,none⟩=some (.int .i64 d)∧w2.frozen? ⟨w.heap.size+1,1,none⟩=false∧w2.cell? ⟨w.heap.size+1+1,0,none⟩=some (.pointer (some ⟨xb,0,none⟩)):=by
  refine ⟨?_,frozen_of_row _ _ _ _ _ h.row,?_⟩
  · rw [cell_of_row _ _ _ _ _ _ h.row];rfl
  · rw [cell_of_row _ _ _ _ _ _ h.nxt];rfl
theorem Inv.turn {w wx wy:World} {bot:Value} {L L':List (Nat × Int × Int)} {d:Nat} {p:Option Addr} {u mk:Value} {xb:Nat} (h:Inv w wx bot L L' d p u mk)
    (hb:Put wx wy (w.heap.size+1+1) (.pointer (some ⟨xb,0,none⟩))) (v:Value) :
    Mid w ((wy.setCell ⟨w.heap.size+1,0,none⟩ (.pointer (some ⟨xb,0,none⟩))).setCell ⟨w.heap.size+1,2,none⟩ v).drew d xb v:=by
  obtain ⟨nx,h1⟩:=h.nxt
  have hs:=h.size
  have hr:=(hb.block _ (by omega) (by omega)).trans h.row
  have hy:Below w.heap.size w wy:=h.below.trans ⟨hb.os,hb.tape,hb.output,hb.size,fun k hk=>hb.block k (by omega) (by omega)⟩
  refine ⟨((hy.setCell (by simp) _).setCell (by simp) _).drew,?_,?_,?_⟩
  · rw [heap_drew,heap_setCell_other _ _ _ _ (by simp),heap_setCell_other _ _ _ _ (by simp)]
    exact (hb.block _ (by omega) (by omega)).trans h.res
  · rw [heap_drew]
    exact heap_setCell_same _ _ _ _ _ _ (heap_setCell_same _ _ _ _ _ _ hr)
  · rw [heap_drew,heap_setCell_other _ _ _ _ (by simp),heap_setCell_other _ _ _ _ (by simp)]
    exact hb.row _ _ h1
theorem Chain.at {w w':World} {B:Nat} {bot:Value} {L:List (Nat × Int × Int)} {e:Value} (h:Chain w bot L e) (hb:∀ k,k<B→w'.heap[k]?=w.heap[k]?) (hB:∀ y∈L,y.1<B):Chain w' bot L e:=by
  induction L generalizing e with
  | nil=>exact h
  | cons x L ih =>
    obtain ⟨h1,h2,u,hr,hc⟩:=h
    exact ⟨h1,h2,u,(hb _ (hB x (by simp))).trans hr,ih hc (fun y hy=>hB y (by simp [hy]))⟩
theorem Inv.next {w wx w2:World} {bot:Value} {L L':List (Nat × Int × Int)} {d:Nat} {p:Option Addr} {u u' mk:Value} {xb:Nat} {xk xa:Int} (h:Inv w wx bot L ((xb,xk,xa)::L') d p u mk)
    (hc:(∀ y∈L',y.1<xb)∧wx.heap[xb]?=some (.cells #[.int .i64 xk,.int .i64 xa,u'] 235 (0,0))∧Chain wx bot L' u') (hm:Mid w w2 d xb u') (mk':Value)
    (hk:mk'=mk∨mk'=.pointer (some ⟨xb,0,none⟩)) :
    Inv w (w2.setCell ⟨w.heap.size+1,1,none⟩ (.int .i64 ((d:Int)+1))) bot L L' (d+1) (some ⟨xb,0,none⟩) u' mk':=by
  have hl:∀ y∈L',y.1<w.heap.size:=fun y hy=>h.low y (by simp [hy])
  have hb:Below w.heap.size w (w2.setCell ⟨w.heap.size+1,1,none⟩ (.int .i64 ((d:Int)+1))):=hm.below.setCell (by simp) _
  refine ⟨hb,?_,?_,⟨.pointer (some ⟨xb,0,none⟩),?_⟩,hc.2.2.at (fun k hk=>(hb.block k hk).trans (h.below.block k hk).symm) hl,hl,by have:=h.cnt;simp at this;omega,h.last,?_⟩
  · rw [heap_setCell_other _ _ _ _ (by simp)];exact hm.res
  · have:=heap_setCell_same _ _ 1 _ _ (.int .i64 ((d:Int)+1)) hm.row
    exact this
  · rw [heap_setCell_other _ _ _ _ (by simp)];exact hm.nxt
  · rcases hk with rfl | rfl
    · rcases h.mark with rfl | ⟨m,c,t,rfl,hlt,hml,hmr⟩
      · exact .inl rfl
      · exact .inr ⟨m,c,t,rfl,fun y hy=>hlt y (by simp [hy]),hml,hmr⟩
    · have hxl:xb<w.heap.size:=h.low (xb,xk,xa) (by simp)
      exact .inr ⟨xb,_,_,rfl,hc.1,hxl,(h.below.block xb hxl).symm.trans hc.2.1⟩
theorem start (w:World) (bot:Value) (L:List (Nat × Int × Int)) (e:Value) (hc:Chain w bot L e) (hL:Laid w) :
    Inv w (((w.alloc (.cells #[.pointer none,.int .i64 0,.nilIface] 190)).alloc (.cells #[.pointer none,.int .i64 0,e] 190)).alloc (.cells #[.pointer none] 188)) bot L L 0 none e (.pointer none):=by
  have hb:=below3 w (.cells #[.pointer none,.int .i64 0,.nilIface] 190) (.cells #[.pointer none,.int .i64 0,e] 190) (.cells #[.pointer none] 188)
  refine ⟨hb,?_,?_,⟨.pointer none,?_⟩,hc.below hb hc.lt,hc.lt,by simp,rfl,.inl rfl⟩
  · rw [Below.heap_alloc _ _ _ (by simp;omega),Below.heap_alloc _ _ _ (by simp),heap_alloc_new]
  · rw [Below.heap_alloc _ _ _ (by simp),show w.heap.size+1=(w.alloc (.cells #[.pointer none,.int .i64 0,.nilIface] 190)).heap.size by simp,heap_alloc_new];rfl
  · rw [show w.heap.size+1+1=((w.alloc (.cells #[.pointer none,.int .i64 0,.nilIface] 190)).alloc (.cells #[.pointer none,.int .i64 0,e] 190)).heap.size by simp,heap_alloc_new]
set_option maxRecDepth 20000 in
set_option maxHeartbeats 2000000 in
theorem bottomOf_any (L:List (Nat × Int × Int)) (bot e0:Value) (w:World) (hl:L.length≤1000) (hL:Laid w) (hc:Chain w bot L e0) (hb:Bare bot) :
    Calls Tryz.prog 136 #[e0] w (Left w.heap.size w (.agg #[.pointer (fin none L),.int .i64 L.length,bot])):=by
  rcases hc.form hb with rfl | ⟨t,v,rfl⟩
  all_goals
    go_enter Tryz.func136,Tryz.ntmps136
    go_wp2_with fail
    go_loopg [5] (L.length) (fun m s5 wx=>∃ L' d p u,L'.length=m∧Inv w wx bot L L' d p u s5)
    case atStart =>
      exact ⟨L,0,none,_,rfl,start w bot L _ hc hL⟩
    case round =>
      obtain ⟨L',d,p,u,rfl,I⟩:=hrel
      have HI:=Lib.hid I
      obtain ⟨c0,c1,c2⟩:=I.cells
      obtain ⟨nx,n0⟩:=I.nxt
      have hLx:Laid wr:=hL.below I.below hL.pos
      have hch:=I.chain
      cases L' with
      | nil =>
        obtain rfl:u=bot:=hch
        clear I
        have HM:=Lib.hid (miss u hb (w.heap.size+1+1) nx wr hLx n0)
        clear n0 hLx
        rcases hb with rfl | ⟨kb,rfl⟩
        all_goals
          go_wp2_with fail
          refine HM.out.mono ?_
          rintro e wy ⟨rfl,hb1⟩
          obtain ⟨b0,b1,b2⟩:=(HI.out.fall hb1).cells
          obtain ⟨r0,r1,r2,f0,f1,f2⟩:=(HI.out.fall hb1).resCells
          have HB:=Lib.hid hb1
          clear hb1
          go_wp2_with fail
          have hn:d=L.length:=by simpa using HI.out.cnt
          have hf:p=fin none L:=HI.out.last
          refine bodyPost_ret (v:=.agg #[.pointer p,.int .i64 d,_]) (by simp [results,Tryz.results136,go_sem,r0,r1,r2];rfl) rfl ?_
          exact ⟨by rw [hf,hn],((((HI.out.below.trans (HB.out.mono HI.out.below.size)).setCell (Nat.le_refl _) _).setCell (Nat.le_refl _) _).setCell (Nat.le_refl _) _)⟩
      | cons x L'' =>
        obtain ⟨xb,xk,xa⟩:=x
        obtain ⟨hu,hlow,u',hxr,hch'⟩:=hch
        simp only at hu hlow hxr
        subst hu
        clear I
        have HM:=Lib.hid (hitE xb (w.heap.size+1+1) nx wr hLx n0)
        clear n0 hLx
        have HC:=Lib.hid (And.intro hlow (And.intro hxr hch'))
        have HT:=Lib.hid (fun wy (h:Put wr wy (w.heap.size+1+1) (.pointer (some ⟨xb,0,none⟩)))=>HI.out.turn h u')
        rcases hch'.form hb with rfl | ⟨ut,uv,rfl⟩
        all_goals
          clear hch' hxr hlow
          go_wp2_with fail
          refine HM.out.mono ?_
          rintro e wy ⟨rfl,hb1⟩
          have h3:=HI.out.step hb1 HC.out.2.1
          obtain ⟨b0,b1,b2,n0,x2,f0,f1,f2,hq⟩:=h3
          have HB:=Lib.hid hb1
          clear hb1
          go_wp2_with fail
          go_region
          have hT:=HT.out wy HB.out
          clear b0 b1 b2 n0 x2 f0 f1 f2 hq
          first
            | generalize ((wy.setCell ⟨w.heap.size+1,0,none⟩ (.pointer (some ⟨xb,0,none⟩))).setCell ⟨w.heap.size+1,2,none⟩ (.iface ut uv)).drew=w2 at hT ⊢
            | generalize ((wy.setCell ⟨w.heap.size+1,0,none⟩ (.pointer (some ⟨xb,0,none⟩))).setCell ⟨w.heap.size+1,2,none⟩ .nilIface).drew=w2 at hT ⊢
          obtain ⟨k1,g1,nn⟩:=hT.cells
          have HT2:=Lib.hid hT
          clear hT
          have hd0:(0:Int)≤d:=by omega
          have hd1:(d:Int)<1000:=by have:=HI.out.cnt;simp at this;omega
          go_wp2_with fail
          all_goals
            go_roundg L''.length
            case measure=>simp
            case rel=>exact ⟨L'',d+1,_,_,rfl,HI.out.next HC.out HT2.out _ (by first | exact .inl rfl | exact .inr rfl)⟩
set_option linter.unusedVariables false
def under:Option Int→Value
  | none=>.nilIface
  | some k=>.iface 31 (.int .i64 k)
def base:Option Int→Int × Int
  | none=>(0,-1)
  | some k=>(k,-1)
def inmost (d:Int × Int):List (Nat × Int × Int)→Int × Int
  | []=>d
  | x::L=>inmost x.2 L
theorem under_bare (o:Option Int):Bare (under o):=by
  cases o with
  | none=>exact .inl rfl
  | some k=>exact .inr ⟨k,rfl⟩
theorem inmost_row {w:World} {bot:Value} {L:List (Nat × Int × Int)} {e:Value} (h:Chain w bot L e) (p:Option Addr) (d:Int × Int) (hp:∀ b,p=some b→∃ B u,b=⟨B,0,none⟩∧w.heap[B]?=some (.cells #[.int .i64 d.1,.int .i64 d.2,u] 235 (0,0))) :
    (fin p L=p∧L=[])∨∃ B u,fin p L=some ⟨B,0,none⟩∧w.heap[B]?=some (.cells #[.int .i64 (inmost d L).1,.int .i64 (inmost d L).2,u] 235 (0,0)):=by
  induction L generalizing e p d with
  | nil=>exact .inl ⟨rfl,rfl⟩
  | cons x L ih =>
    obtain ⟨_,_,u,hr,hc⟩:=h
    right
    rcases ih hc (some ⟨x.1,0,none⟩) x.2 (fun b hb=>⟨x.1,u,(Option.some.inj hb).symm,hr⟩) with ⟨h1,rfl⟩ | h1
    · exact ⟨x.1,u,h1,hr⟩
    · exact h1
theorem inmost_of {w:World} {bot:Value} {L:List (Nat × Int × Int)} {e:Value} (h:Chain w bot L e) (d:Int × Int) :
    (fin none L=none∧L=[])∨∃ B u,fin none L=some ⟨B,0,none⟩∧w.heap[B]?=some (.cells #[.int .i64 (inmost d L).1,.int .i64 (inmost d L).2,u] 235 (0,0)) :=
  inmost_row h none d (fun b hb=>by cases hb)
theorem ofNil_any (p:Option Addr) (d:Int) (o:Option Int) (w:World) :
    Calls Tryz.prog 212 #[.agg #[.pointer p,.int .i64 d,under o]] w (Left w.heap.size w (.bool (p.isNone && o.isNone))):=by
  cases p <;> cases o
  all_goals
    unfold under
    go_enter Tryz.func212,Tryz.ntmps212
    go_wp2_with fail
    go_ret
    exact ⟨rfl,(Below.refl _ w).alloc (Nat.le_refl _) _⟩
def two (x:Int × Int):Value:=.tuple #[.int .i64 x.1,.int .i64 x.2]
theorem told_inner (b:Nat) (k a d:Int) (u v:Value) (w:World) (hr:w.heap[b]?=some (.cells #[.int .i64 k,.int .i64 a,u] 235 (0,0))) (hv:Bare v) :
    Calls Tryz.prog 137 #[.agg #[.pointer (some ⟨b,0,none⟩),.int .i64 d,v]] w (fun e w'=>e=.returned (two (k,a))∧Below w.heap.size w w'):=by
  have hb:=lt_of_row hr
  have k0:w.cell? ⟨b,0,none⟩=some (.int .i64 k):=by rw [cell_of_row _ _ _ _ _ _ hr];rfl
  have k1:w.cell? ⟨b,1,none⟩=some (.int .i64 a):=by rw [cell_of_row _ _ _ _ _ _ hr];rfl
  clear hr
  rcases hv with rfl | ⟨q,rfl⟩
  all_goals
    go_enter Tryz.func137,Tryz.ntmps137
    go_wp2_with fail
    go_region
    all_goals go_wp2_with fail
    all_goals go_ret2
    all_goals exact ⟨rfl,((Below.refl _ w).alloc (Nat.le_refl _) _).drew⟩
theorem told_outer (o:Option Int) (d:Int) (w:World) (hL:Laid w) :
    Calls Tryz.prog 137 #[.agg #[.pointer none,.int .i64 d,under o]] w (fun e w'=>e=.returned (two (base o))∧Below w.heap.size w w'):=by
  cases o with
  | none =>
    unfold under
    go_enter Tryz.func137,Tryz.ntmps137
    go_wp2_with fail
    refine (as_nil _ _).mono ?_
    rintro e wy ⟨rfl,rfl⟩
    go_wp2_with fail
    go_ret2
    exact ⟨rfl,((Below.refl _ w).alloc (Nat.le_refl _) _).alloc (by simp) _⟩
  | some k =>
    unfold under
    have hb:Below w.heap.size w ((w.alloc (.cells #[.pointer none,.int .i64 d,.iface 31 (.int .i64 k)] 190)).alloc (.cells #[.int .i64 0] 31)):=((Below.refl _ w).alloc (Nat.le_refl _) _).alloc (by simp) _
    have hr:((w.alloc (.cells #[.pointer none,.int .i64 d,.iface 31 (.int .i64 k)] 190)).alloc (.cells #[.int .i64 0] 31)).heap[w.heap.size+1]?=some (.cells #[.int .i64 0] 31 (0,0)):=by
      rw [show w.heap.size+1=(w.alloc (.cells #[.pointer none,.int .i64 d,.iface 31 (.int .i64 k)] 190)).heap.size by simp,heap_alloc_new]
    have hm:=Lib.hid (hitF k (w.heap.size+1) (.int .i64 0) _ (hL.below hb hL.pos) hr)
    have HB:=Lib.hid hb
    have HR:=Lib.hid hr
    clear hb hr
    go_enter Tryz.func137,Tryz.ntmps137
    go_wp2_with fail
    refine hm.out.mono ?_
    rintro e wy ⟨rfl,hp⟩
    have hc:wy.cell? ⟨w.heap.size+1,0,none⟩=some (.int .i64 k):=by rw [cell_of_row _ _ _ _ _ _ (hp.row _ _ HR.out)];rfl
    have HP:=Lib.hid hp
    clear hp
    go_wp2_with fail
    go_ret2
    refine ⟨rfl,HB.out.trans ⟨HP.out.os,HP.out.tape,HP.out.output,HP.out.size,fun k hk=>HP.out.block k (by simp;omega) (by omega)⟩⟩
theorem told_any (L:List (Nat × Int × Int)) (o:Option Int) (e:Value) (d:Int) (w:World) (hL:Laid w) (hc:Chain w (under o) L e) :
    Calls Tryz.prog 137 #[.agg #[.pointer (fin none L),.int .i64 d,under o]] w (fun e w'=>e=.returned (two (inmost (base o) L))∧Below w.heap.size w w'):=by
  rcases inmost_of hc (base o) with ⟨h1,rfl⟩ | ⟨B,u,h1,h2⟩
  · rw [h1];exact told_outer o d w hL
  · rw [h1];exact told_inner B _ _ d u _ w h2 (under_bare o)
theorem Told_any (L:List (Nat × Int × Int)) (o:Option Int) (e:Value) (w:World) (hl:L.length≤1000) (hL:Laid w) (hc:Chain w (under o) L e) :
    Calls Tryz.prog 79 #[e] w (fun ev w'=>ev=.returned (two (inmost (base o) L))∧Below w.heap.size w w'):=by
  have h1:=Lib.hid (bottomOf_any L (under o) e w hl hL hc (under_bare o))
  go_enter Tryz.func79,Tryz.ntmps79
  go_wp2_with fail
  refine h1.out.mono ?_
  rintro ev wy ⟨rfl,hb⟩
  have HB:=Lib.hid hb
  have h2:=Lib.hid (told_any L o e L.length wy (hL.below hb hL.pos) (hc.below hb hc.lt))
  clear hb
  go_wp2_with fail
  refine h2.out.mono ?_
  rintro ev wz ⟨rfl,hb2⟩
  have HB2:=Lib.hid hb2
  clear hb2
  unfold two
  go_wp2_with fail
  go_ret2
  exact ⟨rfl,HB.out.trans (HB2.out.mono HB.out.size)⟩
theorem Wrap_any (L:List (Nat × Int × Int)) (k a:Int) (e:Value) (w:World) (hl:L.length≤1000) (hL:Laid w) (hc:Chain w (under (some k)) L e) :
    Calls Tryz.prog 169 #[e,.int .i64 a] w (fun ev w'=>∃ b,ev=.returned (.iface 188 (.pointer (some ⟨b,0,none⟩)))∧Below w.heap.size w w' ∧
      Chain w' (under (some k)) ((b,(inmost (base (some k)) L).1,a)::L) (.iface 188 (.pointer (some ⟨b,0,none⟩)))):=by
  have h0:=bottomOf_any L (under (some k)) e w hl hL hc (under_bare _)
  have h3:=ofNil_any (fin none L) L.length (some k)
  have h4:=fun w hL hc=>told_any L (some k) e L.length w hL hc
  have hfm:=hc.form (under_bare _)
  generalize fin none L=p at h0 h3 h4
  unfold two at h4
  generalize hI:inmost (base (some k)) L=I at h4 ⊢
  obtain ⟨i1,i2⟩:=I
  have HHC:=Lib.hid hc
  unfold under at h0 h3 h4
  have h1:=Lib.hid h0
  have h2:=Lib.hid h3
  have h5:=Lib.hid h4
  clear h0 h3 h4 hI hc
  rcases hfm with rfl | ⟨et,ev,rfl⟩
  all_goals
    go_enter Tryz.func169,Tryz.ntmps169
    go_wp2_with fail
    refine h1.out.mono ?_
    rintro ev wy ⟨rfl,hb⟩
    have HB:=Lib.hid hb
    clear hb
    go_wp2_with fail
    refine (h2.out _).mono ?_
    rintro ev wz ⟨rfl,hb2⟩
    have hc0:wz.cell? ⟨wy.heap.size,0,none⟩=some (.pointer p):=(hb2.cell (by simp)).trans (by simp)
    have hc1:wz.cell? ⟨wy.heap.size,1,none⟩=some (.int .i64 L.length):=(hb2.cell (by simp)).trans (by simp)
    have hc2:wz.cell? ⟨wy.heap.size,2,none⟩=some (.iface 31 (.int .i64 k)):=(hb2.cell (by simp)).trans (by simp)
    have HZ:=Lib.hid ((HB.out.alloc HB.out.size _).trans (hb2.mono (by have:=HB.out.size;simp;omega)))
    clear hb2
    have hf:(p.isNone && (some k).isNone)=false:=by simp
    rw [hf]
    clear hf
    go_wp2_with fail
    refine (h5.out _ (hL.below HZ.out hL.pos) (HHC.out.below HZ.out HHC.out.lt)).mono ?_
    rintro ev wu ⟨rfl,hb3⟩
    have HU:=Lib.hid (HZ.out.trans (hb3.mono HZ.out.size))
    clear hb3 hc0 hc1 hc2
    go_wp2_with fail
    go_ret
    refine ⟨wu.heap.size,rfl,HU.out.alloc HU.out.size _,rfl,fun y hy=>?_,_,by rw [heap_alloc_new],?_⟩
    · have:=HHC.out.lt y hy
      have:=HU.out.size
      show y.1<wu.heap.size
      omega
    · exact HHC.out.below (HU.out.alloc HU.out.size _) HHC.out.lt
theorem Wrap_nil (a:Int) (w:World) (hL:Laid w) :
    Calls Tryz.prog 169 #[.nilIface,.int .i64 a] w (fun ev w'=>ev=.returned .nilIface∧Below w.heap.size w w'):=by
  have h0:=bottomOf_any [] .nilIface .nilIface w (by simp) hL rfl (.inl rfl)
  have h3:=ofNil_any none 0 none
  unfold under at h3
  have h1:=Lib.hid h0
  have h2:=Lib.hid h3
  clear h0 h3
  go_enter Tryz.func169,Tryz.ntmps169
  go_wp2_with fail
  refine h1.out.mono ?_
  rintro ev wy ⟨rfl,hb⟩
  have HB:=Lib.hid hb
  clear hb
  have hf:fin none []=none:=rfl
  rw [hf]
  clear hf
  go_wp2_with fail
  refine (h2.out _).mono ?_
  rintro ev wz ⟨rfl,hb2⟩
  have HB2:=Lib.hid hb2
  clear hb2
  go_wp2_with fail
  go_ret
  exact ⟨rfl,(HB.out.alloc HB.out.size _).trans (HB2.out.mono (by have:=HB.out.size;simp;omega))⟩
theorem New_any (k a:Int) (h0:k≠0) (w:World) :
    Calls Tryz.prog 202 #[.int .i64 k,.int .i64 a] w (fun ev w'=>∃ b,ev=.returned (.iface 188 (.pointer (some ⟨b,0,none⟩)))∧Below w.heap.size w w' ∧
      Chain w' (under (some k)) [(b,k,a)] (.iface 188 (.pointer (some ⟨b,0,none⟩)))):=by
  go_enter Tryz.func202,Tryz.ntmps202
  go_wp2_with fail
  go_ret
  exact ⟨w.heap.size,rfl,(Below.refl _ w).alloc (Nat.le_refl _) _,rfl,fun y hy=>by (cases hy),under (some k),heap_alloc_new _ _,rfl⟩
theorem New_ok (a:Int) (w:World) :
    Calls Tryz.prog 202 #[.int .i64 0,.int .i64 a] w (fun ev w'=>ev=.returned .nilIface∧w'=w):=by
  go_enter Tryz.func202,Tryz.ntmps202
  go_wp2_with fail
  go_ret
  exact ⟨rfl,rfl⟩
end Go.Proofs.YtldnepogjnahfaaGreatDoor.Fa
