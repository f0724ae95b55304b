/- A memory's ports of a text by contract (conditions: the parser lies in memory; at most 400000 bytes; the memory's widths, and how many ports). -/
import Derived.Test.YtldnepogjnahfaaGreatDoorVCx
import Derived.Test.YtldnepogjnahfaaGreatDoorVLw
set_option linter.unusedVariables false
namespace Go.Proofs.YtldnepogjnahfaaGreatDoor
open Go.ChangeShapes Go.WideShapes Go.RowKit
def Ps.ports (df:Nat→Ps→Int × Ps) (V:Int) (x:PShape) (s:Ps):PMem × Ps :=
  let l:=s.lines (fun t=>t.read (df x.sw.toNat) V x.sa.toNat) x.sr.toNat
  let d:=l.2.lines (fun t=>t.write V x.sa.toNat x.sw.toNat) x.sx.toNat
  (⟨x.sa,x.sw,x.sn,l.1,d.1⟩,d.2)
def PShape.good (x:PShape):Prop:=(1≤x.sa∧x.sa≤62)∧(1≤x.sw∧x.sw≤64)∧(0≤x.sr∧x.sr≤4)∧(0≤x.sx∧x.sx≤4)
theorem Ps.refuse_none_in {s:Ps} {k a:Int} (hk:k≠0):(s.refuse k a).e≠none:=by
  unfold Ps.refuse
  split
  · rename_i x h
    rw [h]
    simp
  · rw [if_neg hk]
    simp
theorem Ps.within_good {s:Ps} {lo hi k:Int} (hk:k≠0) (h:(s.within lo hi k).2.e=none):lo≤(s.within lo hi k).1∧(s.within lo hi k).1≤hi∧s.e=none:=by
  unfold Ps.within at h ⊢
  cases he:s.e with
  | some x=>rw [he] at h;simp [he] at h
  | none =>
    rw [he] at h
    simp only at h ⊢
    split at h
    · rename_i h1;exact absurd h (Ps.refuse_none_in h1)
    · rename_i h1
      rw [if_neg h1]
      split at h
      · exact absurd h (Ps.refuse_none_in hk)
      · rename_i h2
        rw [if_neg h2]
        refine ⟨?_,?_,trivial⟩
        · show lo≤(Sc.numA s.l maxN).1;omega
        · show (Sc.numA s.l maxN).1≤hi;omega
theorem Ps.expect_good {s:Ps} {b:List Int} (h:(s.expect b).e=none):s.e=none:=by
  unfold Ps.expect at h
  cases he:s.e with
  | some x=>rw [he] at h;simp [he] at h
  | none=>rfl
theorem Ps.memory_good {t s:Ps} {x:PShape} (h12:Ps.ln (fun t=>t.memory) t=(x,s)) (he:s.e=none):x.good:=by
  have h1:t.memory.1=x:=congrArg Prod.fst h12
  have h2:t.memory.2.expect [10]=s:=congrArg Prod.snd h12
  subst h2
  have h0:=Ps.expect_good he
  subst h1
  unfold Ps.memory at h0 ⊢
  have f5:=Ps.within_good (by decide) h0
  have f4:=Ps.within_good (by decide) (Ps.expect_good f5.2.2)
  have f3:=Ps.within_good (by decide) (Ps.expect_good f4.2.2)
  have f2:=Ps.within_good (by decide) (Ps.expect_good f3.2.2)
  have f1:=Ps.within_good (by decide) (Ps.expect_good f2.2.2)
  exact ⟨⟨f1.1,f1.2.1⟩,⟨f2.1,f2.2.1⟩,⟨f4.1,f4.2.1⟩,⟨f5.1,f5.2.1⟩⟩
section
variable {p r g:Nat} {m:Ext} {V:Int} {N:NC} {w:World} {s:Ps}
structure PB (p r g:Nat) (m:Ext) (V:Int) (N:NC) (w:World) (fv:Value) (mm:Array Value) (W:World) (s:Ps):Prop where
  pat:PAt 2 p r g m V N W s
  kept:Kept3 p r g w W
  pb:W.heap[w.heap.size]?=some (.cells #[.pointer (some ⟨p,0,none⟩)] 62 (0,0))
  mb:W.heap[w.heap.size+1]?=some (.cells mm 54 (0,0))
  db:CaughtD (w.heap.size+1+1) fv W
  rb:W.heap[w.heap.size+1+1+1]?=some (.cells #[.int .i64 0,.int .i64 0,.bool false,.slice none 0 0,.slice none 0 0] 54 (0,0))
  top:m.B≤w.heap.size
theorem PB.old {fv:Value} {mm:Array Value} {W:World} (h:PB p r g m V N w fv mm W s):p<w.heap.size∧r<w.heap.size∧g<w.heap.size:=by
  have h1:=h.pat.ok.lt
  have h2:=h.top
  omega
theorem PB.step {fv:Value} {mm:Array Value} {W W':World} {s':Ps} (h:PB p r g m V N w fv mm W s) (hP:PAt 2 p r g m V N W' s') (hK:Kept3 p r g W W'):PB p r g m V N w fv mm W' s':=by
  have ho:=h.old
  exact ⟨hP,h.kept.trans hK,(hK.block _ (lt_of_row h.pb) (by omega) (by omega) (by omega)).trans h.pb,(hK.block _ (lt_of_row h.mb) (by omega) (by omega) (by omega)).trans h.mb,
    h.db.kept hK (by omega),(hK.block _ (lt_of_row h.rb) (by omega) (by omega) (by omega)).trans h.rb,h.top⟩
theorem PB.put {fv:Value} {mm:Array Value} {W:World} {j:Nat} {v:Value} (h:PB p r g m V N w fv mm W s):PB p r g m V N w fv (mm.setIfInBounds j v) (W.setCell ⟨w.heap.size+1,j,none⟩ v) s:=by
  have ho:=h.old
  have ht:=h.top
  have hot:∀ k,k≠w.heap.size+1→(W.setCell ⟨w.heap.size+1,j,none⟩ v).heap[k]?=W.heap[k]?:=fun k hk=>heap_setCell_other _ _ _ _ hk
  exact ⟨h.pat.setBox h.mb (by decide) (by omega),h.kept.setBox (by omega),(hot _ (by omega)).trans h.pb,heap_setCell_same _ _ j mm _ v h.mb,(hot _ (by omega)).trans h.db,(hot _ (by omega)).trans h.rb,h.top⟩
theorem PB.tenv {fv v0 v1 v2 v3 v4:Value} {W:World} (h:PB p r g m V N w fv #[v0,v1,v2,v3,v4] W s) :
    W.cell? ⟨w.heap.size+1,0,none⟩=some v0∧W.cell? ⟨w.heap.size+1,1,none⟩=some v1∧W.cell? ⟨w.heap.size+1,2,none⟩=some v2∧W.cell? ⟨w.heap.size+1,3,none⟩=some v3∧W.cell? ⟨w.heap.size+1,4,none⟩=some v4 ∧
    W.cell? ⟨w.heap.size+1+1+1,0,none⟩=some (.int .i64 0)∧W.cell? ⟨w.heap.size+1+1+1,1,none⟩=some (.int .i64 0)∧W.cell? ⟨w.heap.size+1+1+1,2,none⟩=some (.bool false)∧W.cell? ⟨w.heap.size+1+1+1,3,none⟩=some (.slice none 0 0)∧W.cell? ⟨w.heap.size+1+1+1,4,none⟩=some (.slice none 0 0) ∧
    W.frozen? ⟨w.heap.size+1+1+1,0,none⟩=false∧W.frozen? ⟨w.heap.size+1+1+1,1,none⟩=false∧W.frozen? ⟨w.heap.size+1+1+1,2,none⟩=false∧W.frozen? ⟨w.heap.size+1+1+1,3,none⟩=false∧W.frozen? ⟨w.heap.size+1+1+1,4,none⟩=false:=by
  refine ⟨?_,?_,?_,?_,?_,?_,?_,?_,?_,?_,frozen_of_row _ _ _ _ _ h.rb,frozen_of_row _ _ _ _ _ h.rb,frozen_of_row _ _ _ _ _ h.rb,frozen_of_row _ _ _ _ _ h.rb,frozen_of_row _ _ _ _ _ h.rb⟩
  all_goals first | (rw [cell_of_row _ _ _ _ _ _ h.mb];rfl) | (rw [cell_of_row _ _ _ _ _ _ h.rb];rfl)
theorem PB.one {fv v0 v1 v2 v3 v4:Value} {W:World} (h:PB p r g m V N w fv #[v0,v1,v2,v3,v4] W s) :
    W.cell? ⟨w.heap.size,0,none⟩=some (.pointer (some ⟨p,0,none⟩))∧W.cell? ⟨w.heap.size+1,3,none⟩=some v3∧W.cell? ⟨w.heap.size+1,4,none⟩=some v4∧W.frozen? ⟨w.heap.size+1,3,none⟩=false∧W.frozen? ⟨w.heap.size+1,4,none⟩=false:=by
  refine ⟨?_,?_,?_,frozen_of_row _ _ _ _ _ h.mb,frozen_of_row _ _ _ _ _ h.mb⟩
  · rw [cell_of_row _ _ _ _ _ _ h.pb];rfl
  · rw [cell_of_row _ _ _ _ _ _ h.mb];rfl
  · rw [cell_of_row _ _ _ _ _ _ h.mb];rfl
theorem ports_begin (hP:PAt 2 p r g m V N w s) (fv:Value) (mm:Array Value) :
    PB p r g m V N w fv mm ((((w.alloc (.cells #[.pointer (some ⟨p,0,none⟩)] 62)).alloc (.cells mm 54)).alloc (.cells #[fv] 46)).alloc (.cells #[.int .i64 0,.int .i64 0,.bool false,.slice none 0 0,.slice none 0 0] 54)) s:=by
  have h1:=heap_alloc_new w (.cells #[.pointer (some ⟨p,0,none⟩)] 62)
  have z1:(w.alloc (.cells #[.pointer (some ⟨p,0,none⟩)] 62)).heap.size=w.heap.size+1:=by simp
  have b1:Below w.heap.size w (w.alloc (.cells #[.pointer (some ⟨p,0,none⟩)] 62)):=(Below.refl _ w).alloc (Nat.le_refl _) _
  generalize w.alloc (.cells #[.pointer (some ⟨p,0,none⟩)] 62)=w1 at *
  have h2:=heap_alloc_new w1 (.cells mm 54)
  have z2:(w1.alloc (.cells mm 54)).heap.size=w.heap.size+1+1:=by simp [z1]
  have b2:Below w.heap.size w (w1.alloc (.cells mm 54)):=b1.alloc (by omega) _
  have k1:=(Below.heap_alloc w1 (.cells mm 54) w.heap.size (by omega)).trans h1
  rw [z1] at h2
  generalize w1.alloc (.cells mm 54)=w2 at *
  have h3:=heap_alloc_new w2 (.cells #[fv] 46)
  have z3:(w2.alloc (.cells #[fv] 46)).heap.size=w.heap.size+1+1+1:=by simp [z2]
  have b3:Below w.heap.size w (w2.alloc (.cells #[fv] 46)):=b2.alloc (by omega) _
  have k1':=(Below.heap_alloc w2 (.cells #[fv] 46) w.heap.size (by omega)).trans k1
  have k2:=(Below.heap_alloc w2 (.cells #[fv] 46) (w.heap.size+1) (by omega)).trans h2
  rw [z2] at h3
  generalize w2.alloc (.cells #[fv] 46)=w3 at *
  have h4:=heap_alloc_new w3 (.cells #[.int .i64 0,.int .i64 0,.bool false,.slice none 0 0,.slice none 0 0] 54)
  rw [z3] at h4
  have b4:=b3.alloc (by omega) (.cells #[.int .i64 0,.int .i64 0,.bool false,.slice none 0 0,.slice none 0 0] 54)
  exact ⟨hP.below b4,Kept3.of_below b4,(Below.heap_alloc _ _ _ (by omega)).trans k1',(Below.heap_alloc _ _ _ (by omega)).trans k2,(Below.heap_alloc _ _ _ (by omega)).trans h3,h4,hP.top⟩
def PortsLeft (p r g:Nat) (m:Ext) (V:Int) (N:NC) (w:World) (y:PMem × Ps) (e:Ending) (w':World):Prop :=
  ∃ A c A2 c2,e=.returned (.agg #[.int .i64 y.1.ma,.int .i64 y.1.mw,.bool y.1.mn,.slice A y.1.mr.length c,.slice A2 y.1.mx.length c2])∧(RP 97 p r g 2 (PReadAt p r g) w' A c y.1.mr∧RP 99 p r g 3 (PWriteAt p r g) w' A2 c2 y.1.mx)∧PAt 2 p r g m V N w' y.2∧Kept3 p r g w w'
theorem rp_read_box {q j:Nat} {cs:Array Value} {A:Option Addr} {c:Nat} {xs:List PRead} {v:Value} (h:RP 97 p r g 2 (PReadAt p r g) w A c xs) (hq:w.heap[q]?=some (.cells cs 54 (0,0))):RP 97 p r g 2 (PReadAt p r g) (w.setCell ⟨q,j,none⟩ v) A c xs:=by
  have hd:Data (fun t=>t=97∨t=3) w (w.setCell ⟨q,j,none⟩ v):=Data.setBox hq (by decide)
  refine hd.rp (.inl rfl) (fun b o x hb hx=>?_) h
  obtain ⟨a,c,h1,h2,h3⟩:=hx
  exact ⟨a,c,(hd.cell (.inl rfl) hb).trans h1,(hd.cell (.inl rfl) hb).trans h2,hd.lp (.inr rfl) h3⟩
theorem rp_write_box {q j:Nat} {cs:Array Value} {A:Option Addr} {c:Nat} {xs:List PWrite} {v:Value} (h:RP 99 p r g 3 (PWriteAt p r g) w A c xs) (hq:w.heap[q]?=some (.cells cs 54 (0,0))):RP 99 p r g 3 (PWriteAt p r g) (w.setCell ⟨q,j,none⟩ v) A c xs:=by
  have hd:Data (fun t=>t=99∨t=3) w (w.setCell ⟨q,j,none⟩ v):=Data.setBox hq (by decide)
  refine hd.rp (.inl rfl) (fun b o x hb hx=>?_) h
  obtain ⟨a,c,a2,c2,h1,h2,h3,h4,h5⟩:=hx
  exact ⟨a,c,a2,c2,(hd.cell (.inl rfl) hb).trans h1,(hd.cell (.inl rfl) hb).trans h2,(hd.cell (.inl rfl) hb).trans h3,hd.lp (.inr rfl) h4,hd.lp (.inr rfl) h5⟩
theorem PB.fin {fv:Value} {mm:Array Value} {W:World} {A A2:Option Addr} {c c2:Nat} {lr:List PRead} {lx:List PWrite} (h:PB p r g m V N w fv mm W s) (v0 v1 v2 v3 v4:Value) (hR:RP 97 p r g 2 (PReadAt p r g) W A c lr) (hX:RP 99 p r g 3 (PWriteAt p r g) W A2 c2 lx) :
    (((((W.setCell ⟨w.heap.size+1+1+1,0,none⟩ v0).setCell ⟨w.heap.size+1+1+1,1,none⟩ v1).setCell ⟨w.heap.size+1+1+1,2,none⟩ v2).setCell ⟨w.heap.size+1+1+1,3,none⟩ v3).setCell ⟨w.heap.size+1+1+1,4,none⟩ v4).heap[w.heap.size+1+1+1]?=some (.cells #[v0,v1,v2,v3,v4] 54 (0,0))∧RP 97 p r g 2 (PReadAt p r g) (((((W.setCell ⟨w.heap.size+1+1+1,0,none⟩ v0).setCell ⟨w.heap.size+1+1+1,1,none⟩ v1).setCell ⟨w.heap.size+1+1+1,2,none⟩ v2).setCell ⟨w.heap.size+1+1+1,3,none⟩ v3).setCell ⟨w.heap.size+1+1+1,4,none⟩ v4) A c lr∧RP 99 p r g 3 (PWriteAt p r g) (((((W.setCell ⟨w.heap.size+1+1+1,0,none⟩ v0).setCell ⟨w.heap.size+1+1+1,1,none⟩ v1).setCell ⟨w.heap.size+1+1+1,2,none⟩ v2).setCell ⟨w.heap.size+1+1+1,3,none⟩ v3).setCell ⟨w.heap.size+1+1+1,4,none⟩ v4) A2 c2 lx∧PAt 2 p r g m V N (((((W.setCell ⟨w.heap.size+1+1+1,0,none⟩ v0).setCell ⟨w.heap.size+1+1+1,1,none⟩ v1).setCell ⟨w.heap.size+1+1+1,2,none⟩ v2).setCell ⟨w.heap.size+1+1+1,3,none⟩ v3).setCell ⟨w.heap.size+1+1+1,4,none⟩ v4) s∧Kept3 p r g w (((((W.setCell ⟨w.heap.size+1+1+1,0,none⟩ v0).setCell ⟨w.heap.size+1+1+1,1,none⟩ v1).setCell ⟨w.heap.size+1+1+1,2,none⟩ v2).setCell ⟨w.heap.size+1+1+1,3,none⟩ v3).setCell ⟨w.heap.size+1+1+1,4,none⟩ v4):=by
  have ho:=h.old
  have ht:=h.top
  have k0:=heap_setCell_same _ (w.heap.size+1+1+1) 0 _ _ v0 h.rb
  have k1:=heap_setCell_same _ (w.heap.size+1+1+1) 1 _ _ v1 k0
  have k2:=heap_setCell_same _ (w.heap.size+1+1+1) 2 _ _ v2 k1
  have k3:=heap_setCell_same _ (w.heap.size+1+1+1) 3 _ _ v3 k2
  have k4:=heap_setCell_same _ (w.heap.size+1+1+1) 4 _ _ v4 k3
  refine ⟨k4,?_,?_,?_,?_⟩
  · exact rp_read_box (rp_read_box (rp_read_box (rp_read_box (rp_read_box hR h.rb) k0) k1) k2) k3
  · exact rp_write_box (rp_write_box (rp_write_box (rp_write_box (rp_write_box hX h.rb) k0) k1) k2) k3
  · have q0:=h.pat.setBox (j:=0) (v:=v0) h.rb (by decide) (by omega)
    have q1:=q0.setBox (j:=1) (v:=v1) k0 (by decide) (by omega)
    have q2:=q1.setBox (j:=2) (v:=v2) k1 (by decide) (by omega)
    have q3:=q2.setBox (j:=3) (v:=v3) k2 (by decide) (by omega)
    exact q3.setBox (j:=4) (v:=v4) k3 (by decide) (by omega)
  · exact ((((h.kept.setBox (by omega)).setBox (by omega)).setBox (by omega)).setBox (by omega)).setBox (by omega)
set_option maxRecDepth 100000 in
set_option maxHeartbeats 8000000 in
theorem portsA_any {q:Nat} (x:PShape) (hx:x.good) (A0 B0:Option Addr) (h:PAt 2 p r g (marksE q p g V) V N w s) :
    Calls Tryz.prog 130 #[.pointer (some ⟨p,0,none⟩),.agg #[.int .i64 x.sa,.int .i64 x.sw,.bool x.sn,.slice A0 x.sr.toNat x.sr.toNat,.slice B0 x.sx.toNat x.sx.toNat],(.func (.func 131) #[.pointer (some ⟨q,0,none⟩)] #[])] w (PortsLeft p r g (marksE q p g V) V N w (s.ports (fun k t=>t.nextDef V k) V x)):=by
  obtain ⟨⟨a0,a1⟩,⟨w0,w1⟩,⟨r0,r1⟩,⟨x0,x1⟩⟩:=hx
  obtain ⟨a,ha⟩:∃ a:Nat,(a:Int)=x.sa:=⟨x.sa.toNat,by omega⟩
  obtain ⟨wd,hwd⟩:∃ a:Nat,(a:Int)=x.sw:=⟨x.sw.toNat,by omega⟩
  obtain ⟨nr,hnr⟩:∃ a:Nat,(a:Int)=x.sr:=⟨x.sr.toNat,by omega⟩
  obtain ⟨nx,hnx⟩:∃ a:Nat,(a:Int)=x.sx:=⟨x.sx.toNat,by omega⟩
  obtain ⟨sa,sw,sn,sr,sx⟩:=x
  dsimp only at *
  subst ha hwd hnr hnx
  have hr:s.ports (fun k t=>t.nextDef V k) V ⟨(a:Int),(wd:Int),sn,(nr:Int),(nx:Int)⟩=(⟨(a:Int),(wd:Int),sn,(s.lines (fun t=>t.read ((fun k t=>t.nextDef V k) wd) V a) nr).1,((s.lines (fun t=>t.read ((fun k t=>t.nextDef V k) wd) V a) nr).2.lines (fun t=>t.write V a wd) nx).1⟩,((s.lines (fun t=>t.read ((fun k t=>t.nextDef V k) wd) V a) nr).2.lines (fun t=>t.write V a wd) nx).2):=by
    unfold Ps.ports
    simp only [Int.toNat_natCast]
  rw [hr]
  simp only [Int.toNat_natCast]
  have HB:=Lib.hid (ports_begin h (.func (.func 131) #[.pointer (some ⟨q,0,none⟩)] #[]) #[.int .i64 (a:Int),.int .i64 (wd:Int),.bool sn,.slice A0 nr nr,.slice B0 nx nx])
  obtain ⟨⟨lr,s1⟩,e1⟩:∃ y,s.lines (fun t=>t.read ((fun k t=>t.nextDef V k) wd) V a) nr=y:=⟨_,rfl⟩
  rw [e1]
  obtain ⟨⟨lx,s2⟩,e2⟩:∃ y,s1.lines (fun t=>t.write V a wd) nx=y:=⟨_,rfl⟩
  rw [e2]
  have HE:=Lib.hid (And.intro e1 e2)
  have q0:=HB.out.old
  have hge:=HB.out.kept.size
  obtain ⟨j0,j3,j4,-,-⟩:=HB.out.one
  clear hr e1 e2 h
  go_enter Tryz.func130,Tryz.ntmps130
  go_wp2_with (first
    | (go_at_call 186;refine (lines_read (p:=p) nr _ ⟨_,_,_,rfl⟩ _).mono ?_;rintro e w5 ⟨b5,hb5,rfl,hC,hL,hb,hsz⟩;have hB:=HB.out.step (HB.out.pat.below hb) (Kept3.of_below hb);have HC5:=Lib.hid (And.intro hC (And.intro hL (And.intro hB hb5)));simp only [World.size_alloc] at hb5;have HZ5:=Lib.hid (And.intro hb5 hsz);clear hC hL hb hsz hB HB hb5 j0 j3 j4)
    | (go_at_call 185;have hc:=coll_read (lb:=b5+1) (qb:=b5) (cnt:=nr) (by omega) (Ps.ln (fun t=>t.read ((fun k t=>t.nextDef V k) wd) V a)) (fun W=>CaughtL (b5+1) b5 p 225 (.func (.func 187) #[] #[.pointer (some ⟨w.heap.size,0,none⟩),.pointer (some ⟨w.heap.size+1+1,0,none⟩),.pointer (some ⟨w.heap.size+1,0,none⟩)]) W∧CaughtM w.heap.size (w.heap.size+1) p a wd sn (.slice A0 nr nr) (.slice B0 nx nx) W∧CaughtD (w.heap.size+1+1) (.func (.func 131) #[.pointer (some ⟨q,0,none⟩)] #[]) W) (fun A B h hk=>⟨h.1.kept hk (by have:=HZ5.out;omega),h.2.1.kept hk (by omega),h.2.2.kept hk (by omega)⟩) ((old_caughtL HC5.out.2.1.lt (by have:=HZ5.out;omega)).and ((old_caughtM (CaughtM.lt ⟨HC5.out.2.2.1.pb,HC5.out.2.2.1.mb⟩) (by omega)).and (old_caughtD (lt_of_row HC5.out.2.2.1.db) (by omega)))) (line_read (q:=q) (db:=w.heap.size+1+1) (fb:=w.heap.size) (mb:=w.heap.size+1) (nn:=sn) (by omega) (by omega) (by omega) (by omega) (b5+1) b5 (by have:=HZ5.out;omega)) HC5.out.2.2.1.pat HC5.out.1 ⟨HC5.out.2.1,⟨HC5.out.2.2.1.pb,HC5.out.2.2.1.mb⟩,HC5.out.2.2.1.db⟩ (by have:=HZ5.out;omega);rw [Ps.parts_ln,HE.out.1] at hc;refine hc.mono ?_;clear hc;rintro e w6 ⟨A,c,rfl,hR,hP,hK⟩;have hB6:=HC5.out.2.2.1.step hP hK;obtain ⟨-,c3,-,f3,-⟩:=hB6.one;have hB7:=hB6.put (j:=3) (v:=.slice A lr.length c);have hR7:=rp_read_box (j:=3) (v:=.slice A lr.length c) hR hB6.mb;obtain ⟨c7,-,c8,-,-⟩:=hB7.one;have HB7:=Lib.hid (And.intro hB7 hR7);clear hR hP hK hB6 hB7 hR7 HC5 HZ5)
    | (go_at_call 190;refine (lines_write (p:=p) nx _ ⟨_,_,_,rfl⟩ _).mono ?_;rintro e w8 ⟨b8,hb8,rfl,hC,hL,hb,hsz⟩;have hge8:=HB7.out.1.kept.size;have HC8:=Lib.hid (And.intro hC (And.intro hL (And.intro (HB7.out.1.step (HB7.out.1.pat.below hb) (Kept3.of_below hb)) (HB7.out.2.kept (read_stays p r g) (Kept3.of_below hb)))));have hlr8:=lt_of_row HB7.out.1.rb;have HZ8:=Lib.hid (show w.heap.size+1+1+1<b8∧w8.heap.size=b8+5 from by omega);clear hC hL hb hsz c3 f3 c7 c8 HB7 hge8 hb8 hlr8)
    | (go_at_call 189;have hc:=coll_write (lb:=b8+1) (qb:=b8) (cnt:=nx) (by omega) (Ps.ln (fun t=>t.write V a wd)) (fun W=>CaughtL (b8+1) b8 p 230 (.func (.func 191) #[] #[.pointer (some ⟨w.heap.size,0,none⟩),.pointer (some ⟨w.heap.size+1,0,none⟩)]) W∧CaughtM w.heap.size (w.heap.size+1) p a wd sn (.slice A lr.length c) (.slice B0 nx nx) W) (fun A B h hk=>⟨h.1.kept hk (by have:=HZ8.out;omega),h.2.kept hk (by omega)⟩) ((old_caughtL HC8.out.2.1.lt (by have:=HZ8.out;omega)).and (old_caughtM (CaughtM.lt ⟨HC8.out.2.2.1.pb,HC8.out.2.2.1.mb⟩) (by omega))) (line_write (by omega) (by omega) (by omega) (b8+1) b8 (by have:=HZ8.out;omega)) HC8.out.2.2.1.pat HC8.out.1 ⟨HC8.out.2.1,⟨HC8.out.2.2.1.pb,HC8.out.2.2.1.mb⟩⟩ (by have:=HZ8.out;omega);rw [Ps.parts_ln,HE.out.2] at hc;refine hc.mono ?_;clear hc;rintro e w9 ⟨A2,c2,rfl,hR,hP,hK⟩;have hB9:=HC8.out.2.2.1.step hP hK;have hR9:=HC8.out.2.2.2.kept (read_stays p r g) hK;obtain ⟨-,-,c4,-,f4⟩:=hB9.one;have hB10:=hB9.put (j:=4) (v:=.slice A2 lx.length c2);have HB10:=Lib.hid (And.intro hB10 (And.intro (rp_read_box (j:=4) (v:=.slice A2 lx.length c2) hR9 hB9.mb) (rp_write_box (j:=4) (v:=.slice A2 lx.length c2) hR hB9.mb)));obtain ⟨u0,u1,u2,u3,u4,z0,z1,z2,z3,z4,y0,y1,y2,y3,y4⟩:=hB10.tenv;clear hR hP hK hB9 hR9 hB10 HC8 HZ8))
  try simp only [Exit.inBlock,Exit.then]
  have HF:=HB10.out.1.fin (.int .i64 a) (.int .i64 wd) (.bool sn) (.slice A lr.length c) (.slice A2 lx.length c2) HB10.out.2.1 HB10.out.2.2
  refine bodyPost_ret (results_cell_row rfl _ _ (w.heap.size+1+1+1) 54 _ (0,0) _ rfl HF.1 Tryz.underlying54 rfl (by kernel_rfl)) rfl ?_
  exact ⟨A,c,A2,c2,rfl,⟨HF.2.1,HF.2.2.1⟩,HF.2.2.2.1,HF.2.2.2.2⟩
end
end Go.Proofs.YtldnepogjnahfaaGreatDoor
