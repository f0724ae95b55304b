/- Package scan's reader by contracts: what each method answers of what is left, and where the reader stands behind it (conditions: the reader's row lies in memory, and what is left can be read); Contracts of Byte and Peek, of isDigit and above, and of all at a nil reader (conditions: the reader's row lies in memory, and what is left can be read); The contract of Want: a text is read if it comes next, else the first place is told where another byte stands, or none (conditions: the reader's row lies in memory; texts of at most 1000 bytes); The contract of Number: the number that comes next is read if it is at most 'most' and has no further zero ahead (conditions: the reader's row lies in memory; what is left are bytes; most is an int64). -/
import Derived.Test.YtldnepogjnahfaaGreatDoorRows
import Derived.WalkKit
import Derived.ProofKit
import Derived.OpenShut
import Derived.Below
import Derived.WalkLawsBesides
import Derived.Lib.Hide
import Derived.Lib.OwnBridge
import Derived.Outline
import Derived.Deep.LoopGhost
import Derived.Deep.QuietTactic
import Derived.BigQuiet
import Derived.Laws.Rows
import Derived.RegionTactic
namespace Go.Proofs.YtldnepogjnahfaaGreatDoor.Sc
open Go.ChangeShapes Go.WideShapes Go.RowKit
set_option linter.unusedVariables false
theorem lt_of_row {w:World} {b:Nat} {o:Obj} (h:w.heap[b]?=some o):b<w.heap.size:=by
  rcases Nat.lt_or_ge b w.heap.size with h1 | h1
  · exact h1
  · simp [Array.getElem?_eq_none h1] at h
structure Only (r:Nat) (w w':World):Prop where
  os:w'.os=w.os
  tape:w'.tape=w.tape
  output:w'.output=w.output
  size:w.heap.size≤w'.heap.size
  block:∀ k,k<w.heap.size→k≠r→w'.heap[k]?=w.heap[k]?
theorem Only.refl (r:Nat) (w:World):Only r w w:=⟨rfl,rfl,rfl,Nat.le_refl _,fun _ _ _=>rfl⟩
theorem Only.trans {r:Nat} {a b c:World} (h:Only r a b) (k:Only r b c):Only r a c :=
  ⟨k.os.trans h.os,k.tape.trans h.tape,k.output.trans h.output,Nat.le_trans h.size k.size,fun i hi hn=>(k.block i (by have:=h.size;omega) hn).trans (h.block i hi hn)⟩
theorem Only.of_below {r:Nat} {w w':World} (h:Below w.heap.size w w'):Only r w w':=⟨h.os,h.tape,h.output,h.size,fun k hk _=>h.block k hk⟩
theorem Only.drewN {r:Nat} {a w:World} (h:Only r a w) (n:Nat):Only r a (w.drewN n):=h.trans (Only.of_below (below_drewN (Below.refl _ _) n))
theorem Only.setCell {r:Nat} {a w:World} (h:Only r a w) (j:Nat) (v:Value):Only r a (w.setCell ⟨r,j,none⟩ v) :=
  ⟨h.os,h.tape,h.output,by simpa using h.size,fun k hk hn=>by rw [heap_setCell_other _ _ _ _ (by simpa using hn)];exact h.block k hk hn⟩
def Src (w:World) (B:Nat) (a:Option Addr) (l:List Int):Prop:=l≠[]→∃ b o,a=some ⟨b,o,none⟩∧b<B∧b<w.heap.size∧∀ j,j<l.length→w.cell? ⟨b,o+j,none⟩=some (.int .u8 (l.getD j 0))
theorem Src.keep {w w':World} {B r:Nat} {a:Option Addr} {l:List Int} (h:Src w B a l) (hw:∀ k,k<w.heap.size→k≠r→w'.heap[k]?=w.heap[k]?) (hs:w.heap.size≤w'.heap.size) (hB:B≤r):Src w' B a l:=fun hl=>by
  obtain ⟨b,o,h1,h2,h3,h4⟩:=h hl
  exact ⟨b,o,h1,h2,by omega,fun j hj=>(World.cell?_of_block (w:=w) (hw b h3 (by omega))).trans (h4 j hj)⟩
theorem Src.only {w w':World} {B r:Nat} {a:Option Addr} {l:List Int} (h:Src w B a l) (hw:Only r w w') (hB:B≤r):Src w' B a l:=h.keep hw.block hw.size hB
theorem Src.mono {w:World} {B B':Nat} {a:Option Addr} {l:List Int} (h:Src w B a l) (hB:B≤B'):Src w B' a l:=fun hl=>by
  obtain ⟨b,o,h1,h2,h3,h4⟩:=h hl
  exact ⟨b,o,h1,by omega,h3,h4⟩
def Rd (w:World) (r:Nat) (l:List Int) (i:Nat):Prop :=
  ∃ a c,w.heap[r]?=some (.cells #[.slice a l.length c,.int .i64 i] 170 (0,0))∧l.length≤c∧c≤9223372036854775807∧i≤1000000∧l.length≤1000000∧Src w r a l
theorem Rd.below {w w':World} {r:Nat} {l:List Int} {i:Nat} (h:Rd w r l i) (hw:Below w.heap.size w w'):Rd w' r l i:=by
  obtain ⟨a,c,h1,h2,h3,h4,h5,h6⟩:=h
  exact ⟨a,c,(hw.block r (lt_of_row h1)).trans h1,h2,h3,h4,h5,h6.keep (fun k hk _=>hw.block k hk) hw.size (Nat.le_refl _)⟩
theorem left_any (r:Nat) (l:List Int) (i:Nat) (w:World) (h:Rd w r l i):Calls Tryz.prog 195 #[.pointer (some ⟨r,0,none⟩)] w fun e w'=>e=.returned (.int .i64 l.length)∧w=w':=by
  obtain ⟨a,c,h1,h2,h3,h4,h5,h6⟩:=h
  have k0:w.cell? ⟨r,0,none⟩=some (.slice a l.length c):=by rw [cell_of_row _ _ _ _ _ _ h1];rfl
  clear h1 h6
  go_enter Tryz.func195,Tryz.ntmps195
  go_wp2
  go_ret
  exact ⟨rfl,rfl⟩
theorem at_any (r:Nat) (l:List Int) (i:Nat) (w:World) (h:Rd w r l i):Calls Tryz.prog 168 #[.pointer (some ⟨r,0,none⟩)] w fun e w'=>e=.returned (.int .i64 i)∧w=w':=by
  obtain ⟨a,c,h1,h2,h3,h4,h5,h6⟩:=h
  have k0:w.cell? ⟨r,1,none⟩=some (.int .i64 i):=by rw [cell_of_row _ _ _ _ _ _ h1];rfl
  clear h1 h6
  go_enter Tryz.func168,Tryz.ntmps168
  go_wp2
  go_ret
  exact ⟨rfl,rfl⟩
theorem cells_u8:Tryz.prog.cellsOf 5=1:=by kernel_rfl
theorem size_u8 (w:World):(Go.sizeOf 5).run Tryz.prog w=.ok 1 w:=by kernel_rfl
def taddr (a:Option Addr) (c k:Nat):Option Addr:=if c=k then a else a.map (·.add k)
theorem run_tail (w:World) (a:Option Addr) (n c k:Nat) (hk:k≤n):(Instr.slice 30 (.slice a n c) (some (.int .i64 (k:Int))) none none).run Tryz.prog w=.ok (.slice (taddr a c k) (n - k) (c - k)) w:=by
  have ht':Tryz.prog.underlying 30=some (.slice (Tryz.prog.elem 30)):=by kernel_rfl
  have he:Tryz.prog.elem 30=5:=by kernel_rfl
  rw [run_slice_l w 30 a n c ht' .i64 _ (by omega) (by omega),he,size_u8]
  simp [Result.andThen,sliced,taddr]
theorem skip_any (r k:Nat) (l:List Int) (i:Nat) (w:World) (h:Rd w r l i) (hk:k≤l.length) (hi:i+k≤1000000):Calls Tryz.prog 213 #[.pointer (some ⟨r,0,none⟩),.int .i64 k] w fun e w'=>e=.returned (.tuple #[])∧Rd w' r (l.drop k) (i+k)∧Only r w w':=by
  obtain ⟨a,c,h1,h2,h3,h4,h5,h6⟩:=h
  have k0:w.cell? ⟨r,0,none⟩=some (.slice a l.length c):=by rw [cell_of_row _ _ _ _ _ _ h1];rfl
  have f0:w.frozen? ⟨r,0,none⟩=false:=frozen_of_row _ _ _ _ _ h1
  have rt:=fun W:World=>run_tail W a l.length c k hk
  have row1:=heap_setCell_same w r 0 _ _ (.slice (taddr a c k) (l.length - k) (c - k)) h1
  have k1:(w.setCell ⟨r,0,none⟩ (.slice (taddr a c k) (l.length - k) (c - k))).cell? ⟨r,1,none⟩=some (.int .i64 i):=by rw [cell_of_row _ _ _ _ _ _ row1];rfl
  have f1:(w.setCell ⟨r,0,none⟩ (.slice (taddr a c k) (l.length - k) (c - k))).frozen? ⟨r,1,none⟩=false:=frozen_of_row _ _ _ _ _ row1
  have row2:=heap_setCell_same _ r 1 _ _ (.int .i64 ((i+k:Nat):Int)) row1
  have fin:Rd ((w.setCell ⟨r,0,none⟩ (.slice (taddr a c k) (l.length - k) (c - k))).setCell ⟨r,1,none⟩ (.int .i64 ((i+k:Nat):Int))) r (l.drop k) (i+k):=by
    have ho:Only r w ((w.setCell ⟨r,0,none⟩ (.slice (taddr a c k) (l.length - k) (c - k))).setCell ⟨r,1,none⟩ (.int .i64 ((i+k:Nat):Int))):=((Only.refl r w).setCell 0 _).setCell 1 _
    refine ⟨taddr a c k,c - k,?_,by rw [List.length_drop];omega,by omega,by omega,by rw [List.length_drop];omega,fun hne=>?_⟩
    · rw [row2,List.length_drop];rfl
    · have hkl:k<l.length:=by
        rcases Nat.lt_or_ge k l.length with h | h
        · exact h
        · exact absurd (List.drop_eq_nil_of_le h) hne
      obtain ⟨b,o,rfl,hb,hb2,hc⟩:=h6.only ho (Nat.le_refl _) (by intro e;subst e;simp at hkl)
      refine ⟨b,o+k,?_,hb,hb2,fun j hj=>?_⟩
      · unfold taddr;rw [if_neg (by omega)];simp [Addr.add_lit]
      · rw [List.length_drop] at hj
        have:=hc (k+j) (by omega)
        rw [Nat.add_assoc,this]
        simp [List.getD]
  have FIN:=Lib.hid fin
  have hi2:((i+k:Nat):Int)=(i:Int)+(k:Int):=by omega
  have hio:Hid ((i:Int)+(k:Int)=((i+k:Nat):Int)):=Lib.hid hi2.symm
  clear row1 row2 fin h1 h6
  generalize taddr a c k=T at *
  go_enter Tryz.func213,Tryz.ntmps213
  go_wp2
  go_end0
  have e:(i:Int)+(k:Int)=((i+k:Nat):Int):=hio.out
  simp only [e]
  exact ⟨trivial,FIN.out,((Only.refl r w).setCell 0 _).setCell 1 _⟩
theorem Rd.head {w:World} {r i:Nat} {x:Int} {l:List Int} (h:Rd w r (x::l) i) :
    ∃ b o c,w.cell? ⟨r,0,none⟩=some (.slice (some ⟨b,o,none⟩) (l.length+1) c)∧w.cell? ⟨r,1,none⟩=some (.int .i64 i)∧w.cell? ⟨b,o,none⟩=some (.int .u8 x):=by
  obtain ⟨a,c,h1,h2,h3,h4,h5,h6⟩:=h
  obtain ⟨b,o,rfl,hb,hb2,hc⟩:=h6 (by simp)
  exact ⟨b,o,c,by rw [cell_of_row _ _ _ _ _ _ h1];rfl,by rw [cell_of_row _ _ _ _ _ _ h1];rfl,hc 0 (by simp)⟩
def isDig (x:Int):Bool:=decide (48≤x) && decide (x≤57)
theorem isDigit_any (x:Int) (w:World):Calls Tryz.prog 246 #[.int .u8 x] w fun e w'=>e=.returned (.bool (isDig x))∧w=w':=by
  by_cases h1:48≤x
  all_goals
    go_enter Tryz.func246,Tryz.ntmps246
    go_wp2
    go_ret
    exact ⟨by first | (simp [isDig,h1];done) | (simp [isDig];omega),rfl⟩
def big (v d most:Int):Bool:=decide (most<d) || decide ((most - d) / 10<v)
theorem above_any (v d most:Int) (hd0:0≤d) (hd:d≤9) (hm:-9223372036854775808≤most) (hm2:most<9223372036854775808) (w:World):Calls Tryz.prog 247 #[.int .i64 v,.int .i64 d,.int .i64 most] w fun e w'=>e=.returned (.bool (big v d most))∧w=w':=by
  by_cases h1:most<d
  all_goals
    go_enter Tryz.func247,Tryz.ntmps247
    go_wp2
    go_ret
    exact ⟨by first | (simp [big,h1];done) | (simp [big];omega),rfl⟩
def sbytes (s:ByteArray):List Int:=s.data.toList.map fun b=>(b.toNat:Int)
theorem sbytes_len (s:ByteArray):(sbytes s).length=s.size:=by simp [sbytes]
theorem sbytes_at (s:ByteArray) (k:Nat) (h:k<s.size):(sbytes s).getD k 0=(s[k].toNat:Int):=by
  have h2:k<s.data.toList.length:=by simpa using h
  simp [sbytes,List.getD,h]
  rfl
def mat:List Int→List Int→Nat
  | x::xs,y::ys=>if x=y then mat xs ys+1 else 0
  | _,_=>0
theorem mat_eq (l bs:List Int) (k:Nat) (h:∀ j,j<k→l.getD j 0=bs.getD j 0) (h1:k≤l.length) (h2:k≤bs.length) (h3:k=bs.length∨k=l.length∨l.getD k 0≠bs.getD k 0):mat l bs=k:=by
  induction k generalizing l bs with
  | zero =>
    cases l with
    | nil=>unfold mat;rfl
    | cons x xs =>
      cases bs with
      | nil=>unfold mat;rfl
      | cons y ys =>
        rcases h3 with h3 | h3 | h3
        · simp at h3
        · simp at h3
        · unfold mat;rw [if_neg (by simpa using h3)]
  | succ k ih =>
    cases l with
    | nil=>simp at h1
    | cons x xs =>
      cases bs with
      | nil=>simp at h2
      | cons y ys =>
        have h0:x=y:=by simpa using h 0 (by omega)
        have:=ih xs ys (fun j hj=>by simpa using h (j+1) (by omega)) (by simpa using h1) (by simpa using h2) (by
          rcases h3 with h3 | h3 | h3
          · exact .inl (by simpa using h3)
          · exact .inr (.inl (by simpa using h3))
          · exact .inr (.inr (by simpa using h3)))
        unfold mat
        rw [if_pos h0,this]
def wantA (l bs:List Int) (i:Nat):Int × Int :=
  if mat l bs=bs.length then (-1,0) else if mat l bs=l.length then (((i+mat l bs:Nat):Int),12) else (((i+mat l bs:Nat):Int),2)
def wantN (l bs:List Int):Nat:=if mat l bs=bs.length then bs.length else 0
def two (x:Int × Int):Value:=.tuple #[.int .i64 x.1,.int .i64 x.2]
def Reads (r:Nat) (w:World) (v:Value) (l:List Int) (i:Nat) (e:Ending) (w':World):Prop:=e=.returned v∧Rd w' r l i∧Only r w w'
theorem want_any (r i:Nat) (l:List Int) (s:ByteArray) (w:World) (h:Rd w r l i) (hs:s.size≤1000) (hi:i≤400000) :
    Calls Tryz.prog 170 #[.pointer (some ⟨r,0,none⟩),.string s] w (Reads r w (two (wantA l (sbytes s) i)) (l.drop (wantN l (sbytes s))) (i+wantN l (sbytes s))):=by
  have H:=Lib.hid h
  obtain ⟨a,c,h1,h2,h3,h4,h5,h6⟩:=h
  have k0:w.cell? ⟨r,0,none⟩=some (.slice a l.length c):=by rw [cell_of_row _ _ _ _ _ _ h1];rfl
  have k1:w.cell? ⟨r,1,none⟩=some (.int .i64 i):=by rw [cell_of_row _ _ _ _ _ _ h1];rfl
  have H6:=Lib.hid h6
  have hsk:=Lib.hid (fun W k (h:Rd W r l i) hk=>skip_any r k l i W h hk)
  have hbl:=Lib.hid (sbytes_len s)
  have hd:∀ n,Rd (w.drewN n) r l i:=fun n=>H.out.below (below_drewN (Below.refl _ _) n)
  have HD:=Lib.hid hd
  have hix0:∀ (W:World) (k:Nat),k<s.size→(Instr.index 9 (.string s) (.int .i64 (k:Int))).run Tryz.prog W=.ok (.int .u8 ((sbytes s).getD k 0)) W:=fun W k hk=>by
    rw [run_index_string W 9 s .i64 k Tryz.underlying9,dif_pos ⟨by omega,by omega⟩,sbytes_at s k hk]
    rfl
  have HX:=Lib.hid hix0
  have hsz:(0:Int)≤(s.size:Int):=by omega
  have hi0:(0:Int)≤(i:Int):=by omega
  clear h1 h6 hix0 hd
  go_enter Tryz.func170,Tryz.ntmps170
  go_wp2_with fail
  go_loopg [11] (s.size) (fun m s11 wx=>∃ k n:Nat,k+m=s.size∧s11=.int .i64 k∧Aside (∀ j,j<k→j<l.length∧l.getD j 0=(sbytes s).getD j 0)∧wx=w.drewN n)
  case atStart=>exact ⟨0,0,by omega,rfl,fun j hj=>by omega,rfl⟩
  case round =>
    obtain ⟨k,n,hk,rfl,HI,rfl⟩:=hrel
    generalize gk=m at *
    have hk0:(0:Int)≤(k:Int):=by omega
    by_cases hlt:k<s.size
    · by_cases hkl:k=l.length
      · have hm:mat l (sbytes s)=k:=mat_eq l _ k (fun j hj=>(HI.out j hj).2) (by omega) (by rw [hbl.out];omega) (.inr (.inl hkl))
        have hR:wantN l (sbytes s)=0:=by unfold wantN;rw [if_neg (by rw [hm,hbl.out];omega)]
        have hA:wantA l (sbytes s) i=(((i+k:Nat):Int),12):=by unfold wantA;rw [if_neg (by rw [hm,hbl.out];omega),hm,if_pos hkl]
        have HR:=Lib.hid hR
        have HA:=Lib.hid hA
        have hki:(k:Int)=(l.length:Int):=by omega
        clear hR hA hm HI
        go_wp2_with fail
        go_ret2
        refine ⟨?_,?_,(Only.refl r w).drewN n⟩
        · rw [HA.out];unfold two;simp;omega
        · rw [HR.out];exact HD.out n
      · have hkl2:k<l.length:=by
          rcases Nat.eq_zero_or_pos k with h0 | h0
          · omega
          · have:=(HI.out (k - 1) (by omega)).1;omega
        have hne:(k:Int)≠(l.length:Int):=by omega
        have hklI:(k:Int)<(l.length:Int):=by omega
        obtain ⟨b,o,rfl,hb,hb2,hc⟩:=H6.out (by intro e;subst e;simp at hkl2)
        have hcell:=hc k hkl2
        have hix:=HX.out
        have hixk:=fun W=>hix W k hlt
        have HK:=Lib.hid hkl2
        clear hc hix
        by_cases hxy:l.getD k 0=(sbytes s).getD k 0
        · have HI2:=Lib.hid (show ∀ j,j<k+1→j<l.length∧l.getD j 0=(sbytes s).getD j 0 from fun j hj=>by
            by_cases e:j=k
            · subst e;exact ⟨HK.out,hxy⟩
            · exact HI.out j (by omega))
          rw [hxy] at hcell
          generalize (sbytes s).getD k 0=y at hcell hixk
          clear hxy HI
          go_wp2_with fail
          go_quiet (fail)
          go_wp2_with fail
          go_roundg (m - 1)
          case measure=>omega
          case rel=>exact ⟨k+1,_,by omega,by first | rfl | simp,HI2.out,rfl⟩
        · have hm:mat l (sbytes s)=k:=mat_eq l _ k (fun j hj=>(HI.out j hj).2) (by omega) (by rw [hbl.out];omega) (.inr (.inr hxy))
          have hR:wantN l (sbytes s)=0:=by unfold wantN;rw [if_neg (by rw [hm,hbl.out];omega)]
          have hA:wantA l (sbytes s) i=(((i+k:Nat):Int),2):=by unfold wantA;rw [if_neg (by rw [hm,hbl.out];omega),hm,if_neg (by omega)]
          have HR:=Lib.hid hR
          have HA:=Lib.hid hA
          clear hR hA hm HI
          generalize (sbytes s).getD k 0=y at hixk hxy
          generalize l.getD k 0=x at hcell hxy
          go_wp2_with fail
          go_quiet (fail)
          go_wp2_with fail
          go_ret2
          refine ⟨?_,?_,(Only.refl r w).drewN _⟩
          · rw [HA.out];unfold two;simp
          · rw [HR.out];exact HD.out _
    · have hks:k=s.size:=by omega
      have hkl:k≤l.length:=by
        rcases Nat.eq_zero_or_pos k with h0 | h0
        · omega
        · have:=(HI.out (k - 1) (by omega)).1;omega
      have hm:mat l (sbytes s)=k:=mat_eq l _ k (fun j hj=>(HI.out j hj).2) hkl (by rw [hbl.out];omega) (.inl (by rw [hbl.out];omega))
      have hR:wantN l (sbytes s)=s.size:=by unfold wantN;rw [if_pos (by rw [hm,hbl.out];omega),hbl.out]
      have hA:wantA l (sbytes s) i=(-1,0):=by unfold wantA;rw [if_pos (by rw [hm,hbl.out];omega)]
      have HR:=Lib.hid hR
      have HA:=Lib.hid hA
      have h2:=Lib.hid (hsk.out _ s.size (HD.out n) (by omega) (by omega))
      clear hR hA hm HI
      go_wp2_with fail
      refine h2.out.mono ?_
      rintro e w' ⟨rfl,hR,hO⟩
      have HO:=Lib.hid (And.intro hR hO)
      clear hR hO
      go_wp2_with fail
      go_ret2
      refine ⟨?_,?_,((Only.refl r w).drewN _).trans HO.out.2⟩
      · rw [HA.out];unfold two;simp
      · rw [HR.out];exact HO.out.1
def digs (l:List Int):Nat:=(l.takeWhile isDig).length
theorem digs_ge (l:List Int) (k:Nat) (h:∀ j,j<k→isDig (l.getD j 0)=true) (hk:k≤l.length):k≤digs l:=by
  induction k generalizing l with
  | zero=>omega
  | succ k ih =>
    cases l with
    | nil=>simp at hk
    | cons x xs =>
      have h0:isDig x=true:=by simpa using h 0 (by omega)
      have:=ih xs (fun j hj=>by simpa using h (j+1) (by omega)) (by simpa using hk)
      unfold digs at this ⊢
      rw [List.takeWhile_cons,if_pos h0,List.length_cons]
      omega
theorem digs_le (l:List Int) (k:Nat) (h:k=l.length∨isDig (l.getD k 0)=false):digs l≤k:=by
  induction k generalizing l with
  | zero =>
    cases l with
    | nil=>simp [digs]
    | cons x xs =>
      rcases h with h | h
      · simp at h
      · have h0:isDig x=false:=by simpa using h
        unfold digs
        rw [List.takeWhile_cons,if_neg (by rw [h0];simp)]
        simp
  | succ k ih =>
    cases l with
    | nil=>simp [digs]
    | cons x xs =>
      have:=ih xs (by
        rcases h with h | h
        · exact .inl (by simpa using h)
        · exact .inr (by simpa using h))
      unfold digs at this ⊢
      rw [List.takeWhile_cons]
      split
      · rw [List.length_cons];omega
      · simp
theorem digs_eq (l:List Int) (k:Nat) (h:∀ j,j<k→isDig (l.getD j 0)=true) (hk:k≤l.length) (h2:k=l.length∨isDig (l.getD k 0)=false):digs l=k :=
  Nat.le_antisymm (digs_le l k h2) (digs_ge l k h hk)
def val (l:List Int):Nat→Int
  | 0=>0
  | k+1=>val l k*10+(l.getD k 0 - 48)
theorem isDig_lo {x:Int} (h:isDig x=true):48≤x∧x≤57:=by simpa [isDig] using h
theorem val_pos (l:List Int) (k:Nat) (h:∀ j,j<k→isDig (l.getD j 0)=true):0≤val l k:=by
  induction k with
  | zero=>simp [val]
  | succ k ih =>
    have h1:=ih (fun j hj=>h j (by omega))
    have h2:=isDig_lo (h k (by omega))
    unfold val
    omega
theorem val_zero (l:List Int) (k:Nat) (h:∀ j,j<k→isDig (l.getD j 0)=true) (hk:1≤k) (h0:val l k=0):l.getD 0 0=48:=by
  induction k with
  | zero=>omega
  | succ k ih =>
    have h1:=val_pos l k (fun j hj=>h j (by omega))
    have h2:=isDig_lo (h k (by omega))
    unfold val at h0
    rcases Nat.eq_zero_or_pos k with e | e
    · subst e
      have e0:val l 0=0:=rfl
      omega
    · exact ih (fun j hj=>h j (by omega)) e (by omega)
def good (l:List Int) (most:Int):Bool:=(List.range (digs l)).all fun k=>!big (val l k) (l.getD k 0 - 48) most
theorem good_true (l:List Int) (most:Int) (h:∀ k,k<digs l→big (val l k) (l.getD k 0 - 48) most=false):good l most=true:=by
  unfold good
  rw [List.all_eq_true]
  intro k hk
  rw [h k (by simpa using hk)];rfl
theorem good_false (l:List Int) (most:Int) (k:Nat) (hk:k<digs l) (h:big (val l k) (l.getD k 0 - 48) most=true):good l most=false:=by
  unfold good
  rw [List.all_eq_false]
  exact ⟨k,by simpa using hk,by rw [h];simp⟩
theorem big_false {v d most:Int} (h:big v d most=false):d≤most∧v*10+d≤most:=by
  simp [big] at h
  omega
def bad (l:List Int) (most:Int):Bool:=(decide (l.getD 0 0=48) && decide (2≤digs l)) || !good l most
def numA (l:List Int) (most:Int):Int × Int :=
  if l=[] then (0,12) else if isDig (l.getD 0 0)=false then (0,2) else if bad l most=true then (0,4) else (val l (digs l),0)
def numN (l:List Int) (most:Int):Nat :=
  if l=[] then 0 else if isDig (l.getD 0 0)=false then 0 else if bad l most=true then 0 else digs l
def Fit (l:List Int) (most:Int) (k:Nat):Prop:=(k≤1∨l.getD 0 0≠48)∧∀ j,j<k→isDig (l.getD j 0)=true∧big (val l j) (l.getD j 0 - 48) most=false
theorem Fit.start (l:List Int) (most:Int):Fit l most 0:=⟨.inl (by omega),fun j hj=>by omega⟩
theorem Fit.pos {l:List Int} {most:Int} {k:Nat} (h:Fit l most k):0≤val l k:=val_pos l k (fun j hj=>(h.2 j hj).1)
theorem Fit.hi {l:List Int} {most:Int} {k:Nat} (h:Fit l most k) (h1:1≤k):val l k≤most:=by
  obtain ⟨k',rfl⟩:∃ k',k=k'+1:=⟨k - 1,by omega⟩
  have:=big_false (h.2 k' (by omega)).2
  unfold val;omega
theorem Fit.stop {l:List Int} {most:Int} {k:Nat} (h:Fit l most k) (h0:0<l.length) (hx:isDig (l.getD 0 0)=true) (hk:k≤l.length) (hs:k=l.length∨isDig (l.getD k 0)=false):numA l most=(val l k,0)∧numN l most=k:=by
  have hd:=digs_eq l k (fun j hj=>(h.2 j hj).1) hk hs
  have hk1:1≤k:=by
    rcases Nat.eq_zero_or_pos k with e | e
    · subst e
      rcases hs with hs | hs
      · omega
      · rw [hx] at hs;cases hs
    · exact e
  have hb:bad l most=false:=by
    unfold bad
    rw [good_true l most (fun j hj=>(h.2 j (by omega)).2),hd]
    rcases h.1 with h | h
    · rw [decide_eq_false (show ¬ 2≤k by omega)];simp
    · rw [decide_eq_false h];rfl
  have hn:l≠[]:=by intro e;subst e;simp at h0
  constructor
  · unfold numA;rw [if_neg hn,if_neg (by rw [hx];simp),if_neg (by rw [hb];simp),hd]
  · unfold numN;rw [if_neg hn,if_neg (by rw [hx];simp),if_neg (by rw [hb];simp),hd]
theorem Fit.fail {l:List Int} {most:Int} {k:Nat} (h:Fit l most k) (hk:k<l.length) (hx:isDig (l.getD k 0)=true) (hs:(1≤k∧val l k=0)∨big (val l k) (l.getD k 0 - 48) most=true):numA l most=(0,4)∧numN l most=0:=by
  have hd:k<digs l:=digs_ge l (k+1) (fun j hj=>by
    by_cases e:j=k
    · subst e;exact hx
    · exact (h.2 j (by omega)).1) (by omega)
  have hx0:isDig (l.getD 0 0)=true:=by
    rcases Nat.eq_zero_or_pos k with e | e
    · subst e;exact hx
    · exact (h.2 0 e).1
  have hb:bad l most=true:=by
    unfold bad
    rcases hs with ⟨h1,h2⟩ | h1
    · rw [decide_eq_true (val_zero l k (fun j hj=>(h.2 j hj).1) h1 h2),decide_eq_true (show 2≤digs l by omega)];rfl
    · rw [good_false l most k hd h1];simp
  have hn:l≠[]:=by intro e;subst e;simp at hk
  constructor
  · unfold numA;rw [if_neg hn,if_neg (by rw [hx0];simp),if_pos hb]
  · unfold numN;rw [if_neg hn,if_neg (by rw [hx0];simp),if_pos hb]
theorem Fit.next {l:List Int} {most:Int} {k:Nat} (h:Fit l most k) (hx:isDig (l.getD k 0)=true) (hn:¬ (1≤k∧val l k=0)) (hb:big (val l k) (l.getD k 0 - 48) most=false):Fit l most (k+1):=by
  refine ⟨?_,fun j hj=>?_⟩
  · rcases Nat.lt_or_ge k 1 with h1 | h1
    · exact .inl (by omega)
    · rcases h.1 with h2 | h2
      · right
        have hk1:k=1:=by omega
        subst hk1
        intro e
        apply hn
        refine ⟨by omega,?_⟩
        show val l 0*10+(l.getD 0 0 - 48)=0
        rw [e];rfl
      · exact .inr h2
  · by_cases e:j=k
    · subst e;exact ⟨hx,hb⟩
    · exact h.2 j (by omega)
theorem num_none (r i:Nat) (most:Int) (w:World) (h:Rd w r [] i):Calls Tryz.prog 214 #[.pointer (some ⟨r,0,none⟩),.int .i64 most] w (Reads r w (two (0,12)) [] i):=by
  have h1:=Lib.hid (left_any r [] i w h)
  have H:=Lib.hid h
  clear h
  go_enter Tryz.func214,Tryz.ntmps214
  go_wp2_with fail
  go_step3
  go_wp2_with (first | (go_at_call 195;refine (h1.out).mono ?_;rintro e w' ⟨rfl,rfl⟩;simp only [List.length_nil]))
  try rw [Exit.noGoto_ret]
  go_ret2
  exact ⟨rfl,H.out,Only.refl _ _⟩
theorem num_no (r i:Nat) (x:Int) (l:List Int) (most:Int) (w:World) (h:Rd w r (x::l) i) (hx:isDig x=false) :
    Calls Tryz.prog 214 #[.pointer (some ⟨r,0,none⟩),.int .i64 most] w (Reads r w (two (0,2)) (x::l) i):=by
  obtain ⟨b,o,c,k0,k1,kb⟩:=h.head
  have h1:=Lib.hid (left_any r (x::l) i w h)
  have h2:=Lib.hid (isDigit_any x)
  have H:=Lib.hid h
  have hn:(0:Int)≤(l.length:Int):=by omega
  clear h
  go_enter Tryz.func214,Tryz.ntmps214
  go_wp2_with fail
  go_step3
  go_wp2_with (first | (go_at_call 195;refine (h1.out).mono ?_;rintro e w' ⟨rfl,rfl⟩;simp only [List.length_cons]) | (go_at_call 246;refine (h2.out _).mono ?_;rintro e w' ⟨rfl,rfl⟩;rw [hx]))
  try rw [Exit.noGoto_ret]
  go_ret2
  exact ⟨rfl,H.out,Only.refl _ _⟩
set_option maxHeartbeats 1000000 in
theorem num_dig (r i:Nat) (l:List Int) (most:Int) (w:World) (h:Rd w r l i) (h0:0<l.length) (hx0:isDig (l.getD 0 0)=true) (hi:i+l.length≤400000) (hm:-9223372036854775808≤most) (hm2:most<9223372036854775808)
    (hbt:∀ j,j<l.length→0≤l.getD j 0∧l.getD j 0<256) :
    Calls Tryz.prog 214 #[.pointer (some ⟨r,0,none⟩),.int .i64 most] w
      (Reads r w (two (numA l most)) (l.drop (numN l most)) (i+numN l most)):=by
  have H:=Lib.hid h
  have h1:=Lib.hid (left_any r l i w h)
  have h2:=Lib.hid isDigit_any
  have h3:=Lib.hid (fun v d hd0 hd=>above_any v d most hd0 hd hm hm2)
  obtain ⟨a,c,r1,r2,r3,r4,r5,h6⟩:=h
  have k0:w.cell? ⟨r,0,none⟩=some (.slice a l.length c):=by rw [cell_of_row _ _ _ _ _ _ r1];rfl
  obtain ⟨b,o,rfl,hb,hb2,hc⟩:=h6 (by intro e;subst e;simp at h0)
  have HC:=Lib.hid hc
  have HB:=Lib.hid hbt
  have kb:w.cell? ⟨b,o,none⟩=some (.int .u8 (l.getD 0 0)):=hc 0 h0
  have hl0:(l.length:Int)≠0:=by omega
  have hl1:(0:Int)<(l.length:Int):=by omega
  have HE:Hid (isDig (l.getD 0 0)=true):=Lib.hid hx0
  generalize l.getD 0 0=x0 at kb hx0
  have HX0:=Lib.hid hx0
  clear r1 h6 hc hbt hx0
  go_enter Tryz.func214,Tryz.ntmps214
  go_wp2_with fail
  go_step3
  go_wp2_with (first | (go_at_call 195;refine (h1.out).mono ?_;rintro e w' ⟨rfl,rfl⟩) | (go_at_call 246;refine (h2.out _ _).mono ?_;rintro e w' ⟨rfl,rfl⟩;rw [HX0.out]))
  go_step3
  go_wp2_with fail
  go_loopg [6,7,27] l.length (fun m s6 s7 s27 wx=>∃ k:Nat,k+m=l.length∧s6=.int .i64 (val l k)∧s7=.int .i64 k∧s27=.int .i64 k∧Aside (Fit l most k)∧w=wx)
  case atStart=>exact ⟨0,by omega,rfl,rfl,rfl,Fit.start l most,rfl⟩
  case round =>
    obtain ⟨k,hk,rfl,rfl,rfl,HI0,rfl⟩:=hrel
    generalize gk=m at *
    have HI:Hid (Fit l most k):=Lib.hid HI0
    clear HI0
    have hk0:(0:Int)≤(k:Int):=by omega
    have hv0:0≤val l k:=HI.out.pos
    have hvm:=Lib.hid (HI.out.hi (k:=k))
    have hsk:=Lib.hid (skip_any r k l i w H.out (by omega) (by omega))
    have hval:Hid (val l (k+1)=val l k*10+(l.getD k 0 - 48)):=Lib.hid rfl
    have hstop:=Lib.hid (HI.out.stop h0 HE.out (by omega))
    by_cases hlt:k<l.length
    · have hcell:=HC.out k hlt
      have hby:=HB.out k hlt
      have hkI:(k:Int)<(l.length:Int):=by omega
      have hfail:=Lib.hid (HI.out.fail hlt)
      have hnext:=Lib.hid (HI.out.next (k:=k))
      clear HI
      generalize l.getD k 0=x at hcell hby hnext hstop hfail hval
      generalize val l k=v at hv0 hvm hfail hval hnext hstop
      obtain ⟨hx0,hx1⟩:=hby
      by_cases hx:isDig x=true
      · have hxl:=isDig_lo hx
        have hxa:=hxl.1
        have hxb:=hxl.2
        have HX:=Lib.hid hx
        clear hxl hx
        by_cases hz0:1≤k∧v=0
        · have HA:=Lib.hid (hfail.out HX.out (.inl hz0))
          obtain ⟨hz1,rfl⟩:=hz0
          have hz2:(0:Int)<(k:Int):=by omega
          clear hvm hfail hval hnext hstop
          go_wp2_with (first | (go_at_call 246;refine (h2.out _ _).mono ?_;rintro e w' ⟨rfl,rfl⟩;rw [HX.out]))
          try rw [Exit.noGoto_ret]
          go_ret2
          rw [HA.out.2]
          exact ⟨by rw [HA.out.1];rfl,H.out,Only.refl _ _⟩
        · have hzb:((decide ((0:Int)<(k:Int))) && (v == 0))=false:=by
            rcases Nat.lt_or_ge k 1 with e | e
            · rw [decide_eq_false (by omega)];rfl
            · rw [beq_eq_false_iff_ne.mpr (fun e2=>hz0 ⟨e,e2⟩)];simp
          have hzc:Hid ((0:Int)<(k:Int)→v≠0):=Lib.hid (fun h1 h2=>hz0 ⟨by omega,h2⟩)
          have HN:=Lib.hid hz0
          clear hz0
          by_cases hy:big v (x - 48) most=true
          · have HA:=Lib.hid (hfail.out HX.out (.inr hy))
            have HY:=Lib.hid hy
            clear hvm hfail hval hnext hstop hy
            by_cases hkz:(0:Int)<(k:Int)
            all_goals
              first | (have hvz:=hzc.out hkz) | skip
              go_wp2_with (first | (go_at_call 246;refine (h2.out _ _).mono ?_;rintro e w' ⟨rfl,rfl⟩;rw [HX.out]) | (go_at_call 247;refine (h3.out v (x - 48) (by omega) (by omega) _).mono ?_;rintro e w' ⟨rfl,rfl⟩;rw [HY.out]))
              try rw [Exit.noGoto_ret]
              go_ret2
              rw [HA.out.2]
              exact ⟨by rw [HA.out.1];rfl,H.out,Only.refl _ _⟩
          · have hy2:big v (x - 48) most=false:=by simpa using hy
            have hbf:=big_false hy2
            have hb1:=hbf.1
            have hb2:=hbf.2
            have HY:=Lib.hid hy2
            have HF:=Lib.hid (hnext.out HX.out HN.out hy2)
            clear hvm hfail hnext hstop hy hy2 hbf
            by_cases hkz:(0:Int)<(k:Int)
            all_goals
              first | (have hvz:=hzc.out hkz) | skip
              go_wp2_with (first | (go_at_call 246;refine (h2.out _ _).mono ?_;rintro e w' ⟨rfl,rfl⟩;rw [HX.out]) | (go_at_call 247;refine (h3.out v (x - 48) (by omega) (by omega) _).mono ?_;rintro e w' ⟨rfl,rfl⟩;rw [HY.out]))
              go_roundg (m - 1)
              case measure=>omega
              case rel=>exact ⟨k+1,by omega,by rw [hval.out],by first | rfl | simp,by first | rfl | simp,HF.out,rfl⟩
      · have hx2:isDig x=false:=by simpa using hx
        have HA:=Lib.hid (hstop.out (.inr hx2))
        have HX:=Lib.hid hx2
        clear hvm hfail hval hnext hstop hx hx2
        go_wp2_with (first | (go_at_call 246;refine (h2.out _ _).mono ?_;rintro e w' ⟨rfl,rfl⟩;rw [HX.out]) | (go_at_call 213;refine (hsk.out).mono ?_;rintro e w' ⟨rfl,hR,hO⟩;have HR:=Lib.hid (And.intro hR hO);clear hR hO))
        try rw [Exit.noGoto_ret]
        go_ret2
        rw [HA.out.2]
        exact ⟨by rw [HA.out.1];rfl,HR.out.1,HR.out.2⟩
    · have hkl:k=l.length:=by omega
      have HA:=Lib.hid (hstop.out (.inl hkl))
      have hkI:¬ ((k:Int)<(l.length:Int)):=by omega
      generalize val l k=v at hv0 hvm hval hstop HA
      clear hvm hval hstop hkl
      go_wp2_with (first | (go_at_call 213;refine (hsk.out).mono ?_;rintro e w' ⟨rfl,hR,hO⟩;have HR:=Lib.hid (And.intro hR hO);clear hR hO))
      try rw [Exit.noGoto_ret]
      go_ret2
      rw [HA.out.2]
      exact ⟨by rw [HA.out.1];rfl,HR.out.1,HR.out.2⟩
end Go.Proofs.YtldnepogjnahfaaGreatDoor.Sc
