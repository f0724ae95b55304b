/- Plain facts: what 'and 1', 'xor 1' are on int64 numbers that are not below 0. No condition but those that each theorem names; The contracts of lits.Not, lits.Xor and lits.Make at literals and variables in range (conditions: the bounds that each theorem names); The contract of the closure that puts literals behind a list that it holds (conditions: the list is the call's own; at most 1000000 numbers each); The list of a netlist's literals by the program (conditions: the netlist lies where its value says; at most 1000000 of them); What a loop over a function keeps: all cells but those of some blocks; a netlist's lists behind it (no condition but those that each theorem names); The contract of the range over a netlist's definitions, for every loop body that keeps the netlist and what the range itself has laid (conditions: the netlist lies where its value says; words of 0 to 64 bits, ports' first variables no more than 2^61 from 0); What is wrong with a netlist's definitions by the program (conditions: the netlist lies where its value says; words of 0 to 64 bits, ports' first variables no more than 2^61 from 0; from 0 to 2000 variables); net.Sound and the answer by definition are one: the contract of net.Sound (conditions: the netlist lies where its value says; its numbers are int's; ports begin near 0; each list has at most 1000000 parts); Arguments read behind a call as they read before it, where nothing that was there has turned: for all arguments at once (conditions: their types can be read; their places lie in the old heap). -/
import Derived.Laws.Bits128
import Derived.WalkKit
import Derived.Test.YtldnepogjnahfaaGreatDoorVZB
import Derived.Test.YtldnepogjnahfaaGreatDoorVZC
import Derived.RangeFuncNested
import Derived.RangeFuncBound
import Derived.RangeFuncCalls
import Derived.RangeFuncLeaves
import Derived.Shelf.Abstract
import Derived.Shelf.RegionOpen
import Derived.OwnWalkIn
import Derived.TacticsInMore
import Derived.LoopNIn
import Derived.LoopIn
import Derived.Sort.LoopGhostIn
import Derived.Test.YtldnepogjnahfaaGreatDoorRows
import Derived.Carry
import Derived.ProofKit
import Derived.OpenShut
set_option linter.unusedVariables false
namespace Go.Proofs.YtldnepogjnahfaaGreatDoor
theorem nat_xor1 (a:Nat):(a ^^^ 1)=a+1 - 2*(a % 2):=by
  have h1:(a ^^^ 1) / 2=a / 2:=by rw [Nat.xor_div_two];simp
  have h2:(a ^^^ 1) % 2=a % 2 ^^^ 1:=by
    have h:=Nat.xor_mod_two_pow (a:=a) (b:=1) (n:=1)
    simpa using h
  have h3:a % 2 ^^^ 1=1 - a % 2:=by
    rcases Nat.mod_two_eq_zero_or_one a with e | e <;> rw [e] <;> decide
  omega
theorem i64_and1 (n:Int):bits .and .i64 n 1=n % 2:=by
  have h1:(BitVec.ofInt 64 1).toNat=2 ^ 1 - 1:=by decide
  have key:(BitVec.ofInt 64 n &&& BitVec.ofInt 64 1).toNat=(n % ((2 ^ 64:Nat):Int)).toNat % 2 ^ 1:=by
    rw [BitVec.toNat_and,BitVec.toNat_ofInt,h1,Nat.and_two_pow_sub_one_eq_mod]
  show IntKind.i64.wrap ((BitVec.ofInt 64 n &&& BitVec.ofInt 64 1).toNat:Nat)=n % 2
  rw [key,IntKind.wrap_i64]
  omega
theorem i64_xor1 (n:Int) (h0:0≤n) (h:n<9223372036854775808):bits .xor .i64 n 1=n+1 - 2*(n % 2):=by
  have h1:(BitVec.ofInt 64 1).toNat=1:=by decide
  have key:(BitVec.ofInt 64 n ^^^ BitVec.ofInt 64 1).toNat=(n % ((2 ^ 64:Nat):Int)).toNat+1 - 2*((n % ((2 ^ 64:Nat):Int)).toNat % 2):=by
    rw [BitVec.toNat_xor,BitVec.toNat_ofInt,h1,nat_xor1]
  show IntKind.i64.wrap ((BitVec.ofInt 64 n ^^^ BitVec.ofInt 64 1).toNat:Nat)=n+1 - 2*(n % 2)
  rw [key,IntKind.wrap_i64]
  omega
def odd (l:Int):Bool:=l % 2 == 1
def nt (l:Int):Int:=l+1 - 2*(l % 2)
def xr (l:Int) (b:Bool):Int:=if b then nt l else l
def mkl (v:Int) (b:Bool):Int:=if b then 2*v+1 else 2*v
theorem xr_mkl (v:Int) (b:Bool):xr (v*2) b=mkl v b:=by
  unfold xr mkl nt;cases b <;> simp <;> omega
theorem odd_iff (l:Int):odd l=decide (l % 2=1):=by unfold odd;rw [Bool.eq_iff_iff];simp
open Go.ChangeShapes Go.WideShapes Go.RowKit
theorem not_any (l:Int) (h0:0≤l) (h1:l≤4611686018427387904) (w:World) :
    Calls Tryz.prog 166 #[.int .i64 l] w fun e w'=>e=.returned (.int .i64 (nt l))∧w=w':=by
  go_enter Tryz.func166,Tryz.ntmps166
  go_wp2
  go_ret
  exact ⟨ret_int (i64_xor1 l h0 (by omega)),rfl⟩
theorem xor_any (l:Int) (b:Bool) (h0:0≤l) (h1:l≤4611686018427387904) (w:World) :
    Calls Tryz.prog 116 #[.int .i64 l,.bool b] w fun e w'=>e=.returned (.int .i64 (xr l b))∧w=w':=by
  cases b
  all_goals
    go_enter Tryz.func116,Tryz.ntmps116
    go_wp2_with (first | (go_at_call 166;refine (not_any _ (by omega) (by omega) _).mono ?_;rintro e w' ⟨rfl,rfl⟩))
    go_ret
    exact ⟨rfl,rfl⟩
theorem make_any (v:Int) (b:Bool) (h0:0≤v) (h1:v≤1152921504606846976) (w:World) :
    Calls Tryz.prog 71 #[.int .i64 v,.bool b] w fun e w'=>e=.returned (.int .i64 (mkl v b))∧w=w':=by
  have hx:xr (v*2) b=mkl v b:=xr_mkl v b
  go_enter Tryz.func71,Tryz.ntmps71
  go_wp2_with (first | (go_at_call 116;refine (xor_any _ _ (by omega) (by omega) _).mono ?_;rintro e w' ⟨rfl,rfl⟩))
  go_ret
  exact ⟨rfl,rfl⟩
open Go.ChangeShapes Go.WideShapes Go.RowKit
structure PutAt (B:Nat) (w0 w:World) (p:Nat) (v:Value) (xs:List Int):Prop where
  row:w.heap[p]?=some (.cells #[v] 22 (0,0))
  own:Own B w0 w v xs
  ne:v.ownBlock≠some p
  base:B≤p
def Stays (w:World) (v:Value) (p:Nat) (w':World) (v':Value):Prop :=
  w.heap.size≤w'.heap.size∧∀ k,k<w.heap.size→k≠p→v.ownBlock≠some k→w'.heap[k]?=w.heap[k]?∧v'.ownBlock≠some k
def PutLeft (B:Nat) (w0 w:World) (p:Nat) (v:Value) (xs ys:List Int) (e:Ending) (w':World):Prop :=
  ∃ v',e=.returned (.tuple #[])∧PutAt B w0 w' p v' (xs++ys)∧Stays w v p w' v'
theorem PutAt.alloc {B:Nat} {w0 w:World} {p:Nat} {v:Value} {xs:List Int} (h:PutAt B w0 w p v xs) (o:Obj):PutAt B w0 (w.alloc o) p v xs :=
  ⟨(Below.heap_alloc w o p (lt_of_row h.row)).trans h.row,h.own.alloc o,h.ne,h.base⟩
theorem Held.stays {w w':World} {v v':Value} {p g:Nat} {cs:Array Value} {t:TypeId} (h:Held w v g cs t) (hp:g≠p) (hs:Stays w v p w' v'):Held w' v' g cs t:=by
  obtain ⟨h1,h2⟩:=hs.2 g (lt_of_row h.1) hp h.2
  exact ⟨h1.trans h.1,h2⟩
theorem grown_set (W:World) (a:Addr) (v:Value):W.grownBy (W.setCell a v) (some a.block) :=
  ⟨rfl,rfl,rfl,by simp [World.setCell],fun k _ hne=>heap_setCell_other _ _ _ _ (fun e=>hne (by rw [e]))⟩
theorem Own.set {B:Nat} {w0 w:World} {v u:Value} {xs:List Int} {p j:Nat} (h:Own B w0 w v xs) (hp:B≤p) (hne:v.ownBlock≠some p):Own B w0 (w.setCell ⟨p,j,none⟩ u) v xs :=
  ⟨h.1.kept (grown_set w ⟨p,j,none⟩ u) (.inr hne),h.2.1.setCell hp u,by have:=h.2.2;simp [World.setCell];omega⟩
set_option maxHeartbeats 1000000 in
theorem put_any (B:Nat) (w0 w:World) (p:Nat) (v:Value) (xs:List Int) (A:Option Addr) (c:Nat) (ys:List Int) (h:PutAt B w0 w p v xs) (hs:Src w w.heap.size A ys) (hx:xs.length≤1000000) (hy:ys.length≤1000000) :
    Calls Tryz.prog 160 #[.slice A ys.length c,.pointer (some ⟨p,0,none⟩)] w (PutLeft B w0 w p v xs ys):=by
  have c0:w.cell? ⟨p,0,none⟩=some v:=by rw [cell_of_row w p 0 _ _ _ h.row];rfl
  have f0:w.frozen? ⟨p,0,none⟩=false:=frozen_of_row w p 0 _ _ h.row
  have hO:=h.own
  have H:=Lib.hid h
  clear h
  go_enter Tryz.func160,Tryz.ntmps160
  go_wp2_with (at_builtin;refine wpl_app rfl _ _ rfl rfl hO rfl rfl hs hx hy ?_;intro v' w' hO2 hW;obtain ⟨g1,g2,g3⟩:=hW.other (lt_of_row H.out.row) H.out.ne;have c1:w'.cell? ⟨p,0,none⟩=some v:=(by rw [cell_of_row w' p 0 _ _ _ (g1.trans H.out.row)];rfl);have f1:w'.frozen? ⟨p,0,none⟩=false:=frozen_of_row w' p 0 _ _ (g1.trans H.out.row);obtain ⟨A2,c2,rfl,hs2,hc2,hd2⟩:=hO2.form)
  go_end0
  have HO:=H.out.row
  rw [show xs.length+ys.length=(xs++ys).length from List.length_append.symm]
  refine ⟨_,rfl,⟨heap_setCell_same w' p 0 _ _ _ (g1.trans HO),hO2.set H.out.base g2,g2,H.out.base⟩,?_,fun k hk hkp hne=>?_⟩
  · have:=hW.size
    simp [World.setCell];omega
  · obtain ⟨q1,q2,q3⟩:=hW.other hk hne
    exact ⟨(heap_setCell_other _ _ _ _ (by simpa using hkp)).trans q1,q2⟩
theorem put_one (B:Nat) (w0 w:World) (p:Nat) (v:Value) (xs:List Int) (y:Int) (g:Nat) (hg:g=w.heap.size) (h:PutAt B w0 w p v xs) (hx:xs.length≤1000000) :
    Calls Tryz.prog 160 #[.slice (some ⟨g,0,none⟩) 1 1,.pointer (some ⟨p,0,none⟩)] (w.alloc (.cells #[.int .i64 y] 3)) (PutLeft B w0 (w.alloc (.cells #[.int .i64 y] 3)) p v xs [y]):=by
  subst hg
  exact put_any B w0 _ p v xs _ 1 [y] (h.alloc _) (Src.one (t:=3) (fr:=(0,0)) (heap_alloc_new w _) (by simp)) hx (by simp)
theorem put_two (B:Nat) (w0 w:World) (p:Nat) (v:Value) (xs:List Int) (y z:Int) (g:Nat) (hg:g=w.heap.size) (h:PutAt B w0 w p v xs) (hx:xs.length≤1000000) :
    Calls Tryz.prog 160 #[.slice (some ⟨g,0,none⟩) 2 2,.pointer (some ⟨p,0,none⟩)] (w.alloc (.cells #[.int .i64 y,.int .i64 z] 3)) (PutLeft B w0 (w.alloc (.cells #[.int .i64 y,.int .i64 z] 3)) p v xs [y,z]):=by
  subst hg
  exact put_any B w0 _ p v xs _ 2 [y,z] (h.alloc _) (Src.two (t:=3) (fr:=(0,0)) (heap_alloc_new w _) (by simp)) hx (by simp)
open Go.ChangeShapes Go.WideShapes Go.RowKit
set_option maxRecDepth 100000 in
set_option maxHeartbeats 4000000 in
theorem literals_any (n:PNet) (S:NetS) (w:World) (h:NetAt w w.heap.size S n) (hm:n.modest) (hd:n.lits.length≤1000000) :
    Calls Tryz.prog 109 #[.agg #[.int .i64 n.vars,.slice S.i n.inputs.length S.ic,.slice S.l n.latches.length S.lc,.slice S.o n.outs.length S.oc,.slice S.b n.bads.length S.bc,.slice S.c n.cons.length S.cc,.slice S.m n.mems.length S.mc,.slice S.a n.ands.length S.ac]] w (Left w n.lits):=by
  obtain ⟨sI,cI,sL,cL,sO,cO,sB,cB,sC,cC,sM,cM,sA,cA⟩:=S
  have hbx:=below_box w #[.int .i64 n.vars,.slice sI n.inputs.length cI,.slice sL n.latches.length cL,.slice sO n.outs.length cO,.slice sB n.bads.length cB,.slice sC n.cons.length cC,.slice sM n.mems.length cM,.slice sA n.ands.length cA] 27
  have hM:=netBox_new w n ⟨sI,cI,sL,cL,sO,cO,sB,cB,sC,cC,sM,cM,sA,cA⟩ 27
  dsimp only at *
  have hN:=NetAt.later h hbx (by simp)
  have ho1:=hm.outs
  have hb1:=hm.bads
  have hc1:=hm.cons
  have hl1:=hm.latches
  have hm1:=hm.mems
  have ha1:=hm.ands
  have hp1:=Lib.hid hm.ports
  have eg:=enters_of Tryz.func160 (by kernel_rfl) rfl
  clear h hm
  go_enter Tryz.func109,Tryz.ntmps109
  go_wp2
  have hz:w.heap.size+1=(w.alloc (.cells #[.int .i64 n.vars,.slice sI n.inputs.length cI,.slice sL n.latches.length cL,.slice sO n.outs.length cO,.slice sB n.bads.length cB,.slice sC n.cons.length cC,.slice sM n.mems.length cM,.slice sA n.ands.length cA] 27)).heap.size:=by simp
  rw [hz]
  generalize w.alloc (.cells #[.int .i64 n.vars,.slice sI n.inputs.length cI,.slice sL n.latches.length cL,.slice sO n.outs.length cO,.slice sB n.bads.length cB,.slice sC n.cons.length cC,.slice sM n.mems.length cM,.slice sA n.ands.length cA] 27)=w2 at hN hM hbx hz ⊢
  have HN:=Lib.hid (And.intro hN (And.intro hM hbx))
  clear hbx hM hN hz
  have HB:=Lib.hid HN.out.2.2
  have hP:PutAt w2.heap.size w2 (w2.alloc (.cells #[.slice none 0 0] 22)) w2.heap.size (.slice none 0 0) [] :=
    ⟨heap_alloc_new w2 _,(Own.nil w2 _ (Nat.le_refl _)).alloc _,by simp [Value.ownBlock],Nat.le_refl _⟩
  generalize w2.alloc (.cells #[.slice none 0 0] 22)=w3 at hP ⊢
  generalize hp:w2.heap.size=p at *
  have HPp:=Lib.hid hp
  clear hp
  go_loopg [19] n.latches.length (fun m s19 wx=>∃ (k:Nat) (L:List Int) (v:Value),k+m=n.latches.length∧s19=.int .i64 k∧PutAt p w2 wx p v L∧Aside (L++((n.latches.drop k).map PLatch.ln++(n.outs++(n.bads++(n.cons++(n.mems.flatMap PMem.lits++n.ands.flatMap PAnd.lits)))))=n.lits))
  case atStart=>exact ⟨0,[],_,by omega,rfl,hP,by simp [Aside,PNet.lits]⟩
  case round =>
    obtain ⟨k,L,v,hk,rfl,hP,HL⟩:=hrel
    generalize gk=m at *
    have hL:L.length≤1000000:=Nat.le_trans (len_of HL.out) hd
    by_cases hlt:k<n.latches.length
    · obtain ⟨x,hx⟩:=some_of_lt hlt
      have hltI:(k:Int)<(n.latches.length:Int):=by omega
      obtain ⟨b,o,hS,hbg,hcell⟩:=HN.out.1.latches.at hx
      dsimp only at hS
      subst hS
      obtain ⟨m0',m1',m2'⟩:=hcell k x hx
      have m0:=(hP.own.2.1.cell (p:=⟨b,o+k*3,none⟩) hbg).trans m0'
      have m1:=(hP.own.2.1.cell (p:=⟨b,o+k*3+1,none⟩) hbg).trans m1'
      have m2:=(hP.own.2.1.cell (p:=⟨b,o+k*3+2,none⟩) hbg).trans m2'
      have hP2:=hP.alloc (.cells #[.int .i64 x.lv,.int .i64 x.ln,.int .i64 x.li] 48)
      have HX:=Lib.hid (show L++[x.ln]++((n.latches.drop (k+1)).map PLatch.ln++(n.outs++(n.bads++(n.cons++(n.mems.flatMap PMem.lits++n.ands.flatMap PAnd.lits)))))=n.lits by
        rw [← HL.out,drop_some hx];simp)
      clear hcell hx HL m0' m1' m2'
      go_wp2_with (go_at_call 160;refine (put_one _ _ _ p v L x.ln _ (by simp) hP2 hL).mono ?_;rintro e w4 ⟨v4,rfl,hP4,hst4⟩)
      go_roundg (m - 1)
      case measure=>omega
      case rel=>exact ⟨k+1,_,_,by omega,by first | rfl | simp,hP4,HX.out⟩
    · have hltn:¬ ((k:Int)<(n.latches.length:Int)):=by omega
      have HL2:=Lib.hid (show L++n.outs++n.bads++n.cons++(n.mems.flatMap PMem.lits++n.ands.flatMap PAnd.lits)=n.lits by
        rw [← HL.out,List.drop_eq_nil_of_le (by omega)];simp)
      have hL2:(L++n.outs).length≤1000000:=by have:=len_of HL2.out;simp at this ⊢;omega
      have hL3:(L++n.outs++n.bads).length≤1000000:=by have:=len_of HL2.out;simp at this ⊢;omega
      obtain ⟨e0,e1,e2,e3,e4,e5,e6,e7,e8⟩:=HN.out.2.1.below hP.own.2.1 (by rw [← HPp.out];exact HN.out.2.1.lt)
      dsimp only at e3
      clear e0 e1 e2 e4 e5 e6 e7 e8 HL
      have hs1:=HN.out.1.outs.own hP.own
      have q1:=Lib.hid (put_any p w2 wr p v L sO cO n.outs hP hs1 hL ho1)
      clear hs1
      go_wp2_with fail
      refine q1.out.mono ?_
      rintro e w4 ⟨v4,rfl,hP4,-⟩
      obtain ⟨e0,e1,e2,e3,e4,e5,e6,e7,e8⟩:=HN.out.2.1.below hP4.own.2.1 (by rw [← HPp.out];exact HN.out.2.1.lt)
      dsimp only at e4
      clear e0 e1 e2 e3 e5 e6 e7 e8 q1 hP
      have hs1:=HN.out.1.bads.own hP4.own
      have q1:=Lib.hid (put_any p w2 w4 p v4 _ sB cB n.bads hP4 hs1 hL2 hb1)
      clear hs1
      go_wp2_with fail
      refine q1.out.mono ?_
      rintro e w5 ⟨v5,rfl,hP5,-⟩
      obtain ⟨e0,e1,e2,e3,e4,e5,e6,e7,e8⟩:=HN.out.2.1.below hP5.own.2.1 (by rw [← HPp.out];exact HN.out.2.1.lt)
      dsimp only at e5
      clear e0 e1 e2 e3 e4 e6 e7 e8 q1 hP4
      have hs1:=HN.out.1.cons.own hP5.own
      have q1:=Lib.hid (put_any p w2 w5 p v5 _ sC cC n.cons hP5 hs1 hL3 hc1)
      clear hs1
      go_wp2_with fail
      refine q1.out.mono ?_
      rintro e w6 ⟨v6,rfl,hP6,-⟩
      obtain ⟨e0,e1,e2,e3,e4,e5,e6,e7,e8⟩:=HN.out.2.1.below hP6.own.2.1 (by rw [← HPp.out];exact HN.out.2.1.lt)
      dsimp only at e6
      clear e0 e1 e2 e3 e4 e5 e7 e8 q1 hP5 hL hL2 hL3
      go_wp2_with fail
      clear e6
      go_loopg [44] n.mems.length (fun m s44 wx=>∃ (k:Nat) (L:List Int) (v:Value),k+m=n.mems.length∧s44=.int .i64 k∧PutAt p w2 wx p v L∧Aside (L++((n.mems.drop k).flatMap PMem.lits++n.ands.flatMap PAnd.lits)=n.lits))
      case atStart=>exact ⟨0,_,_,by omega,rfl,hP6,HL2.out⟩
      case round =>
        clear hP6 HL2 hltn hk hlt
        obtain ⟨i,L,v,hi,rfl,hP,HL⟩:=hrel
        generalize gk=m2 at *
        have hL:L.length≤1000000:=Nat.le_trans (len_of HL.out) hd
        by_cases hlt:i<n.mems.length
        · obtain ⟨x,hx⟩:=some_of_lt hlt
          have hltI:(i:Int)<(n.mems.length:Int):=by omega
          have HX:=Lib.hid hx
          have HL2:=Lib.hid (show L++(x.mr.flatMap PRead.ra++(x.mx.flatMap PWrite.lits++((n.mems.drop (i+1)).flatMap PMem.lits++n.ands.flatMap PAnd.lits)))=n.lits by
            rw [← HL.out,drop_some hx];simp [PMem.lits])
          have hxl1:=(hp1.out x (mem_of_some hx)).1
          have hxl2:=(hp1.out x (mem_of_some hx)).2
          obtain ⟨b,o,hS,hbg,hcell⟩:=HN.out.1.mems.at hx
          dsimp only at hS
          subst hS
          obtain ⟨a,c,a2,c2,m0',m1',m2',m3',m4',hPo⟩:=hcell i x hx
          have m0:=(hP.own.2.1.cell (p:=⟨b,o+i*5,none⟩) hbg).trans m0'
          have m1:=(hP.own.2.1.cell (p:=⟨b,o+i*5+1,none⟩) hbg).trans m1'
          have m2:=(hP.own.2.1.cell (p:=⟨b,o+i*5+2,none⟩) hbg).trans m2'
          have m3:=(hP.own.2.1.cell (p:=⟨b,o+i*5+3,none⟩) hbg).trans m3'
          have m4:=(hP.own.2.1.cell (p:=⟨b,o+i*5+4,none⟩) hbg).trans m4'
          have hH:=Held.new hP.own #[.int .i64 x.ma,.int .i64 x.mw,.bool x.mn,.slice a x.mr.length c,.slice a2 x.mx.length c2] 54
          have hPa:=hP.alloc (.cells #[.int .i64 x.ma,.int .i64 x.mw,.bool x.mn,.slice a x.mr.length c,.slice a2 x.mx.length c2] 54)
          have hgp:wr.heap.size≠p:=by have:=lt_of_row hP.row;omega
          have HP:=Lib.hid hPo
          clear hcell hx HL hPo m0' m1' m2' m3' m4'
          go_wp2_with fail
          clear m0 m1 m2 m3 m4
          generalize wr.alloc (.cells #[.int .i64 x.ma,.int .i64 x.mw,.bool x.mn,.slice a x.mr.length c,.slice a2 x.mx.length c2] 54)=w7 at hH hPa ⊢
          generalize wr.heap.size=gx at hH hgp ⊢
          clear hP
          go_loopg [51] x.mr.length (fun m s51 wx=>∃ (j:Nat) (L:List Int) (v:Value),j+m=x.mr.length∧s51=.int .i64 j∧PutAt p w2 wx p v L∧Held wx v gx #[.int .i64 x.ma,.int .i64 x.mw,.bool x.mn,.slice a x.mr.length c,.slice a2 x.mx.length c2] 54∧Aside (L++((x.mr.drop j).flatMap PRead.ra++(x.mx.flatMap PWrite.lits++((n.mems.drop (i+1)).flatMap PMem.lits++n.ands.flatMap PAnd.lits)))=n.lits))
          case atStart=>exact ⟨0,L,_,by omega,rfl,hPa,hH,HL2.out⟩
          case round =>
            clear hPa hH HL2 hL
            obtain ⟨j,L,v,hj,rfl,hP,hH,HL⟩:=hrel
            generalize gk=m3 at *
            have hL:L.length≤1000000:=Nat.le_trans (len_of HL.out) hd
            by_cases hjl:j<x.mr.length
            · obtain ⟨r,hr⟩:=some_of_lt hjl
              have hjlI:(j:Int)<(x.mr.length:Int):=by omega
              obtain ⟨br,orr,hSr,hbr,hcr⟩:=HP.out.1.at hr
              obtain ⟨ar,cr,r0',r1',hsr,hr1,hr2⟩:=hcr j r hr
              have r0:=(hP.own.2.1.cell (p:=⟨br,orr+j*2,none⟩) hbr).trans r0'
              have r1:=(hP.own.2.1.cell (p:=⟨br,orr+j*2+1,none⟩) hbr).trans r1'
              have HX2:=Lib.hid (show L++r.ra++((x.mr.drop (j+1)).flatMap PRead.ra++(x.mx.flatMap PWrite.lits++((n.mems.drop (i+1)).flatMap PMem.lits++n.ands.flatMap PAnd.lits)))=n.lits by
                rw [← HL.out,drop_some hr];simp)
              have hLr:r.ra.length≤1000000:=by have:=len_of HX2.out;simp at this;omega
              have hPb:=hP.alloc (.cells #[.int .i64 r.rv,.slice ar r.ra.length cr] 97)
              have q1:=Lib.hid (put_any p w2 _ p v L ar cr r.ra hPb (hsr.own hPb.own) hL hLr)
              have hHb:=Lib.hid (hH.alloc (.cells #[.int .i64 r.rv,.slice ar r.ra.length cr] 97))
              subst hSr
              clear hcr hr HL hsr hr1 hr2 r0' r1' hPb hH
              go_wp2_with fail
              refine q1.out.mono ?_
              rintro e w8 ⟨v8,rfl,hP8,hst⟩
              have hH8:=hHb.out.stays hgp hst
              clear hst q1 hP r0 r1
              go_wp2_with fail
              go_roundg (m3 - 1)
              case measure=>omega
              case rel=>exact ⟨j+1,_,_,by omega,by first | rfl | simp,hP8,hH8,HX2.out⟩
            · have hjn:¬ ((j:Int)<(x.mr.length:Int)):=by omega
              have HX2:=Lib.hid (show L++(x.mx.flatMap PWrite.lits++((n.mems.drop (i+1)).flatMap PMem.lits++n.ands.flatMap PAnd.lits))=n.lits by
                rw [← HL.out,List.drop_eq_nil_of_le (show x.mr.length≤j by omega)];simp)
              have e4:wr.cell? ⟨gx,4,none⟩=some (.slice a2 x.mx.length c2):=hH.cell rfl
              clear HL hH
              go_wp2_with fail
              clear e4
              go_loopg [63] x.mx.length (fun m s63 wx=>∃ (j:Nat) (L:List Int) (v:Value),j+m=x.mx.length∧s63=.int .i64 j∧PutAt p w2 wx p v L∧Aside (L++((x.mx.drop j).flatMap PWrite.lits++((n.mems.drop (i+1)).flatMap PMem.lits++n.ands.flatMap PAnd.lits))=n.lits))
              case atStart=>exact ⟨0,L,v,by omega,rfl,hP,HX2.out⟩
              case round =>
                clear hP HX2 hL hjn hj hjl
                obtain ⟨q,L,v,hq,rfl,hP,HL⟩:=hrel
                generalize gk=m4 at *
                have hL:L.length≤1000000:=Nat.le_trans (len_of HL.out) hd
                by_cases hql:q<x.mx.length
                · obtain ⟨z,hz⟩:=some_of_lt hql
                  have hqlI:(q:Int)<(x.mx.length:Int):=by omega
                  obtain ⟨bz,oz,hSz,hbz,hcz⟩:=HP.out.2.1.at hz
                  obtain ⟨az,cz,az2,cz2,z0',z1',z2',hsz,hsz2,_⟩:=hcz q z hz
                  have z0:=(hP.own.2.1.cell (p:=⟨bz,oz+q*3,none⟩) hbz).trans z0'
                  have z1:=(hP.own.2.1.cell (p:=⟨bz,oz+q*3+1,none⟩) hbz).trans z1'
                  have z2:=(hP.own.2.1.cell (p:=⟨bz,oz+q*3+2,none⟩) hbz).trans z2'
                  have HX2:=Lib.hid (show L++[z.wo]++z.wa++z.wd++((x.mx.drop (q+1)).flatMap PWrite.lits++((n.mems.drop (i+1)).flatMap PMem.lits++n.ands.flatMap PAnd.lits))=n.lits by
                    rw [← HL.out,drop_some hz];simp [PWrite.lits])
                  have hLa:z.wa.length≤1000000:=by have:=len_of HX2.out;simp at this;omega
                  have hLd:z.wd.length≤1000000:=by have:=len_of HX2.out;simp at this;omega
                  have hL2:(L++[z.wo]).length≤1000000:=by have:=len_of HX2.out;simp at this ⊢;omega
                  have hL3:(L++[z.wo]++z.wa).length≤1000000:=by have:=len_of HX2.out;simp at this ⊢;omega
                  have hgz:wr.heap.size≠p:=by have:=lt_of_row hP.row;omega
                  have HHz:=Lib.hid ((Held.new hP.own #[.int .i64 z.wo,.slice az z.wa.length cz,.slice az2 z.wd.length cz2] 99).alloc (.cells #[.int .i64 z.wo] 3))
                  have q1:=Lib.hid (put_one p w2 _ p v L z.wo (wr.heap.size+1) (by simp) (hP.alloc (.cells #[.int .i64 z.wo,.slice az z.wa.length cz,.slice az2 z.wd.length cz2] 99)) hL)
                  have HSz:=Lib.hid (And.intro hsz hsz2)
                  subst hSz
                  clear hcz hz HL hsz hsz2 hP z0' z1' z2'
                  go_wp2_with fail
                  refine q1.out.mono ?_
                  rintro e w8 ⟨v8,rfl,hP8,hst⟩
                  have hH8:=HHz.out.stays hgz hst
                  generalize wr.heap.size=gz at hH8 hgz ⊢
                  have k1:w8.cell? ⟨gz,1,none⟩=some (.slice az z.wa.length cz):=hH8.cell rfl
                  clear hst q1 z0 z1 z2
                  have q1:=Lib.hid (put_any p w2 w8 p v8 _ az cz z.wa hP8 (HSz.out.1.own hP8.own) hL2 hLa)
                  have HH8:=Lib.hid hH8
                  clear hH8 hP8
                  go_wp2_with fail
                  refine q1.out.mono ?_
                  rintro e w9 ⟨v9,rfl,hP9,hst⟩
                  have k2:w9.cell? ⟨gz,2,none⟩=some (.slice az2 z.wd.length cz2):=(HH8.out.stays hgz hst).cell rfl
                  clear hst q1 k1
                  have q1:=Lib.hid (put_any p w2 w9 p v9 _ az2 cz2 z.wd hP9 (HSz.out.2.own hP9.own) hL3 hLd)
                  clear hP9
                  go_wp2_with fail
                  refine q1.out.mono ?_
                  rintro e w10 ⟨v10,rfl,hP10,-⟩
                  clear q1 k2
                  go_wp2_with fail
                  go_roundg (m4 - 1)
                  case measure=>omega
                  case rel=>exact ⟨q+1,_,_,by omega,by first | rfl | simp,hP10,HX2.out⟩
                · have hqn:¬ ((q:Int)<(x.mx.length:Int)):=by omega
                  have HX2:=Lib.hid (show L++((n.mems.drop (i+1)).flatMap PMem.lits++n.ands.flatMap PAnd.lits)=n.lits by
                    rw [← HL.out,List.drop_eq_nil_of_le (show x.mx.length≤q by omega)];simp)
                  clear HL
                  go_wp2_with fail
                  go_roundg (m2 - 1)
                  case measure=>omega
                  case rel=>exact ⟨i+1,_,_,by omega,by first | rfl | simp,hP,HX2.out⟩
        · have hltn:¬ ((i:Int)<(n.mems.length:Int)):=by omega
          have HL2:=Lib.hid (show L++n.ands.flatMap PAnd.lits=n.lits by
            rw [← HL.out,List.drop_eq_nil_of_le (show n.mems.length≤i by omega)];simp)
          obtain ⟨e0,e1,e2,e3,e4,e5,e6,e7,e8⟩:=HN.out.2.1.below hP.own.2.1 (by rw [← HPp.out];exact HN.out.2.1.lt)
          dsimp only at e7
          clear HL e0 e1 e2 e3 e4 e5 e6 e8
          go_wp2_with fail
          clear e7
          go_loopg [85] n.ands.length (fun m s85 wx=>∃ (k:Nat) (L:List Int) (v:Value),k+m=n.ands.length∧s85=.int .i64 k∧PutAt p w2 wx p v L∧Aside (L++(n.ands.drop k).flatMap PAnd.lits=n.lits))
          case atStart=>exact ⟨0,L,v,by omega,rfl,hP,HL2.out⟩
          case round =>
            clear hP HL2 hL hltn hi hlt
            obtain ⟨k,L,v,hk,rfl,hP,HL⟩:=hrel
            generalize gk=m at *
            have hL:L.length≤1000000:=Nat.le_trans (len_of HL.out) hd
            by_cases hlt:k<n.ands.length
            · obtain ⟨x,hx⟩:=some_of_lt hlt
              have hltI:(k:Int)<(n.ands.length:Int):=by omega
              obtain ⟨b,o,hS,hbg,hcell⟩:=HN.out.1.ands.at hx
              dsimp only at hS
              subst hS
              obtain ⟨m0',m1',m2'⟩:=hcell k x hx
              have m0:=(hP.own.2.1.cell (p:=⟨b,o+k*3,none⟩) hbg).trans m0'
              have m1:=(hP.own.2.1.cell (p:=⟨b,o+k*3+1,none⟩) hbg).trans m1'
              have m2:=(hP.own.2.1.cell (p:=⟨b,o+k*3+2,none⟩) hbg).trans m2'
              have HX:=Lib.hid (show L++[x.aa,x.ab]++(n.ands.drop (k+1)).flatMap PAnd.lits=n.lits by
                rw [← HL.out,drop_some hx];simp [PAnd.lits])
              have q1:=Lib.hid (put_two p w2 _ p v L x.aa x.ab (wr.heap.size+1) (by simp) (hP.alloc (.cells #[.int .i64 x.av,.int .i64 x.aa,.int .i64 x.ab] 57)) hL)
              clear hcell hx HL m0' m1' m2' hP
              go_wp2_with fail
              refine q1.out.mono ?_
              rintro e w8 ⟨v8,rfl,hP8,-⟩
              clear q1 m0 m1 m2
              go_wp2_with fail
              go_roundg (m - 1)
              case measure=>omega
              case rel=>exact ⟨k+1,_,_,by omega,by first | rfl | simp,hP8,HX.out⟩
            · have hltn:¬ ((k:Int)<(n.ands.length:Int)):=by omega
              have HL2:=Lib.hid (show L=n.lits by
                rw [← HL.out,List.drop_eq_nil_of_le (show n.ands.length≤k by omega)];simp)
              have c0:wr.cell? ⟨p,0,none⟩=some v:=by rw [cell_of_row wr p 0 _ _ _ hP.row];rfl
              clear HL
              go_wp2_with fail
              go_ret
              exact ⟨_,rfl,own_cast (hP.own.down HB.out (by rw [← HPp.out];exact HB.out.size)) HL2.out⟩
open Go.ChangeShapes Go.WideShapes Go.RowKit
def Kept (B:Nat) (w w':World):Prop:=∀ b o v,b<B→w.cell? ⟨b,o,none⟩=some v→w'.cell? ⟨b,o,none⟩=some v
section
variable {w w':World} {B:Nat} (hk:Kept B w w')
include hk
theorem Src.kept {A:Option Addr} {xs:List Int} (h:Src w B A xs):Src w' B A xs:=fun hn=>by
  obtain ⟨b,o,e,hlt,hc⟩:=h hn
  exact ⟨b,o,e,hlt,fun j x hj=>hk _ _ _ hlt (hc j x hj)⟩
theorem LatchAt.kept {b o:Nat} {x:PLatch} (hlt:b<B) (h:LatchAt w b o x):LatchAt w' b o x:=⟨hk _ _ _ hlt h.1,hk _ _ _ hlt h.2.1,hk _ _ _ hlt h.2.2⟩
theorem AndAt.kept {b o:Nat} {x:PAnd} (hlt:b<B) (h:AndAt w b o x):AndAt w' b o x:=⟨hk _ _ _ hlt h.1,hk _ _ _ hlt h.2.1,hk _ _ _ hlt h.2.2⟩
theorem ReadAt.kept {b o:Nat} {x:PRead} (hlt:b<B) (h:ReadAt w B b o x):ReadAt w' B b o x:=by
  obtain ⟨a,c,h1,h2,h3,h4⟩:=h
  exact ⟨a,c,hk _ _ _ hlt h1,hk _ _ _ hlt h2,h3.kept hk,h4⟩
theorem WriteAt.kept {b o:Nat} {x:PWrite} (hlt:b<B) (h:WriteAt w B b o x):WriteAt w' B b o x:=by
  obtain ⟨a,c,a2,c2,h1,h2,h3,h4,h5,h6⟩:=h
  exact ⟨a,c,a2,c2,hk _ _ _ hlt h1,hk _ _ _ hlt h2,hk _ _ _ hlt h3,h4.kept hk,h5.kept hk,h6⟩
theorem Ports.kept {a a2:Option Addr} {c c2:Nat} {m:PMem} (h:Ports w B a c a2 c2 m):Ports w' B a c a2 c2 m :=
  ⟨h.1.mono (Nat.le_refl _) fun b o x hlt hx=>ReadAt.kept hk hlt hx,h.2.1.mono (Nat.le_refl _) fun b o x hlt hx=>WriteAt.kept hk hlt hx,h.2.2⟩
theorem MemAt.kept {b o:Nat} {x:PMem} (hlt:b<B) (h:MemAt w B b o x):MemAt w' B b o x:=by
  obtain ⟨a,c,a2,c2,h1,h2,h3,h4,h5,h6⟩:=h
  exact ⟨a,c,a2,c2,hk _ _ _ hlt h1,hk _ _ _ hlt h2,hk _ _ _ hlt h3,hk _ _ _ hlt h4,hk _ _ _ hlt h5,Ports.kept hk h6⟩
theorem NetAt.kept {S:NetS} {n:PNet} (h:NetAt w B S n):NetAt w' B S n where
  inputs:=h.inputs.kept hk
  latches:=h.latches.mono (Nat.le_refl _) fun b o x hlt hx=>LatchAt.kept hk hlt hx
  outs:=h.outs.kept hk
  bads:=h.bads.kept hk
  cons:=h.cons.kept hk
  mems:=h.mems.mono (Nat.le_refl _) fun b o x hlt hx=>MemAt.kept hk hlt hx
  ands:=h.ands.mono (Nat.le_refl _) fun b o x hlt hx=>AndAt.kept hk hlt hx
  caps:=h.caps
  room:=h.room
end
structure Keeps (lo hi:Nat) (W W':World):Prop where
  size:W.heap.size≤W'.heap.size
  block:∀ k cs t fr,W.heap[k]?=some (.cells cs t fr)→(k<lo∨hi≤k)→W'.heap[k]?=some (.cells cs t fr)
theorem Keeps.refl (lo hi:Nat) (W:World):Keeps lo hi W W:=⟨Nat.le_refl _,fun _ _ _ _ h _=>h⟩
theorem Keeps.trans {lo hi:Nat} {A B C:World} (h:Keeps lo hi A B) (k:Keeps lo hi B C):Keeps lo hi A C :=
  ⟨Nat.le_trans h.size k.size,fun i cs t fr hi hl=>k.block i cs t fr (h.block i cs t fr hi hl) hl⟩
theorem Keeps.of_below {lo hi:Nat} {W W':World} (h:Below W.heap.size W W'):Keeps lo hi W W':=⟨h.size,fun k cs t fr hk _=>(h.block k (lt_of_row hk)).trans hk⟩
theorem Keeps.alloc (lo hi:Nat) (W:World) (o:Obj):Keeps lo hi W (W.alloc o):=.of_below ((Below.refl _ W).alloc (Nat.le_refl _) o)
theorem Keeps.set {lo hi:Nat} (W:World) {a:Addr} (v:Value) (h1:lo≤a.block) (h2:a.block<hi):Keeps lo hi W (W.setCell a v) :=
  ⟨by simp [World.setCell],fun k cs t fr hk hl=>(heap_setCell_other W a k v (by omega)).trans hk⟩
theorem Keeps.put {lo hi:Nat} (W:World) (l:Nat) (o o':Obj) (h:W.heap[l]?=some o) (ho:o.isCells=false):Keeps lo hi W (W.putObj l o'):=by
  refine ⟨(grownBy_putObj' W l o').size,fun k cs t fr hk hl=>?_⟩
  refine ((grownBy_putObj' W l o').block k (lt_of_row hk) fun e=>?_).trans hk
  injection e with e
  subst e
  rw [hk] at h
  injection h with h
  subst h
  exact absurd ho (by simp [Obj.isCells])
theorem Keeps.cell {lo hi b o:Nat} {W W':World} {v:Value} (h:Keeps lo hi W W') (hb:b<lo∨hi≤b) (hv:W.cell? ⟨b,o,none⟩=some v):W'.cell? ⟨b,o,none⟩=some v:=by
  unfold World.cell? at hv
  split at hv
  · rename_i cs t fr hr
    have h2:=h.block _ _ _ _ hr hb
    unfold World.cell?
    rw [h2]
    exact hv
  · cases hv
theorem Keeps.kept {lo hi B:Nat} {W W':World} (h:Keeps lo hi W W') (hB:B≤lo):Kept B W W':=fun b o v hb hv=>h.cell (.inl (by omega)) hv
theorem Keeps.box {lo hi g:Nat} {W W':World} {n:PNet} {S:NetS} (h:Keeps lo hi W W') (hg:hi≤g) (hb:NetBox W g n S):NetBox W' g n S :=
  ⟨h.cell (.inr hg) hb.n0,h.cell (.inr hg) hb.n1,h.cell (.inr hg) hb.n2,h.cell (.inr hg) hb.n3,h.cell (.inr hg) hb.n4,h.cell (.inr hg) hb.n5,h.cell (.inr hg) hb.n6,h.cell (.inr hg) hb.n7,Nat.lt_of_lt_of_le hb.lt h.size⟩
theorem Keeps.memBox {lo hi g:Nat} {W W':World} {x:PMem} {a a2:Option Addr} {c c2:Nat} (h:Keeps lo hi W W') (hg:hi≤g) (hb:MemBox W g x a c a2 c2):MemBox W' g x a c a2 c2 :=
  ⟨h.cell (.inr hg) hb.m0,h.cell (.inr hg) hb.m1,h.cell (.inr hg) hb.m2,h.cell (.inr hg) hb.m3,h.cell (.inr hg) hb.m4,Nat.lt_of_lt_of_le hb.lt h.size⟩
def High (w:World) (hi:Nat) (A:Option Addr) (xs:List Int):Prop:=xs≠[]→∃ b o,A=some ⟨b,o,none⟩∧hi≤b∧∀ j x,xs[j]?=some x→w.cell? ⟨b,o+j,none⟩=some (.int .i64 x)
theorem High.keeps {lo hi:Nat} {W W':World} {A:Option Addr} {xs:List Int} (h:High W hi A xs) (hk:Keeps lo hi W W'):High W' hi A xs:=fun hn=>by
  obtain ⟨b,o,e,hb,hc⟩:=h hn
  exact ⟨b,o,e,hb,fun j x hj=>hk.cell (.inr hb) (hc j x hj)⟩
theorem High.at {w:World} {hi k:Nat} {A:Option Addr} {xs:List Int} {x:Int} (h:High w hi A xs) (hk:xs[k]?=some x):∃ b o,A=some ⟨b,o,none⟩∧hi≤b∧∀ j x,xs[j]?=some x→w.cell? ⟨b,o+j,none⟩=some (.int .i64 x):=by
  refine h ?_
  rintro rfl
  simp at hk
theorem Own.high {B hi:Nat} {w0 w:World} {v:Value} {xs:List Int} (h:Own B w0 w v xs) (hB:hi≤B):∃ A c,v=.slice A xs.length c∧High w hi A xs:=by
  obtain ⟨A,c,rfl,hs,_⟩:=h.form
  refine ⟨A,c,rfl,fun hn=>?_⟩
  obtain ⟨b,o,rfl,hb,hc⟩:=hs hn
  exact ⟨b,o,rfl,Nat.le_trans hB (h.lt (g:=b) rfl).1,hc⟩
open Go.ChangeShapes Go.WideShapes Go.RowKit Go.Shelf
attribute [local go_sem] Oper.semAt_some
theorem definitions_any (n:PNet) (S:NetS) (w:World) :
    Calls Tryz.prog 98 #[.agg #[.int .i64 n.vars,.slice S.i n.inputs.length S.ic,.slice S.l n.latches.length S.lc,.slice S.o n.outs.length S.oc,.slice S.b n.bads.length S.bc,.slice S.c n.cons.length S.cc,.slice S.m n.mems.length S.mc,.slice S.a n.ands.length S.ac]] w fun e w'=>e=.returned (.func (.func 144) #[] #[.pointer (some ⟨w.heap.size,0,none⟩)])∧w.alloc (.cells #[.int .i64 n.vars,.slice S.i n.inputs.length S.ic,.slice S.l n.latches.length S.lc,.slice S.o n.outs.length S.oc,.slice S.b n.bads.length S.bc,.slice S.c n.cons.length S.cc,.slice S.m n.mems.length S.mc,.slice S.a n.ands.length S.ac] 27)=w':=by
  go_enter Tryz.func98,Tryz.ntmps98
  go_wp2
  go_ret
  exact ⟨rfl,rfl⟩
theorem prefix_of {L T D:List Int} {x:Int} (h:L++x::T=D):L.length<D.length∧L++[x] <+: D:=by
  subst h
  exact ⟨by simp,⟨T,by simp⟩⟩
set_option maxRecDepth 100000 in
set_option maxHeartbeats 4000000 in
theorem iter_stops (m0:Nat) (h1m:1≤m0) (n:PNet) (S:NetS) (lo hi g:Nat) (w:World) (hlh:lo≤hi) (hg:hi≤g) (hbx:NetBox w g n S) (hN:NetAt w lo S n) (hm:n.modest) (ht:∀ m∈n.mems,m.told) :
    SeqStopsK Fence.wide m0 Tryz.prog 144 #[.pointer (some ⟨g,0,none⟩)] (fun x:Int=>#[Value.int .i64 x]) (Keeps lo hi) (fun ys=>ys=n.defs) (fun pre=>pre <+: n.defs) n.defs.length w:=fun l J Jx W hW hJ hJx hY h0=>by
  obtain ⟨sI,cI,sL,cL,sO,cO,sB,cB,sC,cC,sM,cM,sA,cA⟩:=S
  have k0:Keeps lo hi w W:=.of_below hW
  have hbW:=k0.box hg hbx
  have hNW:=hN.kept (k0.kept (Nat.le_refl _))
  have hhW:hi≤W.heap.size:=by have:=hbW.lt;omega
  have HN:=Lib.hid (And.intro hNW (And.intro hbW hhW))
  have hi1:=hm.inputs
  have hl1:=hm.latches
  have hm1:=hm.mems
  have ha1:=hm.ands
  have hp1:=Lib.hid hm.ports
  have HT:=Lib.hid ht
  have HJ:=Lib.hid fun (L:List Int) (A B:World) (hj:J L A) (hb:Below A.heap.size A B)=>hJ L A B none hj ⟨hb.os,hb.tape,hb.output,hb.size,fun k hk _=>hb.block k hk⟩ (fun r e=>by cases e)
  obtain ⟨e0,e1,e2,e3,e4,e5,e6,e7,e8⟩:=hbW
  dsimp only at e1 e2 e3 e4 e5 e6 e7
  clear hbx hN k0 hNW hhW hm ht hW hJ hJx
  refine callsIn_of_wp Tryz.func144 rfl trivial ?_ rfl
  simp only [Tryz.ntmps144,List.size_toArray,List.length_cons,List.length_nil,Nat.reduceAdd,Nat.reduceSub,Array.replicate_succ,Array.replicate_zero,List.push_toArray,List.append_toArray,List.nil_append,List.cons_append]
  gi_wp2
  clear e0 e1 e2 e3 e4 e5 e6 e7 e8
  gi_loopg [17] n.inputs.length (fun m s17 wx=>∃ (k:Nat) (L:List Int),k+m=n.inputs.length∧s17=.int .i64 k∧J L wx∧Keeps lo hi W wx∧Aside (L++(n.inputs.drop k++(n.latches.map PLatch.lv++(n.mems.flatMap PMem.data++n.ands.map PAnd.av)))=n.defs))
  case atStart=>exact ⟨0,[],by omega,rfl,h0,Keeps.refl _ _ _,by simp [Aside,PNet.defs]⟩
  case round =>
    clear h0
    obtain ⟨k,L,hk,rfl,hJs,hK,HL⟩:=hrel
    generalize gk=m at *
    by_cases hlt:k<n.inputs.length
    · obtain ⟨x,hx⟩:=some_of_lt hlt
      have hltI:(k:Int)<(n.inputs.length:Int):=by omega
      obtain ⟨b,o,hS,hbg,hcell⟩:=(HN.out.1.kept (hK.kept (Nat.le_refl _))).inputs.at hx
      dsimp only at hS
      subst hS
      have hx0:=hcell k x hx
      have HX:=Lib.hid (show L++x::(n.inputs.drop (k+1)++(n.latches.map PLatch.lv++(n.mems.flatMap PMem.data++n.ands.map PAnd.av)))=n.defs by
        rw [← HL.out,drop_some hx];simp)
      obtain ⟨fn,tmps,assign,body,hy,hR⟩:=hY L x wr hJs (prefix_of HX.out).1
      clear hcell hx HL
      gi_wp2
      refine hR.mono ?_
      rintro e W3 (⟨rfl,hJ3,hk3⟩ | ⟨rfl,hJx3⟩)
      · gi_wp2
        gi_roundg (m - 1)
        case measure=>omega
        case rel=>exact ⟨k+1,_,by omega,by first | rfl | simp,hJ3,hK.trans hk3,by show _=_;rw [← HX.out];simp⟩
      · gi_wp2
        refine bodyPost_ret (results_none rfl _ _ _) rfl ?_
        exact ⟨⟨_,rfl⟩,.inr ⟨_,(prefix_of HX.out).2,hJx3⟩⟩
    · have hltn:¬ ((k:Int)<(n.inputs.length:Int)):=by omega
      have HL2:=Lib.hid (show L++(n.latches.map PLatch.lv++(n.mems.flatMap PMem.data++n.ands.map PAnd.av))=n.defs by
        rw [← HL.out,List.drop_eq_nil_of_le (by omega)];simp)
      obtain ⟨e0,e1,e2,e3,e4,e5,e6,e7,e8⟩:=hK.box hg HN.out.2.1
      dsimp only at e2
      clear HL e0 e1 e3 e4 e5 e6 e7 e8
      gi_wp2
      clear e2
      gi_loopg [29] n.latches.length (fun m s29 wx=>∃ (k:Nat) (L:List Int),k+m=n.latches.length∧s29=.int .i64 k∧J L wx∧Keeps lo hi W wx∧Aside (L++((n.latches.drop k).map PLatch.lv++(n.mems.flatMap PMem.data++n.ands.map PAnd.av))=n.defs))
      case atStart=>exact ⟨0,L,by omega,rfl,hJs,hK,HL2.out⟩
      case round =>
        clear hJs hK HL2 hltn hk hlt
        obtain ⟨k,L,hk,rfl,hJs,hK,HL⟩:=hrel
        generalize gk=m at *
        by_cases hlt:k<n.latches.length
        · obtain ⟨x,hx⟩:=some_of_lt hlt
          have hltI:(k:Int)<(n.latches.length:Int):=by omega
          obtain ⟨b,o,hS,hbg,hcell⟩:=(HN.out.1.kept (hK.kept (Nat.le_refl _))).latches.at hx
          dsimp only at hS
          subst hS
          obtain ⟨m0',m1',m2'⟩:=hcell k x hx
          have HX:=Lib.hid (show L++x.lv::((n.latches.drop (k+1)).map PLatch.lv++(n.mems.flatMap PMem.data++n.ands.map PAnd.av))=n.defs by
            rw [← HL.out,drop_some hx];simp)
          have hJa:=HJ.out L wr _ hJs (below_box wr #[.int .i64 x.lv,.int .i64 x.ln,.int .i64 x.li] 48)
          have hKa:=hK.trans (Keeps.alloc lo hi wr (.cells #[.int .i64 x.lv,.int .i64 x.ln,.int .i64 x.li] 48))
          obtain ⟨fn,tmps,assign,body,hy,hR⟩:=hY L x.lv _ hJa (prefix_of HX.out).1
          clear hcell hx HL hJs hJa
          gi_wp2
          refine hR.mono ?_
          rintro e W3 (⟨rfl,hJ3,hk3⟩ | ⟨rfl,hJx3⟩)
          · gi_wp2
            gi_roundg (m - 1)
            case measure=>omega
            case rel=>exact ⟨k+1,_,by omega,by first | rfl | simp,hJ3,hKa.trans hk3,by show _=_;rw [← HX.out];simp⟩
          · gi_wp2
            refine bodyPost_ret (results_none rfl _ _ _) rfl ?_
            exact ⟨⟨_,rfl⟩,.inr ⟨_,(prefix_of HX.out).2,hJx3⟩⟩
        · have hltn:¬ ((k:Int)<(n.latches.length:Int)):=by omega
          have HL2:=Lib.hid (show L++(n.mems.flatMap PMem.data++n.ands.map PAnd.av)=n.defs by
            rw [← HL.out,List.drop_eq_nil_of_le (by omega)];simp)
          obtain ⟨e0,e1,e2,e3,e4,e5,e6,e7,e8⟩:=hK.box hg HN.out.2.1
          dsimp only at e6
          clear HL e0 e1 e2 e3 e4 e5 e7 e8
          gi_wp2
          clear e6
          gi_loopg [42] n.mems.length (fun m s42 wx=>∃ (k:Nat) (L:List Int),k+m=n.mems.length∧s42=.int .i64 k∧J L wx∧Keeps lo hi W wx∧Aside (L++((n.mems.drop k).flatMap PMem.data++n.ands.map PAnd.av)=n.defs))
          case atStart=>exact ⟨0,L,by omega,rfl,hJs,hK,HL2.out⟩
          case round =>
            clear hJs hK HL2 hltn hk hlt
            obtain ⟨i,L,hi',rfl,hJs,hK,HL⟩:=hrel
            generalize gk=m2 at *
            by_cases hlt:i<n.mems.length
            · obtain ⟨x,hx⟩:=some_of_lt hlt
              have hltI:(i:Int)<(n.mems.length:Int):=by omega
              have HX:=Lib.hid hx
              have HL2:=Lib.hid (show L++(x.mr.flatMap (fun r=>dataL r.rv x.mw)++((n.mems.drop (i+1)).flatMap PMem.data++n.ands.map PAnd.av))=n.defs by
                rw [← HL.out,drop_some hx];simp [PMem.data])
              have hxt:=HT.out x (mem_of_some hx)
              have hxl:=(hp1.out x (mem_of_some hx)).1
              obtain ⟨b,o,hS,hbg,hcell⟩:=HN.out.1.mems.at hx
              dsimp only at hS
              subst hS
              obtain ⟨a,c,a2,c2,m0',m1',m2',m3',m4',hPo⟩:=hcell i x hx
              have q0:=hK.kept (Nat.le_refl _) _ _ _ hbg m0'
              have q1:=hK.kept (Nat.le_refl _) _ _ _ hbg m1'
              have q2:=hK.kept (Nat.le_refl _) _ _ _ hbg m2'
              have q3:=hK.kept (Nat.le_refl _) _ _ _ hbg m3'
              have q4:=hK.kept (Nat.le_refl _) _ _ _ hbg m4'
              have hJa:=HJ.out L wr _ hJs (below_box wr #[.int .i64 x.ma,.int .i64 x.mw,.bool x.mn,.slice a x.mr.length c,.slice a2 x.mx.length c2] 54)
              have hKa:=hK.trans (Keeps.alloc lo hi wr (.cells #[.int .i64 x.ma,.int .i64 x.mw,.bool x.mn,.slice a x.mr.length c,.slice a2 x.mx.length c2] 54))
              have hB:=memBox_new wr x a c a2 c2 54
              have hgx:hi≤wr.heap.size:=Nat.le_trans HN.out.2.2 hK.size
              have HP:=Lib.hid hPo
              have HXT:=Lib.hid hxt
              clear hcell hx HL hPo m0' m1' m2' m3' m4' hJs hK hxt
              gi_wp2
              clear q0 q1 q2 q3 q4
              generalize wr.alloc (.cells #[.int .i64 x.ma,.int .i64 x.mw,.bool x.mn,.slice a x.mr.length c,.slice a2 x.mx.length c2] 54)=w7 at hJa hKa hB ⊢
              generalize wr.heap.size=gx at hB hgx ⊢
              have HBx:=Lib.hid hB
              clear hB
              gi_loopg [49] x.mr.length (fun m s49 wx=>∃ (j:Nat) (L:List Int),j+m=x.mr.length∧s49=.int .i64 j∧J L wx∧Keeps lo hi w7 wx∧Aside (L++((x.mr.drop j).flatMap (fun r=>dataL r.rv x.mw)++((n.mems.drop (i+1)).flatMap PMem.data++n.ands.map PAnd.av))=n.defs))
              case atStart=>exact ⟨0,L,by omega,rfl,hJa,Keeps.refl _ _ _,HL2.out⟩
              case round =>
                clear hJa HL2
                obtain ⟨j,L,hj,rfl,hJs,hK,HL⟩:=hrel
                generalize gk=m3 at *
                by_cases hjl:j<x.mr.length
                · obtain ⟨r,hr⟩:=some_of_lt hjl
                  have hjI:(j:Int)<(x.mr.length:Int):=by omega
                  obtain ⟨e0,e1,e2,e3,e4,e5⟩:=hK.memBox hgx HBx.out
                  have HX2:=Lib.hid (show L++(dataL r.rv x.mw++((x.mr.drop (j+1)).flatMap (fun r=>dataL r.rv x.mw)++((n.mems.drop (i+1)).flatMap PMem.data++n.ands.map PAnd.av)))=n.defs by
                    rw [← HL.out,drop_some hr];simp)
                  have hKW:=hKa.trans hK
                  have hloW:lo≤wr.heap.size:=by have:=hKW.size;have:=HN.out.2.2;omega
                  have hhiW:hi≤wr.heap.size:=by have:=hKW.size;have:=HN.out.2.2;omega
                  have HC:=Lib.hid (data_any x a c a2 c2 j r wr (Ports.wider hloW (Ports.kept (hKW.kept (Nat.le_refl _)) HP.out)) hr hxl (by have:=HXT.out.1;have:=HXT.out.2.1;omega) (HXT.out.2.2 r (mem_of_some hr)))
                  have HJs:=Lib.hid hJs
                  have hdl:(dataL r.rv x.mw).length≤64:=by rw [dataL_len];have:=HXT.out.2.1;omega
                  clear hr HL hJs
                  gi_wp2_with (refine ⟨trivial,?_⟩;gi_at_call 145;refine (callsIn_wide.2 HC.out).mono ?_;rintro e w8 ⟨v8,rfl,hO8⟩;obtain ⟨A8,c8,rfl,hH8⟩:=hO8.high hhiW)
                  have hJ8:=HJs.out
                  have hJ8:=HJ.out L wr w8 hJ8 hO8.2.1
                  have hK8:=hK.trans (Keeps.of_below hO8.2.1)
                  have HH8:=Lib.hid hH8
                  clear hO8 e0 e1 e2 e3 e4 e5 HC HJs hH8 hK hKW hloW hhiW
                  gi_loopg [56] (dataL r.rv x.mw).length (fun m s56 wx=>∃ (q:Nat) (L:List Int),q+m=(dataL r.rv x.mw).length∧s56=.int .i64 q∧J L wx∧Keeps lo hi w8 wx∧Aside (L++((dataL r.rv x.mw).drop q++((x.mr.drop (j+1)).flatMap (fun r=>dataL r.rv x.mw)++((n.mems.drop (i+1)).flatMap PMem.data++n.ands.map PAnd.av)))=n.defs))
                  case atStart=>exact ⟨0,L,by omega,rfl,hJ8,Keeps.refl _ _ _,HX2.out⟩
                  case round =>
                    clear hJ8 HX2
                    obtain ⟨q,L,hq,rfl,hJs,hK,HL⟩:=hrel
                    generalize gk=m4 at *
                    generalize hds:dataL r.rv x.mw=ds at *
                    have HDS:=Lib.hid hds
                    clear hds
                    by_cases hql:q<ds.length
                    · obtain ⟨y,hy0⟩:=some_of_lt hql
                      have hqI:(q:Int)<(ds.length:Int):=by omega
                      obtain ⟨b5,o5,rfl,hb5,hcell⟩:=(HH8.out.keeps hK).at hy0
                      have hy1:=hcell q y hy0
                      have HX:=Lib.hid (show L++y::(ds.drop (q+1)++((x.mr.drop (j+1)).flatMap (fun r=>dataL r.rv x.mw)++((n.mems.drop (i+1)).flatMap PMem.data++n.ands.map PAnd.av)))=n.defs by
                        rw [← HL.out,drop_some hy0];simp)
                      obtain ⟨fn,tmps,assign,body,hy,hR⟩:=hY L y wr hJs (prefix_of HX.out).1
                      clear hcell hy0 HL
                      gi_wp2
                      refine hR.mono ?_
                      rintro e W3 (⟨rfl,hJ3,hk3⟩ | ⟨rfl,hJx3⟩)
                      · gi_wp2
                        gi_roundg (m4 - 1)
                        case measure=>omega
                        case rel=>exact ⟨q+1,_,by omega,by first | rfl | simp,hJ3,hK.trans hk3,by show _=_;rw [← HX.out];simp⟩
                      · gi_wp2
                        refine bodyPost_ret (results_none rfl _ _ _) rfl ?_
                        exact ⟨⟨_,rfl⟩,.inr ⟨_,(prefix_of HX.out).2,hJx3⟩⟩
                    · have hqn:¬ ((q:Int)<(ds.length:Int)):=by omega
                      have HX:=Lib.hid (show L++((x.mr.drop (j+1)).flatMap (fun r=>dataL r.rv x.mw)++((n.mems.drop (i+1)).flatMap PMem.data++n.ands.map PAnd.av))=n.defs by
                        rw [← HL.out,List.drop_eq_nil_of_le (show ds.length≤q by omega)];simp)
                      clear HL
                      gi_wp2
                      gi_roundg (m3 - 1)
                      case measure=>omega
                      case rel=>exact ⟨j+1,_,by omega,by first | rfl | simp,hJs,hK8.trans hK,HX.out⟩
                · have hjn:¬ ((j:Int)<(x.mr.length:Int)):=by omega
                  have HX2:=Lib.hid (show L++((n.mems.drop (i+1)).flatMap PMem.data++n.ands.map PAnd.av)=n.defs by
                    rw [← HL.out,List.drop_eq_nil_of_le (show x.mr.length≤j by omega)];simp)
                  clear HL
                  gi_wp2
                  gi_roundg (m2 - 1)
                  case measure=>omega
                  case rel=>exact ⟨i+1,_,by omega,by first | rfl | simp,hJs,hKa.trans hK,HX2.out⟩
            · have hltn:¬ ((i:Int)<(n.mems.length:Int)):=by omega
              have HL2:=Lib.hid (show L++n.ands.map PAnd.av=n.defs by
                rw [← HL.out,List.drop_eq_nil_of_le (show n.mems.length≤i by omega)];simp)
              obtain ⟨e0,e1,e2,e3,e4,e5,e6,e7,e8⟩:=hK.box hg HN.out.2.1
              dsimp only at e7
              clear HL e0 e1 e2 e3 e4 e5 e6 e8
              gi_wp2
              clear e7
              gi_loopg [70] n.ands.length (fun m s70 wx=>∃ (k:Nat) (L:List Int),k+m=n.ands.length∧s70=.int .i64 k∧J L wx∧Keeps lo hi W wx∧Aside (L++(n.ands.drop k).map PAnd.av=n.defs))
              case atStart=>exact ⟨0,L,by omega,rfl,hJs,hK,HL2.out⟩
              case round =>
                clear hJs hK HL2 hltn hi' hlt
                obtain ⟨k,L,hk,rfl,hJs,hK,HL⟩:=hrel
                generalize gk=m at *
                by_cases hlt:k<n.ands.length
                · obtain ⟨x,hx⟩:=some_of_lt hlt
                  have hltI:(k:Int)<(n.ands.length:Int):=by omega
                  obtain ⟨b,o,hS,hbg,hcell⟩:=(HN.out.1.kept (hK.kept (Nat.le_refl _))).ands.at hx
                  dsimp only at hS
                  subst hS
                  obtain ⟨m0',m1',m2'⟩:=hcell k x hx
                  have HX:=Lib.hid (show L++x.av::(n.ands.drop (k+1)).map PAnd.av=n.defs by
                    rw [← HL.out,drop_some hx];simp)
                  have hJa:=HJ.out L wr _ hJs (below_box wr #[.int .i64 x.av,.int .i64 x.aa,.int .i64 x.ab] 57)
                  have hKa:=hK.trans (Keeps.alloc lo hi wr (.cells #[.int .i64 x.av,.int .i64 x.aa,.int .i64 x.ab] 57))
                  obtain ⟨fn,tmps,assign,body,hy,hR⟩:=hY L x.av _ hJa (prefix_of HX.out).1
                  clear hcell hx HL hJs hJa
                  gi_wp2
                  refine hR.mono ?_
                  rintro e W3 (⟨rfl,hJ3,hk3⟩ | ⟨rfl,hJx3⟩)
                  · gi_wp2
                    gi_roundg (m - 1)
                    case measure=>omega
                    case rel=>exact ⟨k+1,_,by omega,by first | rfl | simp,hJ3,hKa.trans hk3,by show _=_;rw [← HX.out];simp⟩
                  · gi_wp2
                    refine bodyPost_ret (results_none rfl _ _ _) rfl ?_
                    exact ⟨⟨_,rfl⟩,.inr ⟨_,(prefix_of HX.out).2,hJx3⟩⟩
                · have hltn:¬ ((k:Int)<(n.ands.length:Int)):=by omega
                  have HL2:=Lib.hid (show L=n.defs by
                    rw [← HL.out,List.drop_eq_nil_of_le (show n.ands.length≤k by omega)];simp)
                  clear HL
                  gi_wp2
                  go_end0
                  exact ⟨⟨_,rfl⟩,.inl (by have:=HL2.out;subst this;exact hJs)⟩
open Go.ChangeShapes Go.WideShapes Go.RowKit Go.Shelf
attribute [local go_sem] Oper.semAt_some
structure Between (n:PNet) (S:NetS) (B:Nat) (pre:List Int) (W:World):Prop where
  box:W.heap[B]?=some (.cells #[.int .i64 n.vars,.slice S.i n.inputs.length S.ic,.slice S.l n.latches.length S.lc,.slice S.o n.outs.length S.oc,.slice S.b n.bads.length S.bc,.slice S.c n.cons.length S.cc,.slice S.m n.mems.length S.mc,.slice S.a n.ands.length S.ac] 27 (0,0))
  res:W.heap[B+1]?=some (.cells #[.int .i64 0] 31 (0,0))
  marks:Marked W (B+1+1) (n.vars.toNat+1) pre
  list:W.heap[B+1+1+1]?=some (.cells #[.slice (some ⟨B+1+1,0,none⟩) (n.vars.toNat+1) (n.vars.toNat+1)] 64 (0,0))
  count:W.heap[B+1+1+1+1]?=some (.cells #[.int .i64 (n.vars - (pre.length:Int))] 3 (0,0))
  good:Good n.vars pre
def Ended (n:PNet) (B:Nat) (c:Code) (pre:List Int) (W:World):Prop :=
  c=.ret∧∃ (ini:List Int) (x code:Int),pre=ini++[x]∧Good n.vars ini∧(((x<1∨n.vars<x)∧code=5)∨(1≤x∧x≤n.vars∧x∈ini∧code=6))∧W.heap[B+1]?=some (.cells #[.int .i64 code] 31 (0,0))
theorem row_kept {W W':World} {row:Option Nat} {k:Nat} {cs:Array Value} {t:TypeId} {fr:Nat × Nat} (h:W.heap[k]?=some (.cells cs t fr)) (hg:W.grownBy W' row) (hr:∀ r,row=some r→∃ o:Obj,W.heap[r]?=some o∧o.isCells=false) :
    W'.heap[k]?=some (.cells cs t fr):=by
  refine (hg.block k (lt_of_row h) fun e=>?_).trans h
  obtain ⟨o,ho,hc⟩:=hr k e.symm
  rw [h] at ho
  injection ho with ho
  subst ho
  exact absurd hc (by simp [Obj.isCells])
theorem Marked.grown {W W':World} {row:Option Nat} {g N:Nat} {seen:List Int} (h:Marked W g N seen) (hg:W.grownBy W' row) (hr:∀ r,row=some r→∃ o:Obj,W.heap[r]?=some o∧o.isCells=false):Marked W' g N seen:=by
  obtain ⟨C,h1,h2⟩:=h
  exact ⟨C,row_kept h1 hg hr,h2⟩
theorem between_own (n:PNet) (S:NetS) (B:Nat):Go.Own (Between n S B):=fun s A W row hs hg hr =>
  ⟨row_kept hs.box hg hr,row_kept hs.res hg hr,hs.marks.grown hg hr,row_kept hs.list hg hr,row_kept hs.count hg hr,hs.good⟩
theorem ended_own (n:PNet) (B:Nat) (c:Code):Go.Own (Ended n B c):=fun s A W row hs hg hr=>by
  obtain ⟨h1,ini,x,code,h2,h3,h4,h5⟩:=hs
  exact ⟨h1,ini,x,code,h2,h3,h4,row_kept h5 hg hr⟩
theorem alloc_at (w:World) (o:Obj) (k:Nat) (hk:k=w.heap.size):(w.alloc o).heap[k]?=some o:=by subst hk;exact heap_alloc_new w o
theorem begins (w:World) (n:PNet) (S:NetS) :
    ∃ W,((((((w.alloc (.cells #[.int .i64 n.vars,.slice S.i n.inputs.length S.ic,.slice S.l n.latches.length S.lc,.slice S.o n.outs.length S.oc,.slice S.b n.bads.length S.bc,.slice S.c n.cons.length S.cc,.slice S.m n.mems.length S.mc,.slice S.a n.ands.length S.ac] 27)).alloc (.cells #[.int .i64 0] 31)).alloc (.cells (madeCells #[.bool false] (n.vars.toNat+1)) 4)).alloc
      (.cells #[.slice (some ⟨w.heap.size+1+1,0,none⟩) (n.vars.toNat+1) (n.vars.toNat+1)] 64)).alloc (.cells #[.int .i64 n.vars] 3)).alloc (.cells #[.int .i64 n.vars,.slice S.i n.inputs.length S.ic,.slice S.l n.latches.length S.lc,.slice S.o n.outs.length S.oc,.slice S.b n.bads.length S.bc,.slice S.c n.cons.length S.cc,.slice S.m n.mems.length S.mc,.slice S.a n.ands.length S.ac] 27))=W ∧
      Between n S w.heap.size [] W∧NetBox W (w.heap.size+1+1+1+1+1) n S∧Below w.heap.size w W∧W.heap.size=w.heap.size+1+1+1+1+1+1:=by
  refine ⟨_,rfl,⟨?_,?_,?_,?_,?_,⟨by simp,by simp⟩⟩,?_,?_,?_⟩
  · rw [Below.heap_alloc _ _ _ (by simp only [World.size_alloc];omega),Below.heap_alloc _ _ _ (by simp only [World.size_alloc];omega),Below.heap_alloc _ _ _ (by simp only [World.size_alloc];omega),Below.heap_alloc _ _ _ (by simp only [World.size_alloc];omega),Below.heap_alloc _ _ _ (by simp only [World.size_alloc];omega)]
    exact alloc_at _ _ _ rfl
  · rw [Below.heap_alloc _ _ _ (by simp only [World.size_alloc];omega),Below.heap_alloc _ _ _ (by simp only [World.size_alloc];omega),Below.heap_alloc _ _ _ (by simp only [World.size_alloc];omega),Below.heap_alloc _ _ _ (by simp only [World.size_alloc];omega)]
    exact alloc_at _ _ _ (by simp only [World.size_alloc])
  · have h:=Marked.new ((w.alloc (.cells #[.int .i64 n.vars,.slice S.i n.inputs.length S.ic,.slice S.l n.latches.length S.lc,.slice S.o n.outs.length S.oc,.slice S.b n.bads.length S.bc,.slice S.c n.cons.length S.cc,.slice S.m n.mems.length S.mc,.slice S.a n.ands.length S.ac] 27)).alloc (.cells #[.int .i64 0] 31)) (n.vars.toNat+1)
    have e:((w.alloc (.cells #[.int .i64 n.vars,.slice S.i n.inputs.length S.ic,.slice S.l n.latches.length S.lc,.slice S.o n.outs.length S.oc,.slice S.b n.bads.length S.bc,.slice S.c n.cons.length S.cc,.slice S.m n.mems.length S.mc,.slice S.a n.ands.length S.ac] 27)).alloc (.cells #[.int .i64 0] 31)).heap.size=w.heap.size+1+1:=by simp
    rw [e] at h
    refine h.same ?_
    rw [Below.heap_alloc _ _ _ (by simp),Below.heap_alloc _ _ _ (by simp),Below.heap_alloc _ _ _ (by simp)]
  · rw [Below.heap_alloc _ _ _ (by simp only [World.size_alloc];omega),Below.heap_alloc _ _ _ (by simp only [World.size_alloc];omega)]
    exact alloc_at _ _ _ (by simp only [World.size_alloc])
  · rw [Below.heap_alloc _ _ _ (by simp only [World.size_alloc];omega)]
    refine (alloc_at _ _ _ (by simp only [World.size_alloc])).trans ?_
    simp
  · have h:=netBox_new (((((w.alloc (.cells #[.int .i64 n.vars,.slice S.i n.inputs.length S.ic,.slice S.l n.latches.length S.lc,.slice S.o n.outs.length S.oc,.slice S.b n.bads.length S.bc,.slice S.c n.cons.length S.cc,.slice S.m n.mems.length S.mc,.slice S.a n.ands.length S.ac] 27)).alloc (.cells #[.int .i64 0] 31)).alloc (.cells (madeCells #[.bool false] (n.vars.toNat+1)) 4)).alloc
      (.cells #[.slice (some ⟨w.heap.size+1+1,0,none⟩) (n.vars.toNat+1) (n.vars.toNat+1)] 64)).alloc (.cells #[.int .i64 n.vars] 3)) n S 27
    simpa using h
  · exact ((((((Below.refl _ w).alloc (Nat.le_refl _) _).alloc (by simp) _).alloc (by simp;omega) _).alloc (by simp;omega) _).alloc (by simp;omega) _).alloc (by simp;omega) _
  · simp
set_option maxRecDepth 100000 in
set_option maxHeartbeats 4000000 in
theorem once_any (n:PNet) (S:NetS) (w:World) (h:NetAt w w.heap.size S n) (hm:n.modest) (ht:∀ m∈n.mems,m.told) (hv:0≤n.vars∧n.vars≤2000) :
    Calls Tryz.prog 108 #[.agg #[.int .i64 n.vars,.slice S.i n.inputs.length S.ic,.slice S.l n.latches.length S.lc,.slice S.o n.outs.length S.oc,.slice S.b n.bads.length S.bc,.slice S.c n.cons.length S.cc,.slice S.m n.mems.length S.mc,.slice S.a n.ands.length S.ac]] w fun e w'=>e=.returned (.int .i64 n.once)∧Below w.heap.size w w':=by
  obtain ⟨hv0,hv1⟩:=hv
  have hmk:=run_marks n.vars hv0 (by omega)
  refine (callsIn_wide (n:=6)).1 ?_
  refine callsIn_of_wp_marks Tryz.func108 rfl trivial ?_ rfl
  simp only [Tryz.ntmps108,List.size_toArray,List.length_cons,List.length_nil,Nat.reduceAdd,Nat.reduceSub,Array.replicate_succ,Array.replicate_zero,List.push_toArray,List.append_toArray,List.nil_append,List.cons_append]
  gi_wp2_with (refine ⟨trivial,?_⟩;gi_at_call 98;refine (callsIn_wide.2 (definitions_any n S _)).mono ?_;rintro e w' ⟨rfl,rfl⟩)
  obtain ⟨W0,hW0,hB0,hbx,hbe,hsz⟩:=begins w n S
  rw [hW0]
  clear hW0 hmk
  have hN0:NetAt W0 (w.heap.size+1) S n:=NetAt.wider (Nat.le_succ _) (NetAt.below hbe (Nat.le_refl _) h)
  have hst:=iter_stops 5 (by omega) n S (w.heap.size+1) (w.heap.size+1+1+1+1+1) (w.heap.size+1+1+1+1+1) W0 (by omega) (Nat.le_refl _) hbx hN0 hm ht
  clear hbx hN0 hm ht h
  refine wpIn_rangeFunc_ownF rfl (by omega) (gf:=144) (lb:=#[.pointer (some ⟨w.heap.size+1+1+1+1+1,0,none⟩)]) rfl trivial (enters_of Tryz.func144 (by kernel_rfl) rfl)
    hst (fun h k=>Keeps.trans h k) (fun W l o o' _ h ho _=>Keeps.put W l o o' h ho) (Below.refl _ _) (fun _=>rfl)
    (fun pre W=>Between n S w.heap.size pre W∧Below w.heap.size w W)
    (fun c pre W=>Ended n w.heap.size c pre W∧Below w.heap.size w W)
    (OwnFrom.and ((between_own n S _).from _) (ownFrom_below (Nat.le_refl _) (by omega)))
    (fun c=>OwnFrom.and ((ended_own n _ c).from _) (ownFrom_below (Nat.le_refl _) (by omega)))
    ⟨hB0,hbe⟩
    (fun x=>{ tmps:=#[.agg #[.int .i64 n.vars,.slice S.i n.inputs.length S.ic,.slice S.l n.latches.length S.lc,.slice S.o n.outs.length S.oc,.slice S.b n.bads.length S.bc,.slice S.c n.cons.length S.cc,.slice S.m n.mems.length S.mc,.slice S.a n.ands.length S.ac],.pointer (some ⟨w.heap.size,0,none⟩),.pointer (some ⟨w.heap.size+1,0,none⟩),.pointer (some ⟨w.heap.size+1+1+1,0,none⟩),.pointer (some ⟨w.heap.size+1+1+1+1,0,none⟩),.int .i64 x,
      .pointer (some ⟨w.heap.size,0,none⟩),.int .i64 n.vars,.int .i64 (n.vars+1),.slice (some ⟨w.heap.size+1+1,0,none⟩) (n.vars.toNat+1) (n.vars.toNat+1),.pointer (some ⟨w.heap.size,0,none⟩),.int .i64 n.vars,.agg #[.int .i64 n.vars,.slice S.i n.inputs.length S.ic,.slice S.l n.latches.length S.lc,.slice S.o n.outs.length S.oc,.slice S.b n.bads.length S.bc,.slice S.c n.cons.length S.cc,.slice S.m n.mems.length S.mc,.slice S.a n.ands.length S.ac],
      .func (.func 144) #[] #[.pointer (some ⟨w.heap.size+1+1+1+1+1,0,none⟩)],.int .i64 x,undef,undef,undef,undef,undef,undef,undef,undef,undef,undef,undef,undef,undef,undef,undef,undef],defers:=[] }) ?assign ?body ?done ?stop
  case assign =>
    intro l x W K hK
    gi_wp2
    exact hK
  case body =>
    rintro l pre x W ⟨hL,hB⟩ _
    have c0:W.cell? ⟨w.heap.size,0,none⟩=some (.int .i64 n.vars):=by rw [cell_of_row W _ 0 _ _ _ hL.box];rfl
    have cr:W.cell? ⟨w.heap.size+1,0,none⟩=some (.int .i64 0):=by rw [cell_of_row W _ 0 _ _ _ hL.res];rfl
    have fr:W.frozen? ⟨w.heap.size+1,0,none⟩=false:=frozen_of_row W _ 0 _ _ hL.res
    have cl:W.cell? ⟨w.heap.size+1+1+1,0,none⟩=some (.slice (some ⟨w.heap.size+1+1,0,none⟩) (n.vars.toNat+1) (n.vars.toNat+1)):=by rw [cell_of_row W _ 0 _ _ _ hL.list];rfl
    have cc:W.cell? ⟨w.heap.size+1+1+1+1,0,none⟩=some (.int .i64 (n.vars - (pre.length:Int))):=by rw [cell_of_row W _ 0 _ _ _ hL.count];rfl
    have fc:W.frozen? ⟨w.heap.size+1+1+1+1,0,none⟩=false:=frozen_of_row W _ 0 _ _ hL.count
    have hlen:=hL.good.len hv0
    have HL:=Lib.hid hL
    by_cases hx:1≤x∧x≤n.vars
    · obtain ⟨y,rfl⟩:=Int.eq_ofNat_of_zero_le (show 0≤x by omega)
      have hy:y<n.vars.toNat+1:=by omega
      have hyI:(y:Int)<((n.vars.toNat+1:Nat):Int):=by omega
      have hy0:(0:Int)≤(y:Int):=by omega
      have cm:=hL.marks.cell hy
      have fm:=hL.marks.free y
      have HXX:=Lib.hid hx
      by_cases hs:(y:Int)∈pre
      · rw [decide_eq_true hs] at cm
        have HS:=Lib.hid hs
        clear hL hs
        gi_wp2_with (refine ⟨trivial,?_⟩;gi_at_call 110;refine (CallsIn.inRound l (callsIn_wide.2 (within_yes _ _ _ _ hx))).mono ?_;rintro e w' ⟨rfl,rfl⟩)
        exact ⟨KeepsOthers.setCell _ _ _,⟨rfl,pre,_,6,rfl,HL.out.good,.inr ⟨HXX.out.1,HXX.out.2,HS.out,rfl⟩,(heap_setCell_same W _ 0 _ _ _ HL.out.res).trans rfl⟩,hB.setCell (p:=⟨w.heap.size+1,0,none⟩) (by simp) _⟩
      · rw [decide_eq_false hs] at cm
        have HS:=Lib.hid hs
        clear hL hs
        gi_wp2_with (refine ⟨trivial,?_⟩;gi_at_call 110;refine (CallsIn.inRound l (callsIn_wide.2 (within_yes _ _ _ _ hx))).mono ?_;rintro e w' ⟨rfl,rfl⟩)
        refine ⟨(KeepsOthers.setCell _ _ _).trans (KeepsOthers.setCell _ _ _),(Keeps.set W _ (by simp) (by first | (simp;done) | (simp;omega))).trans (Keeps.set _ _ (by first | (simp;done) | (simp;omega)) (by simp)),⟨?_,?_,?_,?_,?_,?_⟩,(hB.setCell (p:=⟨w.heap.size+1+1,y,none⟩) (by first | (simp;done) | (simp;omega)) _).setCell (p:=⟨w.heap.size+1+1+1+1,0,none⟩) (by first | (simp;done) | (simp;omega)) _⟩
        · exact ((heap_setCell_other _ _ _ _ (by first | (simp;done) | (simp;omega))).trans (heap_setCell_other _ _ _ _ (by first | (simp;done) | (simp;omega)))).trans HL.out.box
        · exact ((heap_setCell_other _ _ _ _ (by first | (simp;done) | (simp;omega))).trans (heap_setCell_other _ _ _ _ (by simp))).trans HL.out.res
        · exact (HL.out.marks.set hy).same (heap_setCell_other _ _ _ _ (by first | (simp;done) | (simp;omega)))
        · exact ((heap_setCell_other _ _ _ _ (by simp)).trans (heap_setCell_other _ _ _ _ (by simp))).trans HL.out.list
        · refine (heap_setCell_same _ _ 0 _ _ _ ((heap_setCell_other _ _ _ _ (by first | (simp;done) | (simp;omega))).trans HL.out.count)).trans ?_
          simp
          omega
        · exact HL.out.good.snoc HXX.out.1 HXX.out.2 HS.out
    · have hx:x<1∨n.vars<x:=by omega
      have HXX:=Lib.hid hx
      clear hL
      gi_wp2_with (refine ⟨trivial,?_⟩;gi_at_call 110;refine (CallsIn.inRound l (callsIn_wide.2 (within_no _ _ _ _ hx))).mono ?_;rintro e w' ⟨rfl,rfl⟩)
      exact ⟨KeepsOthers.setCell _ _ _,⟨rfl,pre,_,5,rfl,HL.out.good,.inl ⟨HXX.out,rfl⟩,(heap_setCell_same W _ 0 _ _ _ HL.out.res).trans rfl⟩,hB.setCell (p:=⟨w.heap.size+1,0,none⟩) (by simp) _⟩
  case done =>
    rintro D ys W hD rfl ⟨hL,hB⟩ hK
    have cr:W.cell? ⟨w.heap.size+1,0,none⟩=some (.int .i64 0):=by rw [cell_of_row W _ 0 _ _ _ hL.res];rfl
    have fr:W.frozen? ⟨w.heap.size+1,0,none⟩=false:=frozen_of_row W _ 0 _ _ hL.res
    have cc:W.cell? ⟨w.heap.size+1+1+1+1,0,none⟩=some (.int .i64 (n.vars - (n.defs.length:Int))):=by rw [cell_of_row W _ 0 _ _ _ hL.count];rfl
    have hDn:D≠w.heap.size+1:=by omega
    have HG:=Lib.hid (good_all hL.good)
    have HR:=Lib.hid hL.res
    have HK:=Lib.hid hK
    clear hL
    by_cases hq:(n.defs.length:Int)<n.vars
    · have hd:decide ((n.defs.length:Int)<n.vars)=true:=by simp;omega
      have HO:=Lib.hid (show n.once=7 by rw [HG.out,if_pos hq])
      clear hq
      gi_wp2
      have hK':=(KeepsOthers.setCell W ⟨w.heap.size+1,0,none⟩ (.int .i64 7)).same D _ HK.out rfl
      refine ⟨by simp,.inl ⟨_,_,rfl,run_takeDeferred hK',?_⟩⟩
      have hc5:=cell_kept (World.cell?_setCell_same' W ⟨w.heap.size+1,0,none⟩ (.int .i64 7) (by rw [cr];rfl)) (grownBy_putObj' _ D (.deferred none)) (fun r e=>by cases e;exact ⟨_,hK',rfl⟩)
      refine ⟨.int .i64 7,?_,by rw [HO.out],(hB.setCell (p:=⟨w.heap.size+1,0,none⟩) (by simp) _).trans (belowK_b (w:=w) (Nat.le_refl _) _ D _ _ (by omega) hK' rfl rfl)⟩
      simp [results,Tryz.f108,go_sem,hc5]
    · have hd:decide ((n.defs.length:Int)<n.vars)=false:=by simp;omega
      have HO:=Lib.hid (show n.once=0 by rw [HG.out,if_neg hq])
      clear hq
      gi_wp2
      have hK':=(KeepsOthers.setCell W ⟨w.heap.size+1,0,none⟩ (.int .i64 0)).same D _ HK.out rfl
      refine ⟨by simp,.inl ⟨_,_,rfl,run_takeDeferred hK',?_⟩⟩
      have hc5:=cell_kept (World.cell?_setCell_same' W ⟨w.heap.size+1,0,none⟩ (.int .i64 0) (by rw [cr];rfl)) (grownBy_putObj' _ D (.deferred none)) (fun r e=>by cases e;exact ⟨_,hK',rfl⟩)
      refine ⟨.int .i64 0,?_,by rw [HO.out],(hB.setCell (p:=⟨w.heap.size+1,0,none⟩) (by simp) _).trans (belowK_b (w:=w) (Nat.le_refl _) _ D _ _ (by omega) hK' rfl rfl)⟩
      simp [results,Tryz.f108,go_sem,hc5]
  case stop =>
    rintro D c pre W hD hpre ⟨⟨rfl,ini,x,code,rfl,hg,hcode,hres⟩,hB⟩ hK
    have HO:=Lib.hid (show n.once=code by
      have:=good_part hg hpre
      rcases hcode with ⟨h1,rfl⟩ | ⟨h1,h2,h3,rfl⟩
      · exact this.1 h1
      · exact this.2 h1 h2 h3)
    have HR:=Lib.hid hres
    have HK:=Lib.hid hK
    clear hres hcode
    gi_wp2
    refine ⟨by simp,.inl ⟨_,_,rfl,run_takeDeferred HK.out,?_⟩⟩
    have hc5:=cell_kept (show W.cell? ⟨w.heap.size+1,0,none⟩=some (.int .i64 code) by rw [cell_of_row W _ 0 _ _ _ HR.out];rfl) (grownBy_putObj' _ D (.deferred none)) (fun r e=>by cases e;exact ⟨_,HK.out,rfl⟩)
    refine ⟨.int .i64 code,?_,by rw [HO.out],hB.trans (belowK_b (w:=w) (Nat.le_refl _) W D _ _ (by omega) HK.out rfl rfl)⟩
    simp [results,Tryz.f108,go_sem,hc5]
open Go.ChangeShapes Go.WideShapes Go.RowKit
theorem mems_differ (n:PNet) (S:NetS) (w:World) (h:NetAt w w.heap.size S n):Calls Tryz.prog 104 #[.slice S.m n.mems.length S.mc,.func (.func 105) #[] #[]] w
    fun e w'=>e=.returned (.bool (n.mems.any PMem.wide))∧Below w.heap.size w w' :=
  contains_memory S.m S.mc n.mems PMem.wide 105 #[] (enters_of Tryz.func105 (by kernel_rfl) rfl) w (by have:=h.caps;have:=h.room;omega) h.mems
    fun V x a c a2 c2 hx hV hP=>widths_any x a c a2 c2 V (Ports.wider hV.size hP)
theorem latches_wrong (n:PNet) (S:NetS) (w:World) (h:NetAt w w.heap.size S n):Calls Tryz.prog 106 #[.slice S.l n.latches.length S.lc,.func (.func 107) #[] #[]] w
    fun e w'=>e=.returned (.bool (n.latches.any PLatch.wrong))∧Below w.heap.size w w' :=
  contains_latch S.l S.lc n.latches PLatch.wrong 107 #[] (enters_of Tryz.func107 (by kernel_rfl) rfl) w (by have:=h.caps;have:=h.room;omega) h.latches
    fun V x hx hV=>begins_any x V
set_option maxHeartbeats 4000000 in
theorem sound_any (n:PNet) (S:NetS) (w:World) (h:NetAt w w.heap.size S n) (hf:n.fits) (hm:n.modest) (hr:n.near) :
    Calls Tryz.prog 67 #[.agg #[.int .i64 n.vars,.slice S.i n.inputs.length S.ic,.slice S.l n.latches.length S.lc,.slice S.o n.outs.length S.oc,.slice S.b n.bads.length S.bc,.slice S.c n.cons.length S.cc,.slice S.m n.mems.length S.mc,.slice S.a n.ands.length S.ac]] w fun e w'=>e=.returned (.int .i64 n.sound)∧Below w.heap.size w w':=by
  have hbx:=below_box w #[.int .i64 n.vars,.slice S.i n.inputs.length S.ic,.slice S.l n.latches.length S.lc,.slice S.o n.outs.length S.oc,.slice S.b n.bads.length S.bc,.slice S.c n.cons.length S.cc,.slice S.m n.mems.length S.mc,.slice S.a n.ands.length S.ac] 27
  have hM:=netBox_new w n S 27
  have hN:=NetAt.later h hbx (by simp)
  have hlim:=above_any n S _ hN ⟨hm.outs,hm.bads,hm.cons⟩
  have HB:=Lib.hid (And.intro hbx (And.intro hM hN))
  cases hL:n.lim with
  | true =>
    rw [hL] at hlim
    have HQ:=Lib.hid hlim
    have HS:=Lib.hid (sound_lim hL)
    clear hlim hL hN h hbx hM
    go_enter Tryz.func67,Tryz.ntmps67
    go_wp2_with (go_at_call 103;refine HQ.out.mono ?_;rintro e w3 ⟨rfl,hb3⟩)
    go_ret
    exact ⟨ret_int HS.out.symm,below_on HB.out.1 hb3⟩
  | false =>
    rw [hL] at hlim
    have hW:=within_of hL
    have HQ:=Lib.hid hlim
    have HL:=Lib.hid hL
    have HW:=Lib.hid hW
    have hv0:=hW.vars.1
    have hv1:=hW.vars.2
    have HF:=Lib.hid hf
    have HR:=Lib.hid hr
    have HMo:=Lib.hid hm
    have HWD:=Lib.hid fun (W:World) (hb:Below (w.alloc (.cells #[.int .i64 n.vars,.slice S.i n.inputs.length S.ic,.slice S.l n.latches.length S.lc,.slice S.o n.outs.length S.oc,.slice S.b n.bads.length S.bc,.slice S.c n.cons.length S.cc,.slice S.m n.mems.length S.mc,.slice S.a n.ands.length S.ac] 27)).heap.size (w.alloc (.cells #[.int .i64 n.vars,.slice S.i n.inputs.length S.ic,.slice S.l n.latches.length S.lc,.slice S.o n.outs.length S.oc,.slice S.b n.bads.length S.bc,.slice S.c n.cons.length S.cc,.slice S.m n.mems.length S.mc,.slice S.a n.ands.length S.ac] 27)) W)=>mems_differ n S W (NetAt.later hN hb hb.size)
    have HLW:=Lib.hid fun (W:World) (hb:Below (w.alloc (.cells #[.int .i64 n.vars,.slice S.i n.inputs.length S.ic,.slice S.l n.latches.length S.lc,.slice S.o n.outs.length S.oc,.slice S.b n.bads.length S.bc,.slice S.c n.cons.length S.cc,.slice S.m n.mems.length S.mc,.slice S.a n.ands.length S.ac] 27)).heap.size (w.alloc (.cells #[.int .i64 n.vars,.slice S.i n.inputs.length S.ic,.slice S.l n.latches.length S.lc,.slice S.o n.outs.length S.oc,.slice S.b n.bads.length S.bc,.slice S.c n.cons.length S.cc,.slice S.m n.mems.length S.mc,.slice S.a n.ands.length S.ac] 27)) W)=>latches_wrong n S W (NetAt.later hN hb hb.size)
    clear hlim hL h hbx hM hW hf hr hN hm
    cases hwd:n.mems.any PMem.wide with
    | true =>
      rw [hwd] at HWD
      have HS:=Lib.hid (sound_wide HL.out hwd)
      clear hwd
      go_enter Tryz.func67,Tryz.ntmps67
      go_wp2_with (first | (go_at_call 103;refine HQ.out.mono ?_;rintro e w3 ⟨rfl,hb3⟩;obtain ⟨e0,e1,e2,e3,e4,e5,e6,e7,e8⟩:=HB.out.2.1.below hb3 HB.out.2.1.lt) | (go_at_call 104;refine (HWD.out _ hb3).mono ?_;rintro e w4 ⟨rfl,hb4⟩))
      go_ret
      exact ⟨ret_int HS.out.symm,below_on HB.out.1 (below_on hb3 hb4)⟩
    | false =>
      rw [hwd] at HWD
      have HWD0:=Lib.hid hwd
      have hfit:∀ m∈n.mems,m.Fit:=fun m hm=>fit_of (any_no hwd m hm)
      cases hlw:n.latches.any PLatch.wrong with
      | true =>
        rw [hlw] at HLW
        have HS:=Lib.hid (sound_wrong HL.out hwd hlw)
        clear hwd hlw hfit
        go_enter Tryz.func67,Tryz.ntmps67
        go_wp2_with (first | (go_at_call 103;refine HQ.out.mono ?_;rintro e w3 ⟨rfl,hb3⟩;obtain ⟨e0,e1,e2,e3,e4,e5,e6,e7,e8⟩:=HB.out.2.1.below hb3 HB.out.2.1.lt) | (go_at_call 104;refine (HWD.out _ hb3).mono ?_;rintro e w4 ⟨rfl,hb4⟩;obtain ⟨f0,f1,f2,f3,f4,f5,f6,f7,f8⟩:=HB.out.2.1.below (below_on hb3 hb4) HB.out.2.1.lt) | (go_at_call 106;refine (HLW.out _ (below_on hb3 hb4)).mono ?_;rintro e w5 ⟨rfl,hb5⟩))
        go_ret
        exact ⟨ret_int HS.out.symm,below_on HB.out.1 (below_on hb3 (below_on hb4 hb5))⟩
      | false =>
        rw [hlw] at HLW
        have HLW0:=Lib.hid hlw
        have HDF:=Lib.hid fun (W:World) (hb:Below (w.alloc (.cells #[.int .i64 n.vars,.slice S.i n.inputs.length S.ic,.slice S.l n.latches.length S.lc,.slice S.o n.outs.length S.oc,.slice S.b n.bads.length S.bc,.slice S.c n.cons.length S.cc,.slice S.m n.mems.length S.mc,.slice S.a n.ands.length S.ac] 27)).heap.size (w.alloc (.cells #[.int .i64 n.vars,.slice S.i n.inputs.length S.ic,.slice S.l n.latches.length S.lc,.slice S.o n.outs.length S.oc,.slice S.b n.bads.length S.bc,.slice S.c n.cons.length S.cc,.slice S.m n.mems.length S.mc,.slice S.a n.ands.length S.ac] 27)) W)=>once_any n S W (NetAt.later HB.out.2.2 hb hb.size) HMo.out (told_of HR.out hfit) HW.out.vars
        have HLT:=Lib.hid fun (W:World) (hb:Below (w.alloc (.cells #[.int .i64 n.vars,.slice S.i n.inputs.length S.ic,.slice S.l n.latches.length S.lc,.slice S.o n.outs.length S.oc,.slice S.b n.bads.length S.bc,.slice S.c n.cons.length S.cc,.slice S.m n.mems.length S.mc,.slice S.a n.ands.length S.ac] 27)).heap.size (w.alloc (.cells #[.int .i64 n.vars,.slice S.i n.inputs.length S.ic,.slice S.l n.latches.length S.lc,.slice S.o n.outs.length S.oc,.slice S.b n.bads.length S.bc,.slice S.c n.cons.length S.cc,.slice S.m n.mems.length S.mc,.slice S.a n.ands.length S.ac] 27)) W)=>literals_any n S W (NetAt.later HB.out.2.2 hb hb.size) HMo.out (by have:=lits_small HW.out hfit;omega)
        have HLS:=Lib.hid (lits_small HW.out hfit)
        clear hwd hlw hfit
        by_cases ho:n.once=0
        · rw [ho] at HDF
          have HO:=Lib.hid ho
          have HMK:=Lib.hid fun (W:World)=>make_any n.vars true hv0 (by omega) W
          have hmk:mkl n.vars true=2*n.vars+1:=rfl
          rw [hmk] at HMK
          clear ho hmk
          go_enter Tryz.func67,Tryz.ntmps67
          go_wp2_with (first | (go_at_call 103;refine HQ.out.mono ?_;rintro e w3 ⟨rfl,hb3⟩;obtain ⟨e0,e1,e2,e3,e4,e5,e6,e7,e8⟩:=HB.out.2.1.below hb3 HB.out.2.1.lt) | (go_at_call 104;refine (HWD.out _ hb3).mono ?_;rintro e w4 ⟨rfl,hb4⟩;obtain ⟨f0,f1,f2,f3,f4,f5,f6,f7,f8⟩:=HB.out.2.1.below (below_on hb3 hb4) HB.out.2.1.lt) | (go_at_call 106;refine (HLW.out _ (below_on hb3 hb4)).mono ?_;rintro e w5 ⟨rfl,hb5⟩;obtain ⟨g0,g1,g2,g3,g4,g5,g6,g7,g8⟩:=HB.out.2.1.below (below_on hb3 (below_on hb4 hb5)) HB.out.2.1.lt) | (go_at_call 108;refine (HDF.out _ (below_on hb3 (below_on hb4 hb5))).mono ?_;rintro e w6 ⟨rfl,hb6⟩;obtain ⟨k0,k1,k2,k3,k4,k5,k6,k7,k8⟩:=HB.out.2.1.below (below_on hb3 (below_on hb4 (below_on hb5 hb6))) HB.out.2.1.lt) | (go_at_call 71;refine (HMK.out _).mono ?_;rintro e w' ⟨rfl,rfl⟩) | (go_at_call 109;refine (HLT.out _ (below_on hb3 (below_on hb4 (below_on hb5 hb6)))).mono ?_;rintro e w7 ⟨v7,rfl,hO7⟩;obtain ⟨A7,c7,rfl,hs7,hc7,hd7⟩:=hO7.form))
          have HB7:=Lib.hid (below_on HB.out.1 (below_on hb3 (below_on hb4 (below_on hb5 (below_on hb6 hO7.2.1)))))
          have HS7:=Lib.hid hs7
          have hl7:=HLS.out
          clear e0 e1 e2 e3 e4 e5 e6 e7 e8 f0 f1 f2 f3 f4 f5 f6 f7 f8 g0 g1 g2 g3 g4 g5 g6 g7 g8 k0 k1 k2 k3 k4 k5 k6 k7 k8 hb3 hb4 hb5 hb6 hO7 hs7 hc7 hd7
          go_loopg [29] n.lits.length (fun m s29 wx=>∃ k:Nat,k+m=n.lits.length∧s29=.int .i64 k∧Aside ((n.lits.take k).any (outB n.vars)=false)∧w7=wx)
          case atStart=>exact ⟨0,by omega,rfl,by simp [Aside],rfl⟩
          case round =>
            obtain ⟨i,hi,rfl,HK,rfl⟩:=hrel
            generalize gk=m3 at *
            by_cases hil:i<n.lits.length
            · obtain ⟨x,hx⟩:=some_of_lt hil
              have hiI:(i:Int)<(n.lits.length:Int):=by omega
              obtain ⟨b,o,rfl,hbg,hcell⟩:=HS7.out.at hx
              have hx0:=hcell i x hx
              by_cases hq:0≤x∧x≤2*n.vars+1
              · have HN2:=Lib.hid (any_take hx HK.out (show outB n.vars x=false by unfold outB;simp;omega))
                have HC:=Lib.hid fun (W:World)=>within_yes x 0 (2*n.vars+1) W hq
                clear hcell hx hq
                go_wp2_with (go_at_call 110;refine (HC.out _).mono ?_;rintro e w' ⟨rfl,rfl⟩)
                go_roundg (m3 - 1)
                case measure=>omega
                case rel=>exact ⟨i+1,by omega,by first | rfl | simp,HN2.out,rfl⟩
              · have HN2:=Lib.hid (sound_loose HL.out HWD0.out HLW0.out HO.out (any_yes hx (show outB n.vars x=true by unfold outB;simp;omega)))
                have HC:=Lib.hid fun (W:World)=>within_no x 0 (2*n.vars+1) W (by omega)
                clear hcell hx hq
                go_wp2_with (go_at_call 110;refine (HC.out _).mono ?_;rintro e w' ⟨rfl,rfl⟩)
                go_ret
                exact ⟨ret_int HN2.out.symm,HB7.out⟩
            · have hin:¬ ((i:Int)<(n.lits.length:Int)):=by omega
              have HN2:=Lib.hid (sound_ok HL.out HWD0.out HLW0.out HO.out (show n.loose=false from any_done hil HK.out))
              clear HK
              go_wp2
              go_ret
              exact ⟨ret_int HN2.out.symm,HB7.out⟩
        · have hne:(n.once != 0)=true:=by rw [bne_iff_ne];exact ho
          have HN2:=Lib.hid (sound_once HL.out HWD0.out HLW0.out ho)
          clear ho
          go_enter Tryz.func67,Tryz.ntmps67
          go_wp2_with (first | (go_at_call 103;refine HQ.out.mono ?_;rintro e w3 ⟨rfl,hb3⟩;obtain ⟨e0,e1,e2,e3,e4,e5,e6,e7,e8⟩:=HB.out.2.1.below hb3 HB.out.2.1.lt) | (go_at_call 104;refine (HWD.out _ hb3).mono ?_;rintro e w4 ⟨rfl,hb4⟩;obtain ⟨f0,f1,f2,f3,f4,f5,f6,f7,f8⟩:=HB.out.2.1.below (below_on hb3 hb4) HB.out.2.1.lt) | (go_at_call 106;refine (HLW.out _ (below_on hb3 hb4)).mono ?_;rintro e w5 ⟨rfl,hb5⟩;obtain ⟨g0,g1,g2,g3,g4,g5,g6,g7,g8⟩:=HB.out.2.1.below (below_on hb3 (below_on hb4 hb5)) HB.out.2.1.lt) | (go_at_call 108;refine (HDF.out _ (below_on hb3 (below_on hb4 hb5))).mono ?_;rintro e w6 ⟨rfl,hb6⟩))
          go_ret
          exact ⟨ret_int HN2.out.symm,below_on HB.out.1 (below_on hb3 (below_on hb4 (below_on hb5 hb6)))⟩
theorem Tryz.laidOut:laidOutB Tryz.prog=true:=by kernel_rfl
theorem all_stay {H:Type} {enc:TypeId × Value→H} {P:Program} (hl:laidOutB P=true) {W W':World} (ts:List TypeId) (hr:(ts.all fun t=>P.readableRec t && decide (t<P.types.size))=true) (hb:Below W.heap.size W W') :
    ∀ (vs:List Value) (ds:List (DataW H)) (ps:List MemPlace),DataW.TrodAll enc P W 0 (fun _=>true) true ts vs ds ps→(∀ x∈ps,x.block<W.heap.size) →
      DataW.TrodAll enc P W' 0 (fun b=>decide (b<W.heap.size)) true ts vs ds ps:=by
  induction ts with
  | nil =>
    intro vs ds ps h _
    obtain ⟨rfl,rfl,rfl⟩:=trodAll_nil h
    exact trodAll_mk0
  | cons t ts ih =>
    intro vs ds ps h hlt
    obtain ⟨v0,vs0,d0,ds0,p0,q0,rfl,rfl,rfl,h0,r0⟩:=trodAll_cons h
    simp only [List.all_cons,Bool.and_eq_true,decide_eq_true_eq] at hr
    exact trodAll_cons_mk (Below.trod hl hr.1.1 hr.1.2 h0 hb (fun x hx=>hlt x (List.mem_append_left _ hx)))
      (ih (by simpa using hr.2) vs0 ds0 q0 r0 (fun x hx=>hlt x (List.mem_append_right _ hx)))
end Go.Proofs.YtldnepogjnahfaaGreatDoor
