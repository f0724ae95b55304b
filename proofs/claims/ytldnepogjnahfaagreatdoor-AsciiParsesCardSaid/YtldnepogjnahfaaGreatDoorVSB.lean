/- The document's own reader of layer 3 by contracts: Byte and Want answer what the program's answer (conditions: the reader's row lies in memory, and its bytes can be read; texts of at most 1000 bytes); The contract of the document's own Want (conditions: the reader's row lies in memory, and its bytes can be read; texts of at most 1000 bytes); The contract of the document's own Number (conditions: the reader's row lies in memory, and its bytes can be read; most is an int64). -/
import Derived.Test.YtldnepogjnahfaaGreatDoorVSA
namespace Go.Proofs.YtldnepogjnahfaaGreatDoor.Sc
open Go.ChangeShapes Go.WideShapes Go.RowKit
set_option linter.unusedVariables false
theorem mat_le (l bs:List Int):mat l bs≤l.length∧mat l bs≤bs.length:=by
  induction l generalizing bs with
  | nil=>unfold mat;simp
  | cons x xs ih =>
    cases bs with
    | nil=>unfold mat;simp
    | cons y ys =>
      have:=ih ys
      unfold mat
      split <;> simp <;> omega
theorem wantN_le (l bs:List Int):wantN l bs≤l.length:=by
  unfold wantN
  have:=mat_le l bs
  split <;> omega
theorem wantN_bad (l bs:List Int) (i:Nat) (h:(wantA l bs i).2≠0):wantN l bs=0:=by
  unfold wantA at h
  unfold wantN
  split
  · rename_i h1;rw [if_pos h1] at h;exact absurd rfl h
  · rfl
theorem digs_len (l:List Int):digs l≤l.length:=by unfold digs;exact (List.takeWhile_sublist _).length_le
theorem numN_le (l:List Int) (most:Int):numN l most≤l.length:=by
  unfold numN
  have:=digs_len l
  split
  · omega
  · split
    · omega
    · split <;> omega
def Rf (w:World) (x B:Nat) (xs:List Int) (i:Nat):Prop :=
  ∃ a c,w.heap[x]?=some (.cells #[.slice a xs.length c,.int .i64 i] 130 (0,0))∧xs.length≤400000∧i≤xs.length∧Src w B a xs
theorem Rf.below {w w':World} {x B:Nat} {xs:List Int} {i:Nat} (h:Rf w x B xs i) (hw:Below w.heap.size w w') (hB:B≤w.heap.size):Rf w' x B xs i:=by
  obtain ⟨a,c,h1,h2,h3,h4⟩:=h
  exact ⟨a,c,(hw.block x (lt_of_row h1)).trans h1,h2,h3,h4.keep (r:=w.heap.size) (fun k hk _=>hw.block k hk) hw.size hB⟩
theorem Rf.lt {w:World} {x B:Nat} {xs:List Int} {i:Nat} (h:Rf w x B xs i):x<w.heap.size:=by
  obtain ⟨a,c,h1,_⟩:=h
  exact lt_of_row h1
theorem Rf.drewN {w:World} {x B:Nat} {xs:List Int} {i:Nat} (h:Rf w x B xs i) (hB:B≤x) (n:Nat):Rf (w.drewN n) x B xs i :=
  h.below (below_drewN (Below.refl _ _) n) (by have:=h.lt;omega)
theorem Rf.put {w:World} {x B:Nat} {xs:List Int} {i:Nat} (h:Rf w x B xs i) (hB:B≤x) (i':Nat) (hi:i'≤xs.length):Rf (w.setCell ⟨x,1,none⟩ (.int .i64 i')) x B xs i':=by
  obtain ⟨a,c,h1,h2,h3,h4⟩:=h
  exact ⟨a,c,heap_setCell_same w x 1 _ _ _ h1,h2,hi,h4.only ((Only.refl x w).setCell 1 _) hB⟩
theorem Rf.cells {w:World} {x B:Nat} {xs:List Int} {i:Nat} (h:Rf w x B xs i):∃ a c,w.cell? ⟨x,0,none⟩=some (.slice a xs.length c)∧w.cell? ⟨x,1,none⟩=some (.int .i64 i)∧w.frozen? ⟨x,1,none⟩=false:=by
  obtain ⟨a,c,h1,h2,h3,h4⟩:=h
  exact ⟨a,c,by rw [cell_of_row _ _ _ _ _ _ h1];rfl,by rw [cell_of_row _ _ _ _ _ _ h1];rfl,frozen_of_row _ _ _ _ _ h1⟩
theorem Rf.full {w:World} {x B:Nat} {xs:List Int} {i:Nat} (h:Rf w x B xs i) (h0:0<xs.length):∃ b o c,w.cell? ⟨x,0,none⟩=some (.slice (some ⟨b,o,none⟩) xs.length c)∧w.cell? ⟨x,1,none⟩=some (.int .i64 i)∧w.frozen? ⟨x,1,none⟩=false ∧
    ∀ j,j<xs.length→w.cell? ⟨b,o+j,none⟩=some (.int .u8 (xs.getD j 0)):=by
  obtain ⟨a,c,h1,h2,h3,h4⟩:=h
  obtain ⟨b,o,rfl,_,_,hc⟩:=h4 (by intro e;subst e;simp at h0)
  exact ⟨b,o,c,by rw [cell_of_row _ _ _ _ _ _ h1];rfl,by rw [cell_of_row _ _ _ _ _ _ h1];rfl,frozen_of_row _ _ _ _ _ h1,hc⟩
def RReads (x B:Nat) (w:World) (v:Value) (xs:List Int) (i:Nat) (e:Ending) (w':World):Prop:=e=.returned v∧Rf w' x B xs i∧Only x w w'
theorem drop_at (xs:List Int) (i k:Nat):(xs.drop i).getD k 0=xs.getD (i+k) 0:=by simp [List.getD]
set_option maxHeartbeats 1000000 in
theorem rwant_any (x B i:Nat) (xs:List Int) (s:ByteArray) (w:World) (h:Rf w x B xs i) (hB:B≤x) (hs:s.size≤1000) :
    Calls Tryz.prog 80 #[.pointer (some ⟨x,0,none⟩),.string s] w
      (RReads x B w (two ((wantA (xs.drop i) (sbytes s) i).2,(wantA (xs.drop i) (sbytes s) i).1)) xs (i+wantN (xs.drop i) (sbytes s))):=by
  have H:=Lib.hid h
  have HF:=Lib.hid (fun h0=>h.full h0)
  obtain ⟨a,c,k0,k1,f1⟩:=h.cells
  obtain ⟨_,_,_,hn200,hin,_⟩:=h
  have hlen:(xs.drop i).length=xs.length - i:=List.length_drop
  have hda:=Lib.hid (drop_at xs i)
  obtain ⟨l,hl⟩:∃ l,xs.drop i=l:=⟨_,rfl⟩
  rw [hl] at hlen hda ⊢
  have HL:=Lib.hid (And.intro hl hlen)
  have hbl:=Lib.hid (sbytes_len s)
  have hwl:=Lib.hid (wantN_le l (sbytes s))
  have HX:Hid (∀ (W:World) (k:Nat),k<s.size→(Instr.index 9 (.string s) (.int .i64 (k:Int))).run Tryz.prog W=.ok (.int .u8 ((sbytes s).getD k 0)) W):=Lib.hid (fun W k hk=>by
    rw [run_index_string W 9 s .i64 k Tryz.underlying9,dif_pos ⟨by omega,by omega⟩,sbytes_at s k hk]
    rfl)
  have hsz:(0:Int)≤(s.size:Int):=by omega
  have hsz1:(s.size:Int)≤1000:=by omega
  have hi0:(0:Int)≤(i:Int):=by omega
  have hi1:(i:Int)≤400000:=by omega
  have hx0:(0:Int)≤(xs.length:Int):=by omega
  have hx1:(xs.length:Int)≤400000:=by omega
  clear hl hlen
  go_enter Tryz.func80,Tryz.ntmps80
  go_wp2_with fail
  go_loopg [6] (s.size) (fun m s6 wx=>∃ k n:Nat,k+m=s.size∧s6=.int .i64 k∧Aside (∀ j,j<k→j<l.length∧l.getD j 0=(sbytes s).getD j 0)∧wx=w.drewN n)
  case atStart=>exact ⟨0,0,by omega,rfl,fun j hj=>by omega,rfl⟩
  case round =>
    obtain ⟨k,n,hk,rfl,HI0,rfl⟩:=hrel
    generalize gk=m at *
    have HI:Hid (∀ j,j<k→j<l.length∧l.getD j 0=(sbytes s).getD j 0):=Lib.hid HI0
    clear HI0
    have hk0:(0:Int)≤(k:Int):=by omega
    have hkle:k≤l.length:=by
      rcases Nat.eq_zero_or_pos k with h0 | h0
      · omega
      · have:=(HI.out (k - 1) (by omega)).1;omega
    by_cases hlt:k<s.size
    · have hltI:(k:Int)<(s.size:Int):=by omega
      by_cases hkl:k=l.length
      · have hm:mat l (sbytes s)=k:=mat_eq l _ k (fun j hj=>(HI.out j hj).2) (by omega) (by rw [hbl.out];omega) (.inr (.inl hkl))
        have HR:Hid (wantN l (sbytes s)=0):=Lib.hid (by unfold wantN;rw [if_neg (by rw [hm,hbl.out];omega)])
        have HA:Hid (wantA l (sbytes s) i=(((i+k:Nat):Int),12)):=Lib.hid (by unfold wantA;rw [if_neg (by rw [hm,hbl.out];omega),hm,if_pos hkl])
        have hki:(xs.length:Int)≤(i:Int)+(k:Int):=by have:=HL.out.2;omega
        clear hm hkl hkle
        go_wp2_with fail
        go_quiet (fail)
        go_wp2_with fail
        go_quiet (fail)
        go_wp2_with fail
        go_ret2
        refine ⟨?_,?_,by repeat (first | exact Only.refl _ _ | refine Only.drewN ?_ _)⟩
        · rw [HA.out];unfold two;simp
        · rw [HR.out];repeat (first | exact H.out | refine Rf.drewN ?_ hB _)
      · have hkl2:k<l.length:=by omega
        have hki:(i:Int)+(k:Int)<(xs.length:Int):=by have:=HL.out.2;omega
        obtain ⟨b,o,d,k0',k1',f1',hc⟩:=HF.out (by have:=HL.out.2;omega)
        have hcell:=hc (i+k) (by have:=HL.out.2;omega)
        rw [← hda.out k] at hcell
        have hixk:=fun W=>HX.out W k hlt
        have HK:=Lib.hid hkl2
        clear hc k0 k1 f1 hkl hkle
        by_cases hxy:l.getD k 0=(sbytes s).getD k 0
        · have HI2:=Lib.hid (show ∀ j,j<k+1→j<l.length∧l.getD j 0=(sbytes s).getD j 0 from fun j hj=>by
            by_cases e:j=k
            · subst e;exact ⟨HK.out,hxy⟩
            · exact HI.out j (by omega))
          rw [hxy] at hcell
          generalize (sbytes s).getD k 0=y at hcell hixk
          clear hxy hkl2
          go_wp2_with fail
          go_quiet (fail)
          go_wp2_with fail
          go_quiet (fail)
          go_wp2_with fail
          go_roundg (m - 1)
          case measure=>omega
          case rel=>exact ⟨k+1,_,by omega,by first | rfl | simp,HI2.out,rfl⟩
        · have hm:mat l (sbytes s)=k:=mat_eq l _ k (fun j hj=>(HI.out j hj).2) (by omega) (by rw [hbl.out];omega) (.inr (.inr hxy))
          have HR:Hid (wantN l (sbytes s)=0):=Lib.hid (by unfold wantN;rw [if_neg (by rw [hm,hbl.out];omega)])
          have HA:Hid (wantA l (sbytes s) i=(((i+k:Nat):Int),2)):=Lib.hid (by unfold wantA;rw [if_neg (by rw [hm,hbl.out];omega),hm,if_neg (by omega)])
          generalize (sbytes s).getD k 0=y at hixk hxy
          generalize l.getD k 0=z at hcell hxy
          clear hm hkl2
          go_wp2_with fail
          go_quiet (fail)
          go_wp2_with fail
          go_quiet (fail)
          go_wp2_with fail
          go_quiet (fail)
          go_wp2_with fail
          go_ret2
          refine ⟨?_,?_,by repeat (first | exact Only.refl _ _ | refine Only.drewN ?_ _)⟩
          · rw [HA.out];unfold two;simp
          · rw [HR.out];repeat (first | exact H.out | refine Rf.drewN ?_ hB _)
    · have hm:mat l (sbytes s)=k:=mat_eq l _ k (fun j hj=>(HI.out j hj).2) hkle (by rw [hbl.out];omega) (.inl (by rw [hbl.out];omega))
      have HR:Hid (wantN l (sbytes s)=s.size):=Lib.hid (by unfold wantN;rw [if_pos (by rw [hm,hbl.out];omega),hbl.out])
      have HA:Hid (wantA l (sbytes s) i=(-1,0)):=Lib.hid (by unfold wantA;rw [if_pos (by rw [hm,hbl.out];omega)])
      have hltI:¬ ((k:Int)<(s.size:Int)):=by omega
      have hle:i+s.size≤xs.length:=by have:=HL.out.2;have:=hwl.out;rw [HR.out] at this;omega
      have hP:=Lib.hid (fun n=>(H.out.drewN hB n).put hB (i+s.size) hle)
      clear hm hkle
      go_wp2_with fail
      go_ret2
      refine ⟨?_,?_,?_⟩
      · rw [HA.out];rfl
      · rw [HR.out]
        have:=hP.out n
        have e:((i+s.size:Nat):Int)=(i:Int)+(s.size:Int):=by omega
        rw [e] at this
        exact this
      · exact ((Only.refl x w).drewN n).setCell 1 _
theorem quiet_of_drew {P:Program} {f:FuncId} {args:Array Value} {w:World} {n m:Nat} {v:Value} (h:Calls P f args (w.drewN (n+m)) fun e w'=>e=.returned v∧w'=w.drewN (n+m)):Calls P f args (w.drewN (n+m)) fun e w''=>e=.returned v∧∃ k,w''=w.drewN (n+k) :=
  h.mono fun _ _ ⟨he,hm⟩=>⟨he,m,hm⟩
theorem rdigit_is (y:Int) (b:Bool) (h:isDig y=b) (w:World):Calls Tryz.prog 197 #[.int .u8 y] w fun e w'=>e=.returned (.bool b)∧w'=w:=by
  subst h
  by_cases h1:48≤y
  all_goals
    go_enter Tryz.func197,Tryz.ntmps197
    go_wp2
    go_ret
    exact ⟨by first | (simp [isDig,h1];done) | (simp [isDig];omega),rfl⟩
theorem rnum_none (x B i:Nat) (xs:List Int) (most:Int) (w:World) (h:Rf w x B xs i) (hB:B≤x) (hi:i=xs.length) :
    Calls Tryz.prog 138 #[.pointer (some ⟨x,0,none⟩),.int .i64 most] w (RReads x B w (two (0,12)) xs i):=by
  have H:=Lib.hid h
  obtain ⟨a,c,k0,k1,f1⟩:=h.cells
  have hiI:(i:Int)=(xs.length:Int):=by omega
  clear h hi
  go_enter Tryz.func138,Tryz.ntmps138
  go_wp2_with fail
  go_quiet (fail)
  go_wp2_with fail
  go_ret2
  refine ⟨rfl,?_,by repeat (first | exact Only.refl _ _ | refine Only.drewN ?_ _)⟩
  repeat (first | exact H.out | refine Rf.drewN ?_ hB _)
theorem rnum_no (x B i:Nat) (xs:List Int) (most:Int) (w:World) (h:Rf w x B xs i) (hB:B≤x) (hi:i<xs.length) (hx:isDig (xs.getD i 0)=false) :
    Calls Tryz.prog 138 #[.pointer (some ⟨x,0,none⟩),.int .i64 most] w (RReads x B w (two (0,2)) xs i):=by
  have H:=Lib.hid h
  obtain ⟨b,o,c,k0,k1,f1,hc⟩:=h.full (by omega)
  have hcell:=hc i hi
  have hiI:(i:Int)<(xs.length:Int):=by omega
  have hi0:(0:Int)≤(i:Int):=by omega
  generalize xs.getD i 0=y at hcell hx
  have HX:=Lib.hid (rdigit_is y false hx)
  clear h hi hc hx
  go_enter Tryz.func138,Tryz.ntmps138
  go_wp2_with fail
  go_quiet (fail)
  go_wp2_with fail
  go_quiet (first | (go_at_call 197;refine quiet_of_drew (HX.out _)))
  go_wp2_with fail
  go_ret2
  refine ⟨rfl,?_,by repeat (first | exact Only.refl _ _ | refine Only.drewN ?_ _)⟩
  repeat (first | exact H.out | refine Rf.drewN ?_ hB _)
theorem Fit.nz {l:List Int} {most:Int} {q:Nat} (h:Fit l most q) (h0:l.getD 0 0≠48∨digs l=1) (hq:q<digs l):¬ (1≤q∧val l q=0):=fun ⟨h1,h2⟩=>by
  rcases h0 with h0 | h0
  · exact h0 (val_zero l q (fun j hj=>(h.2 j hj).1) h1 h2)
  · omega
theorem num_zero {l:List Int} {most:Int} (h0:l.getD 0 0=48) (h2:2≤digs l):numA l most=(0,4)∧numN l most=0:=by
  have hn:l≠[]:=by intro e;subst e;simp at h0
  have hx:isDig (l.getD 0 0)=true:=by rw [h0];rfl
  have hb:bad l most=true:=by unfold bad;rw [decide_eq_true h0,decide_eq_true h2];rfl
  constructor
  · unfold numA;rw [if_neg hn,if_neg (by rw [hx];simp),if_pos hb]
  · unfold numN;rw [if_neg hn,if_neg (by rw [hx];simp),if_pos hb]
theorem digs_all (l:List Int) (j:Nat) (h:j<digs l):isDig (l.getD j 0)=true:=by
  induction j generalizing l with
  | zero =>
    cases l with
    | nil=>simp [digs] at h
    | cons y ys =>
      unfold digs at h
      rw [List.takeWhile_cons] at h
      split at h
      · rename_i hy;simpa using hy
      · simp at h
  | succ j ih =>
    cases l with
    | nil=>simp [digs] at h
    | cons y ys =>
      unfold digs at h
      rw [List.takeWhile_cons] at h
      split at h
      · have:=ih ys (by unfold digs;simpa using h)
        simpa using this
      · simp at h
set_option maxRecDepth 20000 in
set_option maxHeartbeats 4000000 in
theorem rnum_dig (x B i:Nat) (xs l:List Int) (most:Int) (w:World) (h:Rf w x B xs i) (hB:B≤x) (hi:i<xs.length) (hm:-9223372036854775808≤most) (hm2:most<9223372036854775808)
    (hn200:xs.length≤400000) (hlen:i+l.length=xs.length) (hda:∀ k,l.getD k 0=xs.getD (i+k) 0) (hbt:∀ j,j<l.length→0≤l.getD j 0∧l.getD j 0<256) (hx:isDig (l.getD 0 0)=true) :
    Calls Tryz.prog 138 #[.pointer (some ⟨x,0,none⟩),.int .i64 most] w (RReads x B w (two (numA l most)) xs (i+numN l most)):=by
  have H:=Lib.hid h
  obtain ⟨b,o,c,k0,k1,f1,hc⟩:=h.full (by omega)
  have HC:Hid (∀ k,k<l.length→w.cell? ⟨b,o+(i+k),none⟩=some (.int .u8 (l.getD k 0))):=Lib.hid (fun k hk=>by rw [hda k];exact hc (i+k) (by omega))
  have hcell:w.cell? ⟨b,o+i,none⟩=some (.int .u8 (l.getD 0 0)):=HC.out 0 (by omega)
  have HB:=Lib.hid hbt
  have HX0:=Lib.hid hx
  have hiI:(i:Int)<(xs.length:Int):=by omega
  have hgeN:¬ xs.length≤i:=by omega
  have hgeI:¬ ((xs.length:Int)≤(i:Int)):=by omega
  have hi0:(0:Int)≤(i:Int):=by omega
  have hi1:(i:Int)≤400000:=by omega
  have hx0:(0:Int)≤(xs.length:Int):=by omega
  have hx1:(xs.length:Int)≤400000:=by omega
  have HL:=Lib.hid hlen
  have HE:∃ x0,l.getD 0 0=x0:=⟨_,rfl⟩
  obtain ⟨x0,he0⟩:=HE
  rw [he0] at hcell hx
  have HE0:=Lib.hid he0
  have hdg:=Lib.hid (rdigit_is x0 true hx)
  have hfin:Hid (∀ (wz:World) (e:Nat),e≤xs.length→Only x w wz→Rf wz x B xs i→Rf (wz.setCell ⟨x,1,none⟩ (.int .i64 e)) x B xs e∧Only x w (wz.setCell ⟨x,1,none⟩ (.int .i64 e))):=Lib.hid (fun wz e he ho hr=>⟨hr.put hB e he,ho.setCell 1 _⟩)
  clear h hc hda hbt hx hlen he0
  go_enter Tryz.func138,Tryz.ntmps138
  go_wp2_with fail
  go_quiet (fail)
  go_wp2_with fail
  go_quiet (first | (go_at_call 197;refine quiet_of_drew (hdg.out _)))
  go_wp2_with fail
  go_loopg [6] (xs.length - i) (fun m s6 wx=>∃ e n k:Nat,e+m=xs.length∧Aside (e=i+k)∧s6=.int .i64 e∧Aside (∀ j,j<k→isDig (l.getD j 0)=true)∧wx=w.drewN n)
  case atStart=>exact ⟨i,_,0,by omega,by simp [Aside],rfl,fun j hj=>by omega,rfl⟩
  case round =>
    obtain ⟨e,n,k,hk,hek0,rfl,HI0,rfl⟩:=hrel
    generalize gk=m at *
    have hek:Hid (e=i+k):=Lib.hid hek0
    have HI:Hid (∀ j,j<k→isDig (l.getD j 0)=true):=Lib.hid HI0
    clear HI0 hek0
    have he0:(0:Int)≤(e:Int):=by omega
    have he1:(e:Int)≤400000:=by omega
    by_cases hgo:e<xs.length∧isDig (l.getD k 0)=true
    · obtain ⟨hlt,hdk⟩:=hgo
      have hI2:=Lib.hid (show ∀ j,j<k+1→isDig (l.getD j 0)=true from fun j hj=>by
        by_cases e:j=k
        · subst e;exact hdk
        · exact HI.out j (by omega))
      have hck:=HC.out k (by have:=hek.out;have:=HL.out;omega)
      rw [← hek.out] at hck
      have hltI:(e:Int)<(xs.length:Int):=by omega
      generalize l.getD k 0=y at hck hdk
      have hdy:=Lib.hid (rdigit_is y true hdk)
      clear hdk
      go_wp2_with (first | (go_at_call 197;refine (hdy.out _).mono ?_;rintro e w' ⟨rfl,rfl⟩))
      go_roundg (m - 1)
      case measure=>omega
      case rel=>exact ⟨e+1,_,k+1,by omega,by have:=hek.out;simp only [Aside];omega,by first | rfl | simp,hI2.out,rfl⟩
    · have hstop:(e=xs.length)∨(e<xs.length∧isDig (l.getD k 0)=false):=by
        by_cases h1:e<xs.length
        · right
          refine ⟨h1,?_⟩
          rcases Bool.eq_false_or_eq_true (isDig (l.getD k 0)) with h2 | h2
          · exact absurd ⟨h1,h2⟩ hgo
          · exact h2
        · exact .inl (by omega)
      have HD:Hid (digs l=k):=Lib.hid (digs_eq l k HI.out (by have:=hek.out;have:=HL.out;omega) (by
        rcases hstop with h1 | h1
        · exact .inl (by have:=hek.out;have:=HL.out;omega)
        · exact .inr h1.2))
      have hk1:1≤k:=by
        have:=HD.out
        have:=digs_ge l 1 (fun j hj=>by
          have e0:j=0:=by omega
          subst e0;exact HX0.out) (by have:=HL.out;omega)
        omega
      have hE:Hid (∀ wz:World,True):=Lib.hid (fun _=>trivial)
      clear hgo
      rcases hstop with hs1 | ⟨hs1,hs2⟩
      · have hltI:¬ ((e:Int)<(xs.length:Int)):=by omega
        clear hs1
        by_cases hz:x0=48∧2≤k
        · obtain ⟨rfl,hk2⟩:=hz
          have HA:=Lib.hid (num_zero (most:=most) HE0.out (by rw [HD.out];omega))
          have hgt:(i:Int)+1<(e:Int):=by have:=hek.out;omega
          go_wp2_with fail
          go_quiet (fail)
          go_wp2_with fail
          go_ret2
          rw [HA.out.1,HA.out.2]
          refine ⟨rfl,?_,by repeat (first | exact Only.refl _ _ | refine Only.drewN ?_ _)⟩
          repeat (first | exact H.out | refine Rf.drewN ?_ hB _)
        · have H1:Hid (l.getD 0 0≠48∨digs l=1):=Lib.hid (by
            rw [HE0.out,HD.out]
            by_cases h0:x0=48
            · right
              have:¬ 2≤k:=fun h=>hz ⟨h0,h⟩
              omega
            · exact .inl h0)
          by_cases h48:x0=48
          · have hgt:¬ ((i:Int)+1<(e:Int)):=by
              have:¬ 2≤k:=fun h=>hz ⟨h48,h⟩
              have:=hek.out;omega
            have hgt2:(e:Int)≤(i:Int)+1:=by omega
            subst h48
            clear hz
            go_wp2_with fail
            go_quiet (fail)
            go_wp2_with fail
            go_loopg [7,8] (e - i) (fun m2 s7 s8 wx=>∃ f q n:Nat,f+m2=e∧Aside (f=i+q)∧s7=.int .i64 (val l q)∧s8=.int .i64 f∧Aside (Fit l most q)∧wx=w.drewN n)
            case atStart=>exact ⟨i,0,_,by have:=hek.out;omega,by simp [Aside],rfl,rfl,Fit.start l most,rfl⟩
            case round =>
              obtain ⟨f,q,n2,hf,hfq0,rfl,rfl,HF0,rfl⟩:=hrel
              generalize gk=m2 at *
              have hfq:Hid (f=i+q):=Lib.hid hfq0
              have HF:Hid (Fit l most q):=Lib.hid HF0
              clear hfq0 HF0
              have hf0:(0:Int)≤(f:Int):=by omega
              have hf1:(f:Int)≤400000:=by omega
              have hv0:0≤val l q:=HF.out.pos
              by_cases hlt:f<e
              · have hql:q<l.length:=by have:=hek.out;have:=hfq.out;have:=HL.out;have:=digs_len l;have:=HD.out;omega
                have hqd:q<digs l:=by have:=hek.out;have:=hfq.out;have:=HD.out;omega
                have hcq:=HC.out q hql
                rw [← hfq.out] at hcq
                have hyd:=digs_all l q hqd
                have hnz:=HF.out.nz H1.out hqd
                have hnext:=Lib.hid (HF.out.next hyd hnz)
                have hfail:=Lib.hid (fun hb=>HF.out.fail hql hyd (.inr hb))
                have hval:Hid (val l (q+1)=val l q*10+(l.getD q 0 - 48)):=Lib.hid rfl
                have hltI:(f:Int)<(e:Int):=by omega
                have hfx:(f:Int)<(xs.length:Int):=by omega
                have hyr:=isDig_lo hyd
                clear hql hqd hnz hyd
                generalize l.getD q 0=y at hcq hyr hnext hfail hval
                generalize val l q=v at hv0 hnext hfail hval
                obtain ⟨hya,hyb⟩:=hyr
                by_cases h1:most<y - 48
                · have HA:=Lib.hid (hfail.out (by unfold big;rw [decide_eq_true h1];rfl))
                  go_wp2_with fail
                  go_ret2
                  rw [HA.out.1,HA.out.2]
                  refine ⟨rfl,?_,by repeat (first | exact Only.refl _ _ | refine Only.drewN ?_ _)⟩
                  repeat (first | exact H.out | refine Rf.drewN ?_ hB _)
                by_cases h2:(most - (y - 48)) / 10<v
                · have HA:=Lib.hid (hfail.out (by unfold big;rw [decide_eq_true h2];simp))
                  have h1b:y - 48≤most:=by omega
                  go_wp2_with fail
                  go_ret2
                  rw [HA.out.1,HA.out.2]
                  refine ⟨rfl,?_,by repeat (first | exact Only.refl _ _ | refine Only.drewN ?_ _)⟩
                  repeat (first | exact H.out | refine Rf.drewN ?_ hB _)
                have hbg:big v (y - 48) most=false:=by unfold big;rw [decide_eq_false h1,decide_eq_false h2];rfl
                have HN:=Lib.hid (hnext.out hbg)
                have hbf:=big_false hbg
                obtain ⟨hb1,hb2⟩:=hbf
                clear hbg
                go_wp2_with fail
                go_roundg (m2 - 1)
                case measure=>omega
                case rel=>exact ⟨f+1,q+1,_,by omega,by have:=hfq.out;simp only [Aside];omega,by rw [hval.out];first | rfl | (congr 1;omega),by first | rfl | simp,HN.out,rfl⟩
              · have hfe:f=e:=by omega
                have hqk:q=k:=by have:=hek.out;have:=hfq.out;omega
                have hltI:¬ ((f:Int)<(e:Int)):=by omega
                have HA:=Lib.hid (HF.out.stop (by have:=HL.out;omega) HX0.out (by have:=digs_len l;have:=HD.out;omega) (by
                  have:=HD.out
                  have:=digs_len l
                  by_cases h:q=l.length
                  · exact .inl h
                  · right
                    rcases Bool.eq_false_or_eq_true (isDig (l.getD q 0)) with h3 | h3
                    · have:=digs_ge l (q+1) (fun j hj=>by
                        by_cases e:j=q
                        · subst e;exact h3
                        · exact digs_all l j (by omega)) (by omega)
                      omega
                    · exact h3))
                generalize val l q=v at hv0 HA
                have HE2:=Lib.hid (show i+q=e by have:=hfq.out;omega)
                have hP:=Lib.hid (fun nn=>hfin.out (w.drewN nn) e (by omega) ((Only.refl x w).drewN nn) (H.out.drewN hB nn))
                clear hfe hqk
                go_wp2_with fail
                go_ret2
                rw [HA.out.1,HA.out.2,HE2.out]
                exact ⟨rfl,(hP.out _).1,(hP.out _).2⟩
          · have hz0:(x0 == 48)=false:=by simpa using h48
            clear hz
            go_wp2_with fail
            go_quiet (fail)
            go_wp2_with fail
            go_loopg [7,8] (e - i) (fun m2 s7 s8 wx=>∃ f q n:Nat,f+m2=e∧Aside (f=i+q)∧s7=.int .i64 (val l q)∧s8=.int .i64 f∧Aside (Fit l most q)∧wx=w.drewN n)
            case atStart=>exact ⟨i,0,_,by have:=hek.out;omega,by simp [Aside],rfl,rfl,Fit.start l most,rfl⟩
            case round =>
              obtain ⟨f,q,n2,hf,hfq0,rfl,rfl,HF0,rfl⟩:=hrel
              generalize gk=m2 at *
              have hfq:Hid (f=i+q):=Lib.hid hfq0
              have HF:Hid (Fit l most q):=Lib.hid HF0
              clear hfq0 HF0
              have hf0:(0:Int)≤(f:Int):=by omega
              have hf1:(f:Int)≤400000:=by omega
              have hv0:0≤val l q:=HF.out.pos
              by_cases hlt:f<e
              · have hql:q<l.length:=by have:=hek.out;have:=hfq.out;have:=HL.out;have:=digs_len l;have:=HD.out;omega
                have hqd:q<digs l:=by have:=hek.out;have:=hfq.out;have:=HD.out;omega
                have hcq:=HC.out q hql
                rw [← hfq.out] at hcq
                have hyd:=digs_all l q hqd
                have hnz:=HF.out.nz H1.out hqd
                have hnext:=Lib.hid (HF.out.next hyd hnz)
                have hfail:=Lib.hid (fun hb=>HF.out.fail hql hyd (.inr hb))
                have hval:Hid (val l (q+1)=val l q*10+(l.getD q 0 - 48)):=Lib.hid rfl
                have hltI:(f:Int)<(e:Int):=by omega
                have hfx:(f:Int)<(xs.length:Int):=by omega
                have hyr:=isDig_lo hyd
                clear hql hqd hnz hyd
                generalize l.getD q 0=y at hcq hyr hnext hfail hval
                generalize val l q=v at hv0 hnext hfail hval
                obtain ⟨hya,hyb⟩:=hyr
                by_cases h1:most<y - 48
                · have HA:=Lib.hid (hfail.out (by unfold big;rw [decide_eq_true h1];rfl))
                  go_wp2_with fail
                  go_ret2
                  rw [HA.out.1,HA.out.2]
                  refine ⟨rfl,?_,by repeat (first | exact Only.refl _ _ | refine Only.drewN ?_ _)⟩
                  repeat (first | exact H.out | refine Rf.drewN ?_ hB _)
                by_cases h2:(most - (y - 48)) / 10<v
                · have HA:=Lib.hid (hfail.out (by unfold big;rw [decide_eq_true h2];simp))
                  have h1b:y - 48≤most:=by omega
                  go_wp2_with fail
                  go_ret2
                  rw [HA.out.1,HA.out.2]
                  refine ⟨rfl,?_,by repeat (first | exact Only.refl _ _ | refine Only.drewN ?_ _)⟩
                  repeat (first | exact H.out | refine Rf.drewN ?_ hB _)
                have hbg:big v (y - 48) most=false:=by unfold big;rw [decide_eq_false h1,decide_eq_false h2];rfl
                have HN:=Lib.hid (hnext.out hbg)
                have hbf:=big_false hbg
                obtain ⟨hb1,hb2⟩:=hbf
                clear hbg
                go_wp2_with fail
                go_roundg (m2 - 1)
                case measure=>omega
                case rel=>exact ⟨f+1,q+1,_,by omega,by have:=hfq.out;simp only [Aside];omega,by rw [hval.out];first | rfl | (congr 1;omega),by first | rfl | simp,HN.out,rfl⟩
              · have hfe:f=e:=by omega
                have hqk:q=k:=by have:=hek.out;have:=hfq.out;omega
                have hltI:¬ ((f:Int)<(e:Int)):=by omega
                have HA:=Lib.hid (HF.out.stop (by have:=HL.out;omega) HX0.out (by have:=digs_len l;have:=HD.out;omega) (by
                  have:=HD.out
                  have:=digs_len l
                  by_cases h:q=l.length
                  · exact .inl h
                  · right
                    rcases Bool.eq_false_or_eq_true (isDig (l.getD q 0)) with h3 | h3
                    · have:=digs_ge l (q+1) (fun j hj=>by
                        by_cases e:j=q
                        · subst e;exact h3
                        · exact digs_all l j (by omega)) (by omega)
                      omega
                    · exact h3))
                generalize val l q=v at hv0 HA
                have HE2:=Lib.hid (show i+q=e by have:=hfq.out;omega)
                have hP:=Lib.hid (fun nn=>hfin.out (w.drewN nn) e (by omega) ((Only.refl x w).drewN nn) (H.out.drewN hB nn))
                clear hfe hqk
                go_wp2_with fail
                go_ret2
                rw [HA.out.1,HA.out.2,HE2.out]
                exact ⟨rfl,(hP.out _).1,(hP.out _).2⟩
      · have hltI:(e:Int)<(xs.length:Int):=by omega
        have hck:=HC.out k (by have:=hek.out;have:=HL.out;omega)
        rw [← hek.out] at hck
        generalize hyk:l.getD k 0=y at hck hs2
        have hdy:=Lib.hid (rdigit_is y false hs2)
        clear hs1 hs2 hyk
        by_cases hz:x0=48∧2≤k
        · obtain ⟨rfl,hk2⟩:=hz
          have HA:=Lib.hid (num_zero (most:=most) HE0.out (by rw [HD.out];omega))
          have hgt:(i:Int)+1<(e:Int):=by have:=hek.out;omega
          go_wp2_with (first | (go_at_call 197;refine (hdy.out _).mono ?_;rintro e w' ⟨rfl,rfl⟩))
          go_quiet (fail)
          go_wp2_with fail
          go_ret2
          rw [HA.out.1,HA.out.2]
          refine ⟨rfl,?_,by repeat (first | exact Only.refl _ _ | refine Only.drewN ?_ _)⟩
          repeat (first | exact H.out | refine Rf.drewN ?_ hB _)
        · have H1:Hid (l.getD 0 0≠48∨digs l=1):=Lib.hid (by
            rw [HE0.out,HD.out]
            by_cases h0:x0=48
            · right
              have:¬ 2≤k:=fun h=>hz ⟨h0,h⟩
              omega
            · exact .inl h0)
          by_cases h48:x0=48
          · have hgt:¬ ((i:Int)+1<(e:Int)):=by
              have:¬ 2≤k:=fun h=>hz ⟨h48,h⟩
              have:=hek.out;omega
            have hgt2:(e:Int)≤(i:Int)+1:=by omega
            subst h48
            clear hz
            go_wp2_with (first | (go_at_call 197;refine (hdy.out _).mono ?_;rintro e w' ⟨rfl,rfl⟩))
            go_quiet (fail)
            go_wp2_with fail
            go_loopg [7,8] (e - i) (fun m2 s7 s8 wx=>∃ f q n:Nat,f+m2=e∧Aside (f=i+q)∧s7=.int .i64 (val l q)∧s8=.int .i64 f∧Aside (Fit l most q)∧wx=w.drewN n)
            case atStart=>exact ⟨i,0,_,by have:=hek.out;omega,by simp [Aside],rfl,rfl,Fit.start l most,rfl⟩
            case round =>
              obtain ⟨f,q,n2,hf,hfq0,rfl,rfl,HF0,rfl⟩:=hrel
              generalize gk=m2 at *
              have hfq:Hid (f=i+q):=Lib.hid hfq0
              have HF:Hid (Fit l most q):=Lib.hid HF0
              clear hfq0 HF0
              have hf0:(0:Int)≤(f:Int):=by omega
              have hf1:(f:Int)≤400000:=by omega
              have hv0:0≤val l q:=HF.out.pos
              by_cases hlt:f<e
              · have hql:q<l.length:=by have:=hek.out;have:=hfq.out;have:=HL.out;have:=digs_len l;have:=HD.out;omega
                have hqd:q<digs l:=by have:=hek.out;have:=hfq.out;have:=HD.out;omega
                have hcq:=HC.out q hql
                rw [← hfq.out] at hcq
                have hyd:=digs_all l q hqd
                have hnz:=HF.out.nz H1.out hqd
                have hnext:=Lib.hid (HF.out.next hyd hnz)
                have hfail:=Lib.hid (fun hb=>HF.out.fail hql hyd (.inr hb))
                have hval:Hid (val l (q+1)=val l q*10+(l.getD q 0 - 48)):=Lib.hid rfl
                have hltI:(f:Int)<(e:Int):=by omega
                have hfx:(f:Int)<(xs.length:Int):=by omega
                have hyr:=isDig_lo hyd
                clear hql hqd hnz hyd
                generalize l.getD q 0=y at hcq hyr hnext hfail hval
                generalize val l q=v at hv0 hnext hfail hval
                obtain ⟨hya,hyb⟩:=hyr
                by_cases h1:most<y - 48
                · have HA:=Lib.hid (hfail.out (by unfold big;rw [decide_eq_true h1];rfl))
                  go_wp2_with fail
                  go_ret2
                  rw [HA.out.1,HA.out.2]
                  refine ⟨rfl,?_,by repeat (first | exact Only.refl _ _ | refine Only.drewN ?_ _)⟩
                  repeat (first | exact H.out | refine Rf.drewN ?_ hB _)
                by_cases h2:(most - (y - 48)) / 10<v
                · have HA:=Lib.hid (hfail.out (by unfold big;rw [decide_eq_true h2];simp))
                  have h1b:y - 48≤most:=by omega
                  go_wp2_with fail
                  go_ret2
                  rw [HA.out.1,HA.out.2]
                  refine ⟨rfl,?_,by repeat (first | exact Only.refl _ _ | refine Only.drewN ?_ _)⟩
                  repeat (first | exact H.out | refine Rf.drewN ?_ hB _)
                have hbg:big v (y - 48) most=false:=by unfold big;rw [decide_eq_false h1,decide_eq_false h2];rfl
                have HN:=Lib.hid (hnext.out hbg)
                have hbf:=big_false hbg
                obtain ⟨hb1,hb2⟩:=hbf
                clear hbg
                go_wp2_with fail
                go_roundg (m2 - 1)
                case measure=>omega
                case rel=>exact ⟨f+1,q+1,_,by omega,by have:=hfq.out;simp only [Aside];omega,by rw [hval.out];first | rfl | (congr 1;omega),by first | rfl | simp,HN.out,rfl⟩
              · have hfe:f=e:=by omega
                have hqk:q=k:=by have:=hek.out;have:=hfq.out;omega
                have hltI:¬ ((f:Int)<(e:Int)):=by omega
                have HA:=Lib.hid (HF.out.stop (by have:=HL.out;omega) HX0.out (by have:=digs_len l;have:=HD.out;omega) (by
                  have:=HD.out
                  have:=digs_len l
                  by_cases h:q=l.length
                  · exact .inl h
                  · right
                    rcases Bool.eq_false_or_eq_true (isDig (l.getD q 0)) with h3 | h3
                    · have:=digs_ge l (q+1) (fun j hj=>by
                        by_cases e:j=q
                        · subst e;exact h3
                        · exact digs_all l j (by omega)) (by omega)
                      omega
                    · exact h3))
                generalize val l q=v at hv0 HA
                have HE2:=Lib.hid (show i+q=e by have:=hfq.out;omega)
                have hP:=Lib.hid (fun nn=>hfin.out (w.drewN nn) e (by omega) ((Only.refl x w).drewN nn) (H.out.drewN hB nn))
                clear hfe hqk
                go_wp2_with fail
                go_ret2
                rw [HA.out.1,HA.out.2,HE2.out]
                exact ⟨rfl,(hP.out _).1,(hP.out _).2⟩
          · have hz0:(x0 == 48)=false:=by simpa using h48
            clear hz
            go_wp2_with (first | (go_at_call 197;refine (hdy.out _).mono ?_;rintro e w' ⟨rfl,rfl⟩))
            go_quiet (fail)
            go_wp2_with fail
            go_loopg [7,8] (e - i) (fun m2 s7 s8 wx=>∃ f q n:Nat,f+m2=e∧Aside (f=i+q)∧s7=.int .i64 (val l q)∧s8=.int .i64 f∧Aside (Fit l most q)∧wx=w.drewN n)
            case atStart=>exact ⟨i,0,_,by have:=hek.out;omega,by simp [Aside],rfl,rfl,Fit.start l most,rfl⟩
            case round =>
              obtain ⟨f,q,n2,hf,hfq0,rfl,rfl,HF0,rfl⟩:=hrel
              generalize gk=m2 at *
              have hfq:Hid (f=i+q):=Lib.hid hfq0
              have HF:Hid (Fit l most q):=Lib.hid HF0
              clear hfq0 HF0
              have hf0:(0:Int)≤(f:Int):=by omega
              have hf1:(f:Int)≤400000:=by omega
              have hv0:0≤val l q:=HF.out.pos
              by_cases hlt:f<e
              · have hql:q<l.length:=by have:=hek.out;have:=hfq.out;have:=HL.out;have:=digs_len l;have:=HD.out;omega
                have hqd:q<digs l:=by have:=hek.out;have:=hfq.out;have:=HD.out;omega
                have hcq:=HC.out q hql
                rw [← hfq.out] at hcq
                have hyd:=digs_all l q hqd
                have hnz:=HF.out.nz H1.out hqd
                have hnext:=Lib.hid (HF.out.next hyd hnz)
                have hfail:=Lib.hid (fun hb=>HF.out.fail hql hyd (.inr hb))
                have hval:Hid (val l (q+1)=val l q*10+(l.getD q 0 - 48)):=Lib.hid rfl
                have hltI:(f:Int)<(e:Int):=by omega
                have hfx:(f:Int)<(xs.length:Int):=by omega
                have hyr:=isDig_lo hyd
                clear hql hqd hnz hyd
                generalize l.getD q 0=y at hcq hyr hnext hfail hval
                generalize val l q=v at hv0 hnext hfail hval
                obtain ⟨hya,hyb⟩:=hyr
                by_cases h1:most<y - 48
                · have HA:=Lib.hid (hfail.out (by unfold big;rw [decide_eq_true h1];rfl))
                  go_wp2_with fail
                  go_ret2
                  rw [HA.out.1,HA.out.2]
                  refine ⟨rfl,?_,by repeat (first | exact Only.refl _ _ | refine Only.drewN ?_ _)⟩
                  repeat (first | exact H.out | refine Rf.drewN ?_ hB _)
                by_cases h2:(most - (y - 48)) / 10<v
                · have HA:=Lib.hid (hfail.out (by unfold big;rw [decide_eq_true h2];simp))
                  have h1b:y - 48≤most:=by omega
                  go_wp2_with fail
                  go_ret2
                  rw [HA.out.1,HA.out.2]
                  refine ⟨rfl,?_,by repeat (first | exact Only.refl _ _ | refine Only.drewN ?_ _)⟩
                  repeat (first | exact H.out | refine Rf.drewN ?_ hB _)
                have hbg:big v (y - 48) most=false:=by unfold big;rw [decide_eq_false h1,decide_eq_false h2];rfl
                have HN:=Lib.hid (hnext.out hbg)
                have hbf:=big_false hbg
                obtain ⟨hb1,hb2⟩:=hbf
                clear hbg
                go_wp2_with fail
                go_roundg (m2 - 1)
                case measure=>omega
                case rel=>exact ⟨f+1,q+1,_,by omega,by have:=hfq.out;simp only [Aside];omega,by rw [hval.out];first | rfl | (congr 1;omega),by first | rfl | simp,HN.out,rfl⟩
              · have hfe:f=e:=by omega
                have hqk:q=k:=by have:=hek.out;have:=hfq.out;omega
                have hltI:¬ ((f:Int)<(e:Int)):=by omega
                have HA:=Lib.hid (HF.out.stop (by have:=HL.out;omega) HX0.out (by have:=digs_len l;have:=HD.out;omega) (by
                  have:=HD.out
                  have:=digs_len l
                  by_cases h:q=l.length
                  · exact .inl h
                  · right
                    rcases Bool.eq_false_or_eq_true (isDig (l.getD q 0)) with h3 | h3
                    · have:=digs_ge l (q+1) (fun j hj=>by
                        by_cases e:j=q
                        · subst e;exact h3
                        · exact digs_all l j (by omega)) (by omega)
                      omega
                    · exact h3))
                generalize val l q=v at hv0 HA
                have HE2:=Lib.hid (show i+q=e by have:=hfq.out;omega)
                have hP:=Lib.hid (fun nn=>hfin.out (w.drewN nn) e (by omega) ((Only.refl x w).drewN nn) (H.out.drewN hB nn))
                clear hfe hqk
                go_wp2_with fail
                go_ret2
                rw [HA.out.1,HA.out.2,HE2.out]
                exact ⟨rfl,(hP.out _).1,(hP.out _).2⟩
end Go.Proofs.YtldnepogjnahfaaGreatDoor.Sc
