/- What is left of a text grows no longer; a text of at most 2000 bytes tells few ands (no condition but those that each theorem names). -/
import Derived.Test.YtldnepogjnahfaaGreatDoorVPSmall
set_option linter.unusedVariables false
namespace Go.Proofs.YtldnepogjnahfaaGreatDoor
open Go.ChangeShapes Go.WideShapes Go.RowKit
theorem Ps.refuse_l (s:Ps) (k a:Int):(s.refuse k a).l=s.l:=by
  unfold Ps.refuse
  split
  · rfl
  · split <;> rfl
theorem Ps.skip_le (s:Ps) (n:Nat):(s.skip n).l.length≤s.l.length:=by
  show (s.l.drop n).length≤_;rw [List.length_drop];omega
theorem Ps.expect_le (s:Ps) (b:List Int):(s.expect b).l.length≤s.l.length:=by
  unfold Ps.expect
  split
  · exact Nat.le_refl _
  · rw [Ps.refuse_l];exact Ps.skip_le _ _
theorem Ps.expect_lt {s:Ps} {b:List Int} (h:(s.expect b).e=none):(s.expect b).l.length+b.length≤s.l.length:=by
  unfold Ps.expect at h ⊢
  cases he:s.e with
  | some y=>rw [he] at h;simp [he] at h
  | none =>
    rw [he] at h
    simp only at h ⊢
    rw [Ps.refuse_l]
    have hm:=mat_le s.l b
    by_cases hb:Sc.mat s.l b=b.length
    · have hw:Sc.wantN s.l b=b.length:=by unfold Sc.wantN;rw [if_pos hb]
      rw [hw]
      show (s.l.drop b.length).length+b.length≤_
      rw [List.length_drop]
      omega
    · exfalso
      refine absurd h (Ps.refuse_none_in ?_)
      unfold Sc.wantA
      rw [if_neg hb]
      split <;> simp
theorem Ps.within_le (s:Ps) (lo hi k:Int):(s.within lo hi k).2.l.length≤s.l.length:=by
  unfold Ps.within
  split
  · exact Nat.le_refl _
  · split
    · rw [Ps.refuse_l];exact Ps.skip_le _ _
    · split
      · rw [Ps.refuse_l];exact Ps.skip_le _ _
      · exact Ps.skip_le _ _
theorem Ps.nextWithin_le (s:Ps) (lo hi k:Int):(s.nextWithin lo hi k).2.l.length≤s.l.length:=Nat.le_trans (Ps.within_le _ _ _ _) (Ps.expect_le _ _)
theorem Ps.nextAny_le (s:Ps):s.nextAny.2.l.length≤s.l.length:=Ps.nextWithin_le s 0 maxN 4
theorem Ps.literal_le (s:Ps) (V:Int):(s.literal V).2.l.length≤s.l.length:=Ps.within_le _ _ _ _
theorem Ps.nextLiteral_le (s:Ps) (V:Int):(s.nextLiteral V).2.l.length≤s.l.length:=Ps.nextWithin_le s 0 (2*V+1) 5
theorem Ps.definition_le (s:Ps) (V:Int) (c:Nat):(s.definition V c).2.l.length≤s.l.length:=by
  unfold Ps.definition
  split
  · rw [Ps.refuse_l];exact Ps.literal_le _ _
  · split
    · rw [Ps.refuse_l];exact Ps.literal_le _ _
    · exact Ps.literal_le s V
theorem Ps.start_le (s:Ps) (v:Int):(s.start v).2.l.length≤s.l.length:=by
  unfold Ps.start
  have h:=Ps.within_le s 0 maxN 4
  split
  · exact h
  · split
    · exact h
    · rw [Ps.refuse_l];exact h
theorem Ps.latchV_le (V v:Int) (s:Ps):(s.latchV V v).2.l.length≤s.l.length:=Nat.le_trans (Ps.start_le _ _) (Nat.le_trans (Ps.expect_le _ _) (Ps.literal_le _ _))
theorem Ps.latch_le (V:Int) (s:Ps):(s.latch V).2.l.length≤s.l.length:=Nat.le_trans (Ps.latchV_le _ _ _) (Nat.le_trans (Ps.expect_le _ _) (Ps.definition_le _ _ _))
theorem Ps.nextLiterals_le (V:Int):∀ (k:Nat) (s:Ps),(Ps.nextLiterals V k s).2.l.length≤s.l.length
  | 0,s=>Nat.le_refl _
  | k+1,s=>Nat.le_trans (Ps.nextLiteral_le _ _) (Ps.nextLiterals_le V k s)
theorem Ps.read_le {df:Ps→Int × Ps} (hd:∀ t,(df t).2.l.length≤t.l.length) (V:Int) (a:Nat) (s:Ps):(s.read df V a).2.l.length≤s.l.length:=Nat.le_trans (Ps.nextLiterals_le _ _ _) (Nat.le_trans (hd _) (Ps.expect_le _ _))
theorem Ps.nextDef_le (V:Int) (k:Nat) (s:Ps):(s.nextDef V k).2.l.length≤s.l.length:=Nat.le_trans (Ps.definition_le _ _ _) (Ps.expect_le _ _)
theorem Ps.write_le (V:Int) (a w:Nat) (s:Ps):(s.write V a w).2.l.length≤s.l.length:=Nat.le_trans (Ps.nextLiterals_le _ _ _) (Nat.le_trans (Ps.nextLiterals_le _ _ _) (Nat.le_trans (Ps.nextLiteral_le _ _) (Ps.expect_le _ _)))
theorem Ps.memory_le (s:Ps):s.memory.2.l.length≤s.l.length:=Nat.le_trans (Ps.nextWithin_le _ _ _ _) (Nat.le_trans (Ps.nextWithin_le _ _ _ _) (Nat.le_trans (Ps.nextWithin_le _ _ _ _) (Nat.le_trans (Ps.nextWithin_le _ _ _ _) (Nat.le_trans (Ps.nextWithin_le _ _ _ _) (Ps.expect_le _ _)))))
theorem linesF_le {α κ:Type} {wf:Ps→α × Ps} {nx:Ps × κ→α→Ps × κ} (h:∀ t,(wf t).2.l.length≤t.l.length) (hn:∀ s x,(nx s x).1.l.length≤s.1.l.length):∀ (cnt:Nat) (s:Ps × κ),(linesF wf nx cnt s).1.l.length≤s.1.l.length
  | 0,s=>Nat.le_refl _
  | k+1,s=>by
    unfold linesF
    have h1:((wf s.1).2.expect [10]).l.length≤s.1.l.length:=Nat.le_trans (Ps.expect_le _ _) (h _)
    split
    · exact Nat.le_refl _
    · split
      · exact h1
      · exact Nat.le_trans (linesF_le h hn k _) (Nat.le_trans (hn _ _) h1)
theorem lines_le {α:Type} {wf:Ps→α × Ps} (h:∀ t,(wf t).2.l.length≤t.l.length) (cnt:Nat) (s:Ps):(s.lines wf cnt).2.l.length≤s.l.length:=linesF_le (nx:=push) h (fun s x=>Nat.le_refl _) cnt (s,[])
theorem Ps.ports_le (V:Int) (x:PShape) (s:Ps):(s.ports (fun k t=>t.nextDef V k) V x).2.l.length≤s.l.length:=Nat.le_trans (lines_le (fun t=>Ps.write_le _ _ _ t) _ _) (lines_le (fun t=>Ps.read_le (fun t=>Ps.nextDef_le _ _ t) _ _ t) _ _)
theorem Ps.and_lt {V:Int} {s:Ps} (h:((s.and V).2.expect [10]).e=none):((s.and V).2.expect [10]).l.length+3≤s.l.length:=by
  have h1:_+1≤_:=Ps.expect_lt h
  have e1:=Ps.expect_good h
  have f1:=Ps.within_good (lo:=0) (hi:=2*V+1) (k:=5) (s:=((s.definition V 1).2.nextLiteral V).2.expect [32]) (by decide) e1
  have h2:_+1≤_:=Ps.expect_lt f1.2.2
  have e2:=Ps.expect_good f1.2.2
  have f2:=Ps.within_good (lo:=0) (hi:=2*V+1) (k:=5) (s:=(s.definition V 1).2.expect [32]) (by decide) e2
  have h3:_+1≤_:=Ps.expect_lt f2.2.2
  have g1:(s.and V).2.l.length≤(((s.definition V 1).2.nextLiteral V).2.expect [32]).l.length:=Ps.within_le _ _ _ _
  have g2:((s.definition V 1).2.nextLiteral V).2.l.length≤((s.definition V 1).2.expect [32]).l.length:=Ps.within_le _ _ _ _
  have g3:=Ps.definition_le s V 1
  omega
theorem ands_few {V:Int}:∀ (cnt:Nat) (s:Ps × List PAnd),(linesF (fun t=>t.and V) push cnt s).2.length*3≤s.2.length*3+s.1.l.length
  | 0,s=>Nat.le_add_right _ _
  | k+1,s=>by
    unfold linesF
    split
    · omega
    · split
      · show s.2.length*3≤_;omega
      · rename_i h1 h2
        have he:((s.1.and V).2.expect [10]).e=none:=by cases h:((s.1.and V).2.expect [10]).e with
          | none=>rfl
          | some y=>exact absurd (by rw [h];rfl) h2
        have h3:=Ps.and_lt he
        have h4:=ands_few (V:=V) k (push ((s.1.and V).2.expect [10],s.2) (s.1.and V).1)
        have e:(push ((s.1.and V).2.expect [10],s.2) (s.1.and V).1).2.length=s.2.length+1:=by simp [push]
        have e2:(push ((s.1.and V).2.expect [10],s.2) (s.1.and V).1).1=(s.1.and V).2.expect [10]:=rfl
        rw [e,e2] at h4
        omega
theorem Ps.want_le (s:Ps) (b:List Int):(s.want b).2.l.length≤s.l.length:=Ps.skip_le _ _
theorem Ps.begin_le (x1 x2:List Int) (s:Ps):(s.begin x1 x2).2.l.length≤s.l.length:=by
  unfold Ps.begin
  split
  · exact Ps.want_le _ _
  · split
    · exact Nat.le_trans (Ps.want_le _ _) (Ps.want_le _ _)
    · rw [Ps.refuse_l];exact Nat.le_trans (Ps.want_le _ _) (Ps.want_le _ _)
theorem Ps.mems_le (b:Bool) (s:Ps):(s.mems b).2.l.length≤s.l.length:=by
  unfold Ps.mems
  split
  · exact Ps.nextWithin_le _ _ _ _
  · exact Nat.le_refl _
theorem Ps.first_le (x1 x2:List Int) (s:Ps):(s.first x1 x2).2.2.l.length≤s.l.length :=
  Nat.le_trans (Ps.mems_le _ _) (Nat.le_trans (Ps.nextWithin_le _ _ _ _) (Nat.le_trans (Ps.nextAny_le _) (Nat.le_trans (Ps.nextWithin_le _ _ _ _) (Nat.le_trans (Ps.nextAny_le _) (Nat.le_trans (Ps.nextWithin_le _ _ _ _) (Nat.le_trans (Ps.nextWithin_le _ _ _ _) (Nat.le_trans (Ps.within_le _ _ _ _) (Ps.begin_le _ _ _))))))))
theorem Ps.line1_le (x1 x2:List Int) (s:Ps):(s.line1 x1 x2).2.2.l.length≤s.l.length:=Nat.le_trans (Ps.expect_le _ _) (Ps.first_le x1 x2 s)
theorem body_ands (V:Int) (ci cl co ca cb cc cm:Nat) (s:Ps):(s.body V ci cl co ca cb cc cm).1.ands.length*3≤s.l.length:=by
  unfold Ps.body
  dsimp only
  have h1:=lines_le (wf:=fun t:Ps=>t.definition V 1) (fun t=>Ps.definition_le _ _ _) ci s
  generalize s.lines (fun t=>t.definition V 1) ci=x1 at *
  have h2:=lines_le (wf:=fun t:Ps=>t.latch V) (fun t=>Ps.latch_le _ _) cl x1.2
  generalize x1.2.lines (fun t=>t.latch V) cl=x2 at *
  have h3:=lines_le (wf:=fun t:Ps=>t.literal V) (fun t=>Ps.literal_le _ _) co x2.2
  generalize x2.2.lines (fun t=>t.literal V) co=x3 at *
  have h4:=lines_le (wf:=fun t:Ps=>t.literal V) (fun t=>Ps.literal_le _ _) cb x3.2
  generalize x3.2.lines (fun t=>t.literal V) cb=x4 at *
  have h5:=lines_le (wf:=fun t:Ps=>t.literal V) (fun t=>Ps.literal_le _ _) cc x4.2
  generalize x4.2.lines (fun t=>t.literal V) cc=x5 at *
  have h6:(linesF (fun t=>t.memory) (nxM V) cm (x5.2,[])).1.l.length≤x5.2.l.length:=linesF_le (nx:=nxM V) (fun t=>Ps.memory_le t) (fun s x=>Ps.ports_le V x s.1) cm (x5.2,[])
  generalize linesF (fun t=>t.memory) (nxM V) cm (x5.2,[])=x6 at *
  have h7:(linesF (fun t=>t.and V) push ca (x6.1,[])).2.length*3≤0*3+x6.1.l.length:=ands_few ca (x6.1,[])
  show (linesF (fun t=>t.and V) push ca (x6.1,[])).2.length*3≤_
  omega
theorem andN_len:∀ (k:Nat) (l:List PAnd),(andNodes k l).length=l.length
  | _,[]=>rfl
  | k,x::l=>by show (andNodes (k+1) l).length+1=l.length+1;rw [andN_len]
theorem portN_len (w:Int) (i:Nat):∀ (k:Nat) (l:List PRead),(portNodes w i k l).length=l.length
  | _,[]=>rfl
  | k,x::l=>by show (portNodes w i (k+1) l).length+1=l.length+1;rw [portN_len]
theorem memN_len:∀ (i:Nat) (l:List PMem),(∀ m∈l,m.mr.length≤4)→(memNodes i l).length≤l.length*4
  | _,[],_=>Nat.zero_le _
  | i,m::l,h=>by
    have h1:=memN_len (i+1) l fun x hx=>h x (List.mem_cons_of_mem _ hx)
    have h2:=h m List.mem_cons_self
    show (portNodes m.mw i 0 m.mr++memNodes (i+1) l).length≤(l.length+1)*4
    rw [List.length_append,portN_len]
    omega
theorem short_checks {xs:List Int} (hx:xs.length≤2000) (h:((Ps.begun xs).line1 aagB aagmB).2.2.e=none) (hV:0≤((Ps.begun xs).line1 aagB aagmB).1∧((Ps.begun xs).line1 aagB aagmB).1≤2000) (hm:((Ps.begun xs).line1 aagB aagmB).2.1.cm≤4):(Ps.net1 ((Ps.begun xs).line1 aagB aagmB)).1.checks:=by
  have hg:=Ps.line1_good h
  have hl:=Ps.line1_le aagB aagmB (Ps.begun xs)
  have h1:=body_small hV ((Ps.begun xs).line1 aagB aagmB).2.1.ci.toNat ((Ps.begun xs).line1 aagB aagmB).2.1.cl.toNat ((Ps.begun xs).line1 aagB aagmB).2.1.co.toNat ((Ps.begun xs).line1 aagB aagmB).2.1.ca.toNat ((Ps.begun xs).line1 aagB aagmB).2.1.cb.toNat ((Ps.begun xs).line1 aagB aagmB).2.1.cc.toNat ((Ps.begun xs).line1 aagB aagmB).2.1.cm.toNat (by obtain ⟨i,l,o,a,b,c,m⟩:=hg;omega) ((Ps.begun xs).line1 aagB aagmB).2.2
  have h2:=body_ands ((Ps.begun xs).line1 aagB aagmB).1 ((Ps.begun xs).line1 aagB aagmB).2.1.ci.toNat ((Ps.begun xs).line1 aagB aagmB).2.1.cl.toNat ((Ps.begun xs).line1 aagB aagmB).2.1.co.toNat ((Ps.begun xs).line1 aagB aagmB).2.1.ca.toNat ((Ps.begun xs).line1 aagB aagmB).2.1.cb.toNat ((Ps.begun xs).line1 aagB aagmB).2.1.cc.toNat ((Ps.begun xs).line1 aagB aagmB).2.1.cm.toNat ((Ps.begun xs).line1 aagB aagmB).2.2
  obtain ⟨k1,k2,k3,k4,k5⟩:=h1
  refine ⟨k1,k2,k3,?_⟩
  have k6:=memN_len 0 _ k5
  have hb:(Ps.begun xs).l.length=xs.length:=rfl
  unfold PNet.nodes
  rw [List.length_append]
  have k7:=andN_len 0 (Ps.net1 ((Ps.begun xs).line1 aagB aagmB)).1.ands
  have k8:(memNodes 0 (Ps.net1 ((Ps.begun xs).line1 aagB aagmB)).1.mems).length≤(Ps.net1 ((Ps.begun xs).line1 aagB aagmB)).1.mems.length*4:=k6
  have k9:(Ps.net1 ((Ps.begun xs).line1 aagB aagmB)).1.mems.length≤((Ps.begun xs).line1 aagB aagmB).2.1.cm.toNat:=k4
  have k10:(Ps.net1 ((Ps.begun xs).line1 aagB aagmB)).1.ands.length*3≤((Ps.begun xs).line1 aagB aagmB).2.2.l.length:=h2
  omega
theorem Ps.line1_vars (x1 x2:List Int) (s:Ps):0≤(s.line1 x1 x2).1∧(s.line1 x1 x2).1≤2000:=Ps.within_range (s:=(s.begin x1 x2).2) (lo:=0) (hi:=2000) (k:=10) (.inl (by decide)) (by decide) (by decide)
theorem Ps.mems_range (b:Bool) (s:Ps):(s.mems b).1≤4:=by
  unfold Ps.mems
  split
  · exact (Ps.within_range (s:=s.expect [32]) (lo:=1) (hi:=4) (k:=10) (.inr rfl) (by decide) (by decide)).2
  · show (0:Int)≤4;decide
theorem Ps.line1_mems (x1 x2:List Int) (s:Ps):(s.line1 x1 x2).2.1.cm≤4:=Ps.mems_range _ _
theorem Parse_short (a:Option Addr) (c:Nat) (xs:List Int) (w:World) (hL:Fa.Laid w) (hb:∀ x∈xs,0≤x∧x<256) (hn:xs.length≤2000) (h0:a=none→xs=[]) (hc:∀ q,a=some q→∀ i,i<xs.length→w.cell? (q.add i)=some (.int .u8 (xs.getD i 0))) :
    Calls Tryz.prog 13 #[.slice a xs.length c] w (ParseLeft w (parseP xs)) :=
  Parse_any a c xs w hL hb (by omega) h0 hc fun h _=>short_checks hn h (Ps.line1_vars _ _ _) (Ps.line1_mems _ _ _)
end Go.Proofs.YtldnepogjnahfaaGreatDoor
