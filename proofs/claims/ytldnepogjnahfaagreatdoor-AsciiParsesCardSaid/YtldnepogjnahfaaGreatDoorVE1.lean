/- The two plain readings of a text, the program's and the document's, are one (no condition). -/
import Derived.Test.YtldnepogjnahfaaGreatDoorVQy
import Derived.Test.YtldnepogjnahfaaGreatDoorVPShort
import Derived.Test.YtldnepogjnahfaaGreatDoorVQ11
set_option linter.unusedVariables false
namespace Go.Proofs.YtldnepogjnahfaaGreatDoor
def KeepsV {β:Type} (F:Ps→β × Ps):Prop:=∀ s:Ps,s.e≠none→(F s).2.e=s.e
theorem KeepsV.ne {β:Type} {F:Ps→β × Ps} (h:KeepsV F) {s:Ps} (hs:s.e≠none):(F s).2.e≠none:=by rw [h s hs];exact hs
theorem SimV.bind {α β:Type} {F G:α→Ps→β × Ps} (hF:∀ x,KeepsV (F x)) (hG:∀ x,KeepsV (G x)) (hFG:∀ x (s:Ps),s.e=none→SimV (F x s) (G x s)) {a b:α × Ps} (h:SimV a b):SimV (F a.1 a.2) (G b.1 b.2):=by
  cases he:a.2.e with
  | none =>
    have h1:=h.same he
    subst h1
    exact hFG _ _ he
  | some z =>
    have h1:a.2.e≠none:=by rw [he];simp
    have h2:b.2.e≠none:=by rw [← h.sim.fault];exact h1
    exact .inr ⟨by rw [hF _ _ h1,hG _ _ h2];exact h.sim.fault,by rw [hF _ _ h1];exact h1⟩
theorem expect_bad {s:Ps} (h:s.e≠none) (b:List Int):s.expect b=s:=holds_expect b s h
theorem SimV.expect {α:Type} {a b:α × Ps} (h:SimV a b) (t:List Int):SimV (a.1,a.2.expect t) (b.1,b.2.expect t) :=
  h.bind (F:=fun x s=>(x,s.expect t)) (G:=fun x s=>(x,s.expect t)) (fun x s hs=>by show (s.expect t).e=s.e;rw [expect_bad hs]) (fun x s hs=>by show (s.expect t).e=s.e;rw [expect_bad hs]) (fun x s _=>SimV.refl _)
theorem SimV.map {α β:Type} {a b:α × Ps} (h:SimV a b) (f:α→β):SimV (f a.1,a.2) (f b.1,b.2):=by
  rcases h with rfl | h
  · exact .inl rfl
  · exact .inr h
theorem SimV.of_sim {α:Type} {s t:Ps} (h:Sim s t) (x:α):SimV (x,s) (x,t):=by
  rcases h with rfl | h
  · exact .inl rfl
  · exact .inr h
theorem keeps_within (lo hi k:Int):KeepsV (fun s=>s.within lo hi k):=fun s h=>by
  show (s.within lo hi k).2.e=s.e
  rw [within_bad h]
theorem keeps_expect {β:Type} {F:Ps→β × Ps} (h:KeepsV F) (b:List Int):KeepsV (fun s=>F (s.expect b)):=fun s hs=>by
  show (F (s.expect b)).2.e=s.e
  rw [expect_bad hs]
  exact h s hs
theorem keeps_behind {β:Type} {F:Ps→β × Ps} (h:KeepsV F) (b:List Int):KeepsV (fun s=>((F s).1,(F s).2.expect b)):=fun s hs=>by
  show ((F s).2.expect b).e=s.e
  rw [expect_bad (h.ne hs)]
  exact h s hs
theorem keeps_then {α β:Type} {F:Ps→α × Ps} {G:α→Ps→β × Ps} (h:KeepsV F) (k:∀ x,KeepsV (G x)):KeepsV (fun s=>G (F s).1 (F s).2):=fun s hs=>by
  show (G (F s).1 (F s).2).2.e=s.e
  rw [k _ _ (h.ne hs)]
  exact h s hs
theorem keeps_map {α β:Type} {F:Ps→α × Ps} (h:KeepsV F) (f:α→β):KeepsV (fun s=>(f (F s).1,(F s).2)):=fun s hs=>h s hs
theorem keeps_nextWithin (lo hi k:Int):KeepsV (fun s=>s.nextWithin lo hi k):=keeps_expect (keeps_within lo hi k) [32]
theorem keeps_nextAny:KeepsV (fun s=>s.nextAny):=keeps_nextWithin 0 maxN 4
theorem keeps_literal (V:Int):KeepsV (fun s=>s.literal V):=keeps_within 0 (2*V+1) 5
theorem keeps_nextLiteral (V:Int):KeepsV (fun s=>s.nextLiteral V):=keeps_expect (keeps_literal V) [32]
theorem keeps_definition (V:Int) (cnt:Nat):KeepsV (fun s=>s.definition V cnt):=fun s hs=>by
  show (s.definition V cnt).2.e=s.e
  rw [definition_bad hs]
theorem keeps_num (most:Int):KeepsV (fun s=>s.num most):=fun s h=>by
  show (s.num most).2.e=s.e
  unfold Ps.num
  cases he:s.e with
  | none=>exact absurd he h
  | some z=>exact he
theorem keeps_widthQ (hi:Int):KeepsV (fun s=>s.widthQ hi):=fun s h=>by
  show (s.widthQ hi).2.e=s.e
  unfold Ps.widthQ
  have h1:=keeps_num maxN s h
  dsimp only at h1 ⊢
  split
  · rw [show ∀ t:Ps,∀ k a,t.e≠none→t.refuse k a=t from fun t k a ht=>holds_refuse k a t ht]
    · exact h1
    · rw [h1];exact h
  · exact h1
theorem keeps_nextLiterals (V:Int):∀ k:Nat,KeepsV (fun s=>Ps.nextLiterals V k s)
  | 0=>fun s hs=>rfl
  | k+1=>fun s hs=>by
    show ((Ps.nextLiterals V k s).2.nextLiteral V).2.e=s.e
    have h1:=keeps_nextLiterals V k s hs
    dsimp only at h1
    rw [keeps_nextLiteral V _ (by rw [h1];exact hs)]
    exact h1
theorem keeps_qloop {α:Type} (f:Ps→α × Ps) (k:Nat) (l:List α):KeepsV (fun s=>qloop f k (l,s)):=fun s hs=>by
  show (qloop f k (l,s)).2.e=s.e
  rw [qloop_bad (by cases he:s.e with
    | none=>exact absurd he hs
    | some z=>simp)]
theorem keeps_litsQ (V:Int) (k:Nat):KeepsV (fun s=>s.litsQ V k):=keeps_qloop _ k []
theorem isSome_of {o:Option (Int × Int)} (h:o≠none):o.isSome=true:=by
  cases o with
  | none=>exact absurd rfl h
  | some z=>rfl
theorem keeps_each {α κ:Type} (wf:Ps→α × Ps) (nx:Ps × κ→α→Ps × κ) (k:Nat) (c:κ):∀ s:Ps,s.e≠none→(eachF wf nx k (s,c))=(s,c):=fun s hs=>eachF_bad (isSome_of hs) k
theorem keeps_lines {α:Type} (wf:Ps→α × Ps) (k:Nat):KeepsV (fun s=>s.lines wf k):=fun s hs=>by
  show (linesF wf push k (s,[])).1.e=s.e
  rw [linesF_bad (isSome_of hs)]
theorem qloop_snoc {α:Type} (f:Ps→α × Ps):∀ (k:Nat) (a:List α × Ps),qloop f (k+1) a=if (qloop f k a).2.e.isSome then qloop f k a else ((qloop f k a).1++[(f (qloop f k a).2).1],(f (qloop f k a).2).2)
  | 0,a=>rfl
  | k+1,a=>by
    by_cases h:a.2.e.isSome=true
    · rw [qloop_bad h,qloop_bad h,if_pos h]
    · conv=>lhs;unfold qloop
      rw [if_neg h,qloop_snoc f k]
      have e:qloop f (k+1) a=qloop f k (a.1++[(f a.2).1],(f a.2).2):=by
        conv=>lhs;unfold qloop
        rw [if_neg h]
      rw [e]
theorem simV_lits (V:Int):∀ (k:Nat) (s:Ps),SimV (s.litsQ V k) (Ps.nextLiterals V k s)
  | 0,s=>.inl rfl
  | k+1,s=>by
    have ih:=simV_lits V k s
    unfold Ps.litsQ at ih ⊢
    rw [qloop_snoc]
    cases he:(qloop (fun t:Ps=>t.nextLiteral V) k ([],s)).2.e with
    | none =>
      rw [if_neg (by simp)]
      have h1:=ih.same he
      rw [h1]
      exact .inl rfl
    | some z =>
      rw [if_pos (show (some z).isSome=true from rfl)]
      have h1:(Ps.nextLiterals V k s).2.e=some z:=by rw [← ih.sim.fault];exact he
      have h2:((Ps.nextLiterals V k s).2.nextLiteral V).2.e=some z:=by rw [keeps_nextLiteral V _ (by rw [h1];simp)];exact h1
      exact .inr ⟨he.trans h2.symm,by rw [he];simp⟩
theorem simV_lit1 (V:Int) (s:Ps):SimV ((s.litsQ V 1).1.getD 0 0,(s.litsQ V 1).2) (s.nextLiteral V):=by
  have h:=simV_lits V 1 s
  exact h.map (fun l=>l.getD 0 0)
theorem simV_shape (s:Ps):SimV s.shapeQ (Ps.ln (fun t=>t.memory) s):=by
  have a:SimV ((s.expect [109,32]).widthQ 62) (((s.expect [109]).expect [32]).within 1 62 9) :=
    SimV.next (α:=Unit) (F:=fun t=>t.widthQ 62) (G:=fun t=>t.within 1 62 9) (keeps_widthQ 62) (keeps_within 1 62 9) (fun t _=>simV_width 62 t) (sim_expect2 109 32 s)
  have b1:∀ t:Ps,SimV ((t.expect [32]).widthQ 64) (t.nextWithin 1 64 9):=fun t=>simV_width 64 _
  have b2:∀ t:Ps,SimV ((((t.expect [32]).num 1).1.1 == 1,((t.expect [32]).num 1).2):Bool × Ps) ((t.nextWithin 0 1 4).1 == 1,(t.nextWithin 0 1 4).2):=fun t=>by
    have h:=sim_flag (t.expect [32])
    show SimV ((((t.expect [32]).num 1).1.1 == 1,((t.expect [32]).num 1).2):Bool × Ps) (((t.expect [32]).within 0 1 4).1 == 1,((t.expect [32]).within 0 1 4).2)
    rw [h.2]
    exact SimV.of_sim h.1 _
  have kn:∀ lo hi k,KeepsV (fun t:Ps=>t.nextWithin lo hi k):=keeps_nextWithin
  let F5:Int→Int→Bool→Int→Ps→PShape × Ps:=fun x y n d t=>(⟨x,y,n,d,(t.nextWithin 0 4 10).1⟩,((t.nextWithin 0 4 10).2).expect [10])
  have k5:∀ x y n d,KeepsV (F5 x y n d):=fun x y n d=>keeps_behind (F:=fun t=>((⟨x,y,n,d,(t.nextWithin 0 4 10).1⟩:PShape),(t.nextWithin 0 4 10).2)) (keeps_map (kn 0 4 10) (fun z=>(⟨x,y,n,d,z⟩:PShape))) [10]
  let F4:Int→Int→Bool→Ps→PShape × Ps:=fun x y n t=>F5 x y n (t.nextWithin 0 4 10).1 (t.nextWithin 0 4 10).2
  have k4:∀ x y n,KeepsV (F4 x y n):=fun x y n=>keeps_then (kn 0 4 10) (k5 x y n)
  let F3:Int→Int→Ps→PShape × Ps:=fun x y t=>F4 x y ((t.expect [32]).num 1 |>.1.1 == 1) ((t.expect [32]).num 1).2
  let G3:Int→Int→Ps→PShape × Ps:=fun x y t=>F4 x y ((t.nextWithin 0 1 4).1 == 1) (t.nextWithin 0 1 4).2
  have k3:∀ x y,KeepsV (F3 x y):=fun x y=>keeps_then (F:=fun t=>((((t.expect [32]).num 1).1.1 == 1),((t.expect [32]).num 1).2)) (G:=fun n t=>F4 x y n t) (keeps_map (keeps_expect (keeps_num 1) [32]) (fun z=>z.1 == 1)) (k4 x y)
  have j3:∀ x y,KeepsV (G3 x y):=fun x y=>keeps_then (F:=fun t=>((t.nextWithin 0 1 4).1 == 1,(t.nextWithin 0 1 4).2)) (G:=fun n t=>F4 x y n t) (keeps_map (kn 0 1 4) (fun z=>z == 1)) (k4 x y)
  have s3:∀ x y t,SimV (F3 x y t) (G3 x y t):=fun x y t=>SimV.bind (F:=fun n t=>F4 x y n t) (G:=fun n t=>F4 x y n t) (k4 x y) (k4 x y) (fun n t _=>SimV.refl _) (b2 t)
  let F2:Int→Ps→PShape × Ps:=fun x t=>F3 x ((t.expect [32]).widthQ 64).1 ((t.expect [32]).widthQ 64).2
  let G2:Int→Ps→PShape × Ps:=fun x t=>G3 x (t.nextWithin 1 64 9).1 (t.nextWithin 1 64 9).2
  have k2:∀ x,KeepsV (F2 x):=fun x=>keeps_then (F:=fun t=>(t.expect [32]).widthQ 64) (keeps_expect (keeps_widthQ 64) [32]) (k3 x)
  have j2:∀ x,KeepsV (G2 x):=fun x=>keeps_then (kn 1 64 9) (j3 x)
  have s2:∀ x t,SimV (F2 x t) (G2 x t):=fun x t=>SimV.bind (k3 x) (j3 x) (fun y t _=>s3 x y t) (b1 t)
  exact SimV.bind k2 j2 (fun x t _=>s2 x t) a
theorem simV_read (V:Int) (a wd:Nat) (s:Ps):SimV (s.readQ V a wd) (Ps.ln (fun t=>t.read (fun t=>t.nextDef V wd) V a) s):=by
  have h1:SimV ((s.expect [114,32]).definition V wd) (((s.expect [114]).expect [32]).definition V wd) :=
    SimV.next (α:=Unit) (F:=fun t=>t.definition V wd) (G:=fun t=>t.definition V wd) (keeps_definition V wd) (keeps_definition V wd) (fun t _=>SimV.refl _) (sim_expect2 114 32 s)
  exact SimV.bind (F:=fun x t=>((⟨x,(t.litsQ V a).1⟩:PRead),(t.litsQ V a).2.expect [10])) (G:=fun x t=>((⟨x,(Ps.nextLiterals V a t).1⟩:PRead),(Ps.nextLiterals V a t).2.expect [10]))
    (fun x=>keeps_behind (F:=fun t=>((⟨x,(t.litsQ V a).1⟩:PRead),(t.litsQ V a).2)) (keeps_map (keeps_litsQ V a) (fun l=>(⟨x,l⟩:PRead))) [10])
    (fun x=>keeps_behind (F:=fun t=>((⟨x,(Ps.nextLiterals V a t).1⟩:PRead),(Ps.nextLiterals V a t).2)) (keeps_map (keeps_nextLiterals V a) (fun l=>(⟨x,l⟩:PRead))) [10])
    (fun x t _=>((simV_lits V a t).map (fun l=>(⟨x,l⟩:PRead))).expect [10]) h1
theorem simV_write (V:Int) (a wd:Nat) (s:Ps):SimV (s.writeQ V a wd) (Ps.ln (fun t=>t.write V a wd) s):=by
  have h1:SimV (((s.expect [119]).litsQ V 1).1.getD 0 0,((s.expect [119]).litsQ V 1).2) ((s.expect [119]).nextLiteral V):=simV_lit1 V _
  let F2:Int→List Int→Ps→PWrite × Ps:=fun o l t=>(⟨o,l,(t.litsQ V wd).1⟩,(t.litsQ V wd).2.expect [10])
  let G2:Int→List Int→Ps→PWrite × Ps:=fun o l t=>(⟨o,l,(Ps.nextLiterals V wd t).1⟩,(Ps.nextLiterals V wd t).2.expect [10])
  have k2:∀ o l,KeepsV (F2 o l):=fun o l=>keeps_behind (F:=fun t=>((⟨o,l,(t.litsQ V wd).1⟩:PWrite),(t.litsQ V wd).2)) (keeps_map (keeps_litsQ V wd) (fun z=>(⟨o,l,z⟩:PWrite))) [10]
  have j2:∀ o l,KeepsV (G2 o l):=fun o l=>keeps_behind (F:=fun t=>((⟨o,l,(Ps.nextLiterals V wd t).1⟩:PWrite),(Ps.nextLiterals V wd t).2)) (keeps_map (keeps_nextLiterals V wd) (fun z=>(⟨o,l,z⟩:PWrite))) [10]
  have s2:∀ o l t,SimV (F2 o l t) (G2 o l t):=fun o l t=>((simV_lits V wd t).map (fun z=>(⟨o,l,z⟩:PWrite))).expect [10]
  let F1:Int→Ps→PWrite × Ps:=fun o t=>F2 o (t.litsQ V a).1 (t.litsQ V a).2
  let G1:Int→Ps→PWrite × Ps:=fun o t=>G2 o (Ps.nextLiterals V a t).1 (Ps.nextLiterals V a t).2
  have k1:∀ o,KeepsV (F1 o):=fun o=>keeps_then (keeps_litsQ V a) (k2 o)
  have j1:∀ o,KeepsV (G1 o):=fun o=>keeps_then (keeps_nextLiterals V a) (j2 o)
  exact SimV.bind (F:=F1) (G:=G1) k1 j1 (fun o t _=>SimV.bind (k2 o) (j2 o) (fun l t _=>s2 o l t) (simV_lits V a t)) h1
theorem simV_and (V:Int) (s:Ps):SimV (s.andQ V) (Ps.ln (fun t=>t.and V) s):=by
  show SimV ((⟨(s.definition V 1).1,((s.definition V 1).2.litsQ V 2).1.getD 0 0,((s.definition V 1).2.litsQ V 2).1.getD 1 0⟩:PAnd),((s.definition V 1).2.litsQ V 2).2.expect [10]) _
  exact ((simV_lits V 2 (s.definition V 1).2).map (fun l=>(⟨(s.definition V 1).1,l.getD 0 0,l.getD 1 0⟩:PAnd))).expect [10]
theorem sim_each {α:Type} {f g:Ps→α × Ps} (h:∀ s:Ps,s.e=none→SimV (f s) (g s)):∀ (k:Nat) (l:List α) (s t:Ps),Sim s t→SimV ((eachF f push k (s,l)).2,(eachF f push k (s,l)).1) ((eachF g push k (t,l)).2,(eachF g push k (t,l)).1)
  | 0,l,s,t,hst=>SimV.of_sim hst l
  | k+1,l,s,t,hst=>by
    cases he:s.e with
    | some z =>
      have h2:t.e=some z:=by rw [← hst.fault];exact he
      rw [eachF_bad (by simp [he]),eachF_bad (by simp [h2])]
      exact SimV.of_sim hst l
    | none =>
      obtain rfl:=hst.same he
      have hs:=h s he
      cases hg:(g s).2.e with
      | some z =>
        have hf:(f s).2.e=some z:=by rw [hs.sim.fault];exact hg
        rw [eachF_stop (wf:=f) (nx:=push) (s:=(s,l)) he (x:=(f s).1) (s2:=(f s).2) rfl (by simp [hf]),eachF_stop (wf:=g) (nx:=push) (s:=(s,l)) he (x:=(g s).1) (s2:=(g s).2) rfl (by simp [hg])]
        exact SimV.of_sim hs.sim l
      | none =>
        have hfe:(f s).2.e=none:=by rw [hs.sim.fault];exact hg
        have hfg:=hs.same hfe
        rw [eachF_next (wf:=g) (nx:=push) (s:=(s,l)) he (x:=(g s).1) (s2:=(g s).2) rfl hg,eachF_next (wf:=f) (nx:=push) (s:=(s,l)) he (x:=(g s).1) (s2:=(g s).2) (by rw [hfg]) hg]
        exact sim_each h k (l++[(g s).1]) (g s).2 (g s).2 (.inl rfl)
theorem simV_qlines {α:Type} {f w:Ps→α × Ps} (h:∀ s:Ps,s.e=none→SimV (f s) (Ps.ln w s)) (k:Nat) {s t:Ps} (hst:Sim s t):SimV (qloop f k ([],s)) (t.lines w k):=by
  have h1:=sim_loop h k [] s t hst
  rw [linesF_each] at h1
  exact h1
theorem simV_elines {α:Type} {f w:Ps→α × Ps} (h:∀ s:Ps,s.e=none→SimV (f s) (Ps.ln w s)) (k:Nat) {s t:Ps} (hst:Sim s t):SimV ((eachF f push k (s,[])).2,(eachF f push k (s,[])).1) (t.lines w k):=by
  have h1:=sim_each h k [] s t hst
  rw [linesF_each] at h1
  exact h1
theorem keeps_eachP {α:Type} (f:Ps→α × Ps) (k:Nat):KeepsV (fun s=>((eachF f push k (s,([]:List α))).2,(eachF f push k (s,([]:List α))).1)):=fun s hs=>by
  show (eachF f push k (s,[])).1.e=s.e
  rw [keeps_each f push k [] s hs]
def portsQ (V:Int) (h:PShape) (t:Ps):PMem × Ps :=
  let r:=qloop (Ps.readQ V h.sa.toNat h.sw.toNat) h.sr.toNat ([],t)
  let x:=eachF (Ps.writeQ V h.sa.toNat h.sw.toNat) push h.sx.toNat (r.2,[])
  (⟨h.sa,h.sw,h.sn,r.1,x.2⟩,x.1)
theorem memQ_ports (V:Int) (s:Ps):s.memQ V=portsQ V s.shapeQ.1 s.shapeQ.2:=rfl
theorem keeps_portsQ (V:Int) (h:PShape):KeepsV (portsQ V h) :=
  keeps_then (F:=fun t=>qloop (Ps.readQ V h.sa.toNat h.sw.toNat) h.sr.toNat ([],t)) (G:=fun r t=>((⟨h.sa,h.sw,h.sn,r,(eachF (Ps.writeQ V h.sa.toNat h.sw.toNat) push h.sx.toNat (t,[])).2⟩:PMem),(eachF (Ps.writeQ V h.sa.toNat h.sw.toNat) push h.sx.toNat (t,[])).1))
    (keeps_qloop _ _ _) (fun r=>keeps_map (keeps_eachP _ _) (fun z=>(⟨h.sa,h.sw,h.sn,r,z⟩:PMem)))
theorem simV_ports (V:Int) (h:PShape) (t:Ps):SimV (portsQ V h t) (t.ports (fun k t=>t.nextDef V k) V h):=by
  refine SimV.bind (F:=fun r t=>((⟨h.sa,h.sw,h.sn,r,(eachF (Ps.writeQ V h.sa.toNat h.sw.toNat) push h.sx.toNat (t,[])).2⟩:PMem),(eachF (Ps.writeQ V h.sa.toNat h.sw.toNat) push h.sx.toNat (t,[])).1))
    (G:=fun r t=>((⟨h.sa,h.sw,h.sn,r,(t.lines (fun t=>t.write V h.sa.toNat h.sw.toNat) h.sx.toNat).1⟩:PMem),(t.lines (fun t=>t.write V h.sa.toNat h.sw.toNat) h.sx.toNat).2))
    (fun r=>keeps_map (keeps_eachP _ _) (fun z=>(⟨h.sa,h.sw,h.sn,r,z⟩:PMem))) (fun r=>keeps_map (keeps_lines _ _) (fun z=>(⟨h.sa,h.sw,h.sn,r,z⟩:PMem))) (fun r t _=>?_)
    (simV_qlines (f:=Ps.readQ V h.sa.toNat h.sw.toNat) (w:=fun t=>t.read (fun t=>t.nextDef V h.sw.toNat) V h.sa.toNat) (fun s _=>simV_read V _ _ s) h.sr.toNat (Sim.refl t))
  exact (simV_elines (f:=Ps.writeQ V h.sa.toNat h.sw.toNat) (w:=fun t=>t.write V h.sa.toNat h.sw.toNat) (fun s _=>simV_write V _ _ s) h.sx.toNat (Sim.refl t)).map (fun z=>(⟨h.sa,h.sw,h.sn,r,z⟩:PMem))
theorem linesF_stop {α κ:Type} {wf:Ps→α × Ps} {nx:Ps × κ→α→Ps × κ} {s:Ps} {c:κ} (h:s.e=none) (h3:(Ps.ln wf s).2.e≠none) (k:Nat):linesF wf nx (k+1) (s,c)=((Ps.ln wf s).2,c):=by
  rw [← linesF_each]
  exact eachF_stop (wf:=Ps.ln wf) (nx:=nx) (s:=(s,c)) h (x:=(Ps.ln wf s).1) rfl (isSome_of h3) k
theorem linesF_next {α κ:Type} {wf:Ps→α × Ps} {nx:Ps × κ→α→Ps × κ} {s:Ps} {c:κ} (h:s.e=none) (h3:(Ps.ln wf s).2.e=none) (k:Nat):linesF wf nx (k+1) (s,c)=linesF wf nx k (nx ((Ps.ln wf s).2,c) (Ps.ln wf s).1):=by
  rw [← linesF_each,← linesF_each]
  exact eachF_next (wf:=Ps.ln wf) (nx:=nx) (s:=(s,c)) h (x:=(Ps.ln wf s).1) rfl h3 k
theorem simV_mems (V:Int):∀ (k:Nat) (l:List PMem) (s t:Ps),Sim s t→SimV (qloop (Ps.memQ V) k (l,s)) ((linesF (fun t=>t.memory) (nxM V) k (t,l)).2,(linesF (fun t=>t.memory) (nxM V) k (t,l)).1)
  | 0,l,s,t,hst=>SimV.of_sim hst l
  | k+1,l,s,t,hst=>by
    cases he:s.e with
    | some z =>
      have h2:t.e=some z:=by rw [← hst.fault];exact he
      rw [qloop_bad (by simp [he]),linesF_bad (by simp [h2])]
      exact SimV.of_sim hst l
    | none =>
      obtain rfl:=hst.same he
      rw [qloop_go he]
      have hs:=simV_shape s
      by_cases hg:(Ps.ln (fun t=>t.memory) s).2.e=none
      · have hf:s.shapeQ.2.e=none:=by rw [hs.sim.fault];exact hg
        rw [linesF_next he hg,memQ_ports,hs.same hf]
        have hp:=simV_ports V (Ps.ln (fun t=>t.memory) s).1 (Ps.ln (fun t=>t.memory) s).2
        generalize Ps.ln (fun t=>t.memory) s=z at *
        cases hq:(portsQ V z.1 z.2).2.e with
        | none =>
          have h1:=hp.same hq
          rw [h1]
          exact simV_mems V k _ _ _ (Sim.refl _)
        | some y =>
          have h1:(z.2.ports (fun k t=>t.nextDef V k) V z.1).2.e=some y:=by rw [← hp.sim.fault];exact hq
          rw [qloop_bad (by simp [hq])]
          rw [linesF_bad (s:=nxM V (z.2,l) z.1) (by show (z.2.ports (fun k t=>t.nextDef V k) V z.1).2.e.isSome=true;rw [h1];rfl)]
          exact .inr ⟨hp.sim.fault,by show (portsQ V z.1 z.2).2.e≠none;rw [hq];simp⟩
      · have hf:s.shapeQ.2.e≠none:=by rw [hs.sim.fault];exact hg
        have h1:(s.memQ V).2.e=s.shapeQ.2.e:=by rw [memQ_ports];exact keeps_portsQ V _ _ hf
        rw [linesF_stop he hg,qloop_bad (isSome_of (show (s.memQ V).2.e≠none by rw [h1];exact hf))]
        exact .inr ⟨h1.trans hs.sim.fault,by show (s.memQ V).2.e≠none;rw [h1];exact hf⟩
theorem within_none_eq {s:Ps} (he:s.e=none) (lo hi k:Int):s.within lo hi k=if (Sc.numA s.l maxN).2≠0 then (0,(s.skip (Sc.numN s.l maxN)).refuse (Sc.numA s.l maxN).2 s.i) else if (Sc.numA s.l maxN).1<lo∨hi<(Sc.numA s.l maxN).1 then (0,(s.skip (Sc.numN s.l maxN)).refuse k s.i) else ((Sc.numA s.l maxN).1,s.skip (Sc.numN s.l maxN)):=by
  unfold Ps.within
  rw [he]
theorem simV_any (s:Ps) (k j:Int):s.within 0 maxN k=s.within 0 maxN j:=by
  cases he:s.e with
  | some z=>rw [within_bad (by rw [he];simp),within_bad (by rw [he];simp)]
  | none =>
    have h:=numA_in s.l maxN (by decide)
    rw [within_none_eq he,within_none_eq he,if_neg (show ¬ ((Sc.numA s.l maxN).1<0∨maxN<(Sc.numA s.l maxN).1) by omega),if_neg (show ¬ ((Sc.numA s.l maxN).1<0∨maxN<(Sc.numA s.l maxN).1) by omega)]
def stC (k:Nat) (f:Nat→Int) (s:Ps):Int × Ps :=
  if k=0 then s.within 0 2000 10 else if k=3∨k=5 then s.nextAny else if k=6 then s.nextWithin 0 (1000 - f 3 - f 5) 10 else if k=7 then s.nextWithin 1 4 10 else s.nextWithin 0 2000 10
def countP (k:Nat) (f:Nat→Int) (s:Ps):(Nat→Int) × Ps:=(upd f k (stC k f s).1,(stC k f s).2)
def countsP:Nat→Nat→(Nat→Int)→Ps→(Nat→Int) × Ps
  | 0,_,f,s=>(f,s)
  | m+1,k,f,s=>countsP m (k+1) (countP k f s).1 (countP k f s).2
theorem keeps_stC (k:Nat) (f:Nat→Int):KeepsV (stC k f):=fun s hs=>by
  unfold stC
  split
  · exact keeps_within _ _ _ s hs
  · split
    · exact keeps_nextAny s hs
    · split
      · exact keeps_nextWithin _ _ _ s hs
      · split
        · exact keeps_nextWithin _ _ _ s hs
        · exact keeps_nextWithin _ _ _ s hs
theorem keeps_countsP:∀ (m k:Nat) (f:Nat→Int),KeepsV (countsP m k f)
  | 0,k,f=>fun s hs=>rfl
  | m+1,k,f=>fun s hs=>by
    show (countsP m (k+1) (countP k f s).1 (countP k f s).2).2.e=s.e
    have h1:(countP k f s).2.e=s.e:=keeps_stC k f s hs
    rw [keeps_countsP m (k+1) _ _ (by rw [h1];exact hs),h1]
theorem if_eq {P Q:Prop} [Decidable P] [Decidable Q] {a b:Ps} (h:P↔Q):(if P then a else b)=(if Q then a else b):=by
  by_cases hp:P
  · rw [if_pos hp,if_pos (h.1 hp)]
  · rw [if_neg hp,if_neg (fun q=>hp (h.2 q))]
theorem sim_six (f:Nat→Int) {f3 f5:Int} {t:Ps} (he:t.e=none) (h0:0≤f3∧0≤f5) :
    SimV ((t.within 0 maxN 10).1,if ((t.within 0 maxN 10).2.e=none∧1000<f3+f5+(t.within 0 maxN 10).1) then (t.within 0 maxN 10).2.refuse 10 t.i else (t.within 0 maxN 10).2) (t.within 0 (1000 - f3 - f5) 10):=by
  have h:=numA_in t.l maxN (by decide)
  have hsk:∀ k:Nat,(t.skip k).e=none:=fun k=>he
  rw [within_none_eq he,within_none_eq he,if_neg (show ¬ ((Sc.numA t.l maxN).1<0∨maxN<(Sc.numA t.l maxN).1) by omega)]
  by_cases h1:(Sc.numA t.l maxN).2≠0
  · rw [if_pos h1,if_pos h1]
    dsimp only
    rw [if_neg (fun hh=>absurd hh.1 (Ps.refuse_none_in h1))]
    exact SimV.refl _
  · rw [if_neg h1,if_neg h1]
    dsimp only
    by_cases h2:1000<f3+f5+(Sc.numA t.l maxN).1
    · rw [if_pos ⟨hsk _,h2⟩,if_pos (.inr (by omega))]
      exact .inr ⟨rfl,Ps.refuse_none_in (by decide)⟩
    · rw [if_neg (fun hh=>h2 hh.2),if_neg (by omega)]
      exact SimV.refl _
theorem sim_seven {t:Ps} (he:t.e=none):SimV ((t.within 0 4 10).1,if (t.within 0 4 10).1=0 then (t.within 0 4 10).2.refuse 10 t.i else (t.within 0 4 10).2) (t.within 1 4 10):=by
  have h:=numA_in t.l maxN (by decide)
  have hsk:∀ k:Nat,(t.skip k).e=none:=fun k=>he
  rw [within_none_eq he,within_none_eq he]
  by_cases h1:(Sc.numA t.l maxN).2≠0
  · rw [if_pos h1,if_pos h1]
    dsimp only
    rw [if_pos rfl,show ∀ s:Ps,s.e≠none→s.refuse 10 (t.i:Int)=s from fun s hs=>holds_refuse 10 t.i s hs]
    · exact SimV.refl _
    · exact Ps.refuse_none_in h1
  · rw [if_neg h1,if_neg h1]
    by_cases h2:4<(Sc.numA t.l maxN).1
    · rw [if_pos (show (Sc.numA t.l maxN).1<0∨4<(Sc.numA t.l maxN).1 from .inr h2),if_pos (show (Sc.numA t.l maxN).1<1∨4<(Sc.numA t.l maxN).1 from .inr h2)]
      dsimp only
      rw [if_pos (show (0:Int)=0 from rfl),show ∀ s:Ps,s.e≠none→s.refuse 10 (t.i:Int)=s from fun s hs=>holds_refuse 10 t.i s hs]
      · exact SimV.refl _
      · exact Ps.refuse_none_in (by decide)
    · rw [if_neg (by omega)]
      dsimp only
      by_cases h3:(Sc.numA t.l maxN).1=0
      · rw [if_pos h3,if_pos (.inl (by omega))]
        exact .inr ⟨rfl,Ps.refuse_none_in (by decide)⟩
      · rw [if_neg h3,if_neg (by omega)]
        exact SimV.refl _
theorem sim_countQ {k:Nat} (hk:k<8) {f:Nat→Int} (h0:0≤f 3∧0≤f 5) (s:Ps) (hs:s.e=none):SimV (s.countQ k f) (countP k f s):=by
  have key:∀ (v:Int) (t:Ps),SimV ((v,t):Int × Ps) (stC k f s)→SimV ((upd f k v,t):(Nat→Int) × Ps) (countP k f s):=fun v t h=>h.map (fun v=>upd f k v)
  have t0:∀ k,k≠0→s.countT k=s.expect [32]:=fun k hk=>by unfold Ps.countT;rw [if_neg hk]
  unfold Ps.countQ
  dsimp only
  by_cases hq:(s.countT k).e=none
  · rcases (by omega:k=0∨k=1∨k=2∨k=3∨k=4∨k=5∨k=6∨k=7) with rfl | rfl | rfl | rfl | rfl | rfl | rfl | rfl
    · rw [if_neg (by simp)];exact SimV.refl _
    · rw [if_neg (by simp)];exact SimV.refl _
    · rw [if_neg (by simp)];exact SimV.refl _
    · rw [if_neg (by simp)]
      refine key _ _ ?_
      show SimV ((s.expect [32]).within 0 maxN 10) ((s.expect [32]).within 0 maxN 4)
      rw [simV_any _ 10 4];exact SimV.refl _
    · rw [if_neg (by simp)];exact SimV.refl _
    · rw [if_neg (by simp)]
      refine key _ _ ?_
      show SimV ((s.expect [32]).within 0 maxN 10) ((s.expect [32]).within 0 maxN 4)
      rw [simV_any _ 10 4];exact SimV.refl _
    · refine key _ _ ?_
      have h:=sim_six f (f3:=f 3) (f5:=f 5) (t:=s.expect [32]) hq h0
      have e3:∀ v,upd f 6 v 3=f 3:=fun v=>rfl
      have e5:∀ v,upd f 6 v 5=f 5:=fun v=>rfl
      have e6:∀ v,upd f 6 v 6=v:=fun v=>rfl
      rw [e3,e5,e6]
      exact (congrArg (fun z=>SimV (_,z) _) (if_eq (P:=_) (Q:=_) (by simp;rfl))).mpr h
    · refine key _ _ ?_
      have h:=sim_seven (t:=s.expect [32]) hq
      have e7:∀ v,upd f 7 v 7=v:=fun v=>rfl
      rw [e7]
      exact (congrArg (fun z=>SimV (_,z) _) (if_eq (P:=_) (Q:=_) (by simp;rfl))).mpr h
  · have hk0:k≠0:=fun h=>by subst h;exact hq hs
    have hq':(s.expect [32]).e≠none:=by rw [← t0 k hk0];exact hq
    have e1:((s.countT k).within 0 (lim k) 10)=(0,s.countT k):=within_bad hq 0 (lim k) 10
    have hst:(countP k f s).2.e=(s.expect [32]).e:=by
      show (stC k f s).2.e=_
      unfold stC
      rw [if_neg hk0]
      split
      · exact keeps_within _ _ _ _ hq'
      · split
        · exact keeps_within _ _ _ _ hq'
        · split
          · exact keeps_within _ _ _ _ hq'
          · exact keeps_within _ _ _ _ hq'
    have hL:∀ (P:Prop) [Decidable P],(if P then ((s.countT k).within 0 (lim k) 10).2.refuse 10 ((s.countT k).i:Int) else ((s.countT k).within 0 (lim k) 10).2)=s.countT k:=fun P _=>by
      rw [e1]
      split
      · exact holds_refuse 10 _ _ hq
      · rfl
    right
    dsimp only
    rw [hL,hst,t0 k hk0]
    exact ⟨rfl,hq'⟩
theorem stC_pos {k:Nat} {f:Nat→Int} {s:Ps}:0≤(stC k f s).1:=by
  have hw:∀ (t:Ps) (lo hi k:Int),0≤lo→0≤(t.within lo hi k).1:=fun t lo hi k h=>by
    rcases Ps.within_in t lo hi k with h1 | h1
    · rw [h1];decide
    · omega
  unfold stC
  split
  · exact hw _ _ _ _ (by decide)
  · split
    · exact hw _ _ _ _ (by decide)
    · split
      · exact hw _ _ _ _ (by decide)
      · split
        · exact hw _ _ _ _ (by decide)
        · exact hw _ _ _ _ (by decide)
theorem sim_counts:∀ (m k:Nat) (f:Nat→Int) (s:Ps),k+m≤8→(0≤f 3∧0≤f 5)→SimV (countsQ m k (f,s)) (countsP m k f s)
  | 0,k,f,s,hk,h0=>SimV.refl _
  | m+1,k,f,s,hk,h0=>by
    cases he:s.e with
    | some z =>
      have h1:s.e≠none:=by rw [he];simp
      rw [countsQ_bad (isSome_of h1)]
      exact .inr ⟨(keeps_countsP (m+1) k f s h1).symm,h1⟩
    | none =>
      rw [countsQ_go he]
      have h1:=sim_countQ (k:=k) (by omega) h0 s he
      show SimV (countsQ m (k+1) (s.countQ k f)) (countsP m (k+1) (countP k f s).1 (countP k f s).2)
      cases hq:(s.countQ k f).2.e with
      | none =>
        rw [h1.same hq]
        refine sim_counts m (k+1) (countP k f s).1 (countP k f s).2 (by omega) ?_
        have hp:=stC_pos (k:=k) (f:=f) (s:=s)
        constructor
        · show 0≤upd f k _ 3
          unfold upd
          split
          · exact hp
          · exact h0.1
        · show 0≤upd f k _ 5
          unfold upd
          split
          · exact hp
          · exact h0.2
      | some z =>
        have h2:(s.countQ k f).2.e≠none:=by rw [hq];simp
        have h3:(countP k f s).2.e≠none:=by rw [← h1.sim.fault];exact h2
        rw [countsQ_bad (isSome_of h2)]
        exact .inr ⟨by rw [keeps_countsP m _ _ _ h3];exact h1.sim.fault,h2⟩
def countsOf (v:Int) (c:PCounts):Nat→Int:=fun j=>if j=0 then v else if j=1 then c.ci else if j=2 then c.cl else if j=3 then c.co else if j=4 then c.ca else if j=5 then c.cb else if j=6 then c.cc else if j=7 then c.cm else 0
theorem fun8 {f g:Nat→Int} (h0:f 0=g 0) (h1:f 1=g 1) (h2:f 2=g 2) (h3:f 3=g 3) (h4:f 4=g 4) (h5:f 5=g 5) (h6:f 6=g 6) (h7:f 7=g 7) (h8:∀ j,8≤j→f j=g j):f=g:=by
  funext j
  rcases (by omega:j=0∨j=1∨j=2∨j=3∨j=4∨j=5∨j=6∨j=7∨8≤j) with rfl | rfl | rfl | rfl | rfl | rfl | rfl | rfl | h
  · exact h0
  · exact h1
  · exact h2
  · exact h3
  · exact h4
  · exact h5
  · exact h6
  · exact h7
  · exact h8 j h
theorem first_countsP (x1 x2:List Int) (s:Ps):(countsOf (s.first x1 x2).1 (s.first x1 x2).2.1,(s.first x1 x2).2.2)=countsP (if (s.begin x1 x2).1 then 8 else 7) 0 (fun _=>0) (s.begin x1 x2).2:=by
  unfold Ps.first
  generalize s.begin x1 x2=b
  obtain ⟨b,t⟩:=b
  dsimp only
  cases b with
  | false =>
    refine Prod.ext ?_ rfl
    refine fun8 rfl rfl rfl rfl rfl rfl rfl rfl fun j hj=>?_
    show countsOf _ _ j=_
    unfold countsOf
    rw [if_neg (by omega),if_neg (by omega),if_neg (by omega),if_neg (by omega),if_neg (by omega),if_neg (by omega),if_neg (by omega),if_neg (by omega)]
    show 0=(countsP 7 0 (fun _=>0) t).1 j
    unfold countsP countsP countsP countsP countsP countsP countsP countsP countP
    dsimp only
    unfold upd
    rw [if_neg (by omega),if_neg (by omega),if_neg (by omega),if_neg (by omega),if_neg (by omega),if_neg (by omega),if_neg (by omega)]
  | true =>
    refine Prod.ext ?_ rfl
    refine fun8 rfl rfl rfl rfl rfl rfl rfl rfl fun j hj=>?_
    show countsOf _ _ j=_
    unfold countsOf
    rw [if_neg (by omega),if_neg (by omega),if_neg (by omega),if_neg (by omega),if_neg (by omega),if_neg (by omega),if_neg (by omega),if_neg (by omega)]
    show 0=(countsP 8 0 (fun _=>0) t).1 j
    unfold countsP countsP countsP countsP countsP countsP countsP countsP countsP countP
    dsimp only
    unfold upd
    rw [if_neg (by omega),if_neg (by omega),if_neg (by omega),if_neg (by omega),if_neg (by omega),if_neg (by omega),if_neg (by omega),if_neg (by omega)]
theorem begin_sim (x1 x2:List Int) (s:Ps):SimV (s.begin7 x1 x2) (s.begin x1 x2):=by
  unfold Ps.begin7 Ps.begin
  split
  · exact SimV.refl _
  · split
    · exact SimV.refl _
    · by_cases h:((s.want x1).2.want x2).2.e=none
      · exact .inr ⟨rfl,by rw [Ps.refuse_none h (by decide)];simp⟩
      · exact .inr ⟨rfl,by rw [show ((s.want x1).2.want x2).2.refuse 3 0=((s.want x1).2.want x2).2 from holds_refuse 3 0 _ h];exact h⟩
theorem sim_line1 (x1 x2:List Int) (s:Ps):SimV ((s.begin7 x1 x2).2.counts7 (s.begin7 x1 x2).1) (countsOf (s.line1 x1 x2).1 (s.line1 x1 x2).2.1,(s.line1 x1 x2).2.2):=by
  have h:=SimV.bind (F:=fun b t=>countsQ (if b then 8 else 7) 0 (fun _=>0,t)) (G:=fun b t=>countsP (if b then 8 else 7) 0 (fun _=>0) t)
    (fun b t ht=>by show (countsQ _ 0 (_,t)).2.e=t.e;rw [countsQ_bad (isSome_of ht)]) (fun b=>keeps_countsP _ 0 _) (fun b t _=>sim_counts _ 0 _ t (by cases b <;> decide) ⟨Int.le_refl 0,Int.le_refl 0⟩) (begin_sim x1 x2 s)
  rw [← first_countsP] at h
  exact h.expect [10]
theorem sim_net (V:Int) (c:PCounts) (s:Ps):SimV (net7 (countsOf V c) s) (Ps.net1 (V,c,s)):=by
  have hi:=simV_qlines (f:=Ps.inputQ V) (w:=fun t=>t.definition V 1) (fun s _=>SimV.refl _) c.ci.toNat (Sim.refl s)
  have hl:=fun {s t:Ps}=>simV_qlines (f:=Ps.latchQ V) (w:=fun t=>t.latch V) (fun s _=>SimV.refl _) c.cl.toNat (s:=s) (t:=t)
  have ho:=fun (k:Nat) {s t:Ps}=>simV_qlines (f:=Ps.ln (fun t:Ps=>t.literal V)) (w:=fun t=>t.literal V) (fun s _=>SimV.refl _) k (s:=s) (t:=t)
  have hm:=fun {s t:Ps}=>simV_mems V c.cm.toNat [] s t
  have ha:=fun {s t:Ps}=>simV_elines (f:=Ps.andQ V) (w:=fun t=>t.and V) (fun s _=>simV_and V s) c.ca.toNat (s:=s) (t:=t)
  have K:∀ {α:Type} (f:Ps→α × Ps) k,KeepsV (fun s=>qloop f k (([]:List α),s)):=fun f k=>keeps_qloop f k []
  have L:∀ {α:Type} (f:Ps→α × Ps) k,KeepsV (fun s:Ps=>s.lines f k):=fun f k=>keeps_lines f k
  have M:KeepsV (fun s:Ps=>((linesF (fun t=>t.memory) (nxM V) c.cm.toNat (s,[])).2,(linesF (fun t=>t.memory) (nxM V) c.cm.toNat (s,[])).1)):=fun s hs=>by
    show (linesF (fun t=>t.memory) (nxM V) c.cm.toNat (s,[])).1.e=s.e
    rw [linesF_bad (isSome_of hs)]
  let F7:List Int→List PLatch→List Int→List Int→List Int→List PMem→Ps→PNet × Ps:=fun i l o b q m t=>(⟨V,i,l,o,b,q,m,(eachF (Ps.andQ V) push c.ca.toNat (t,[])).2⟩,(eachF (Ps.andQ V) push c.ca.toNat (t,[])).1)
  let G7:List Int→List PLatch→List Int→List Int→List Int→List PMem→Ps→PNet × Ps:=fun i l o b q m t=>(⟨V,i,l,o,b,q,m,(t.lines (fun t=>t.and V) c.ca.toNat).1⟩,(t.lines (fun t=>t.and V) c.ca.toNat).2)
  have k7:∀ i l o b q m,KeepsV (F7 i l o b q m):=fun i l o b q m=>keeps_map (keeps_eachP _ _) (fun z=>(⟨V,i,l,o,b,q,m,z⟩:PNet))
  have j7:∀ i l o b q m,KeepsV (G7 i l o b q m):=fun i l o b q m=>keeps_map (L _ _) (fun z=>(⟨V,i,l,o,b,q,m,z⟩:PNet))
  have s7:∀ i l o b q m t,SimV (F7 i l o b q m t) (G7 i l o b q m t):=fun i l o b q m t=>(ha (Sim.refl t)).map (fun z=>(⟨V,i,l,o,b,q,m,z⟩:PNet))
  let F6:List Int→List PLatch→List Int→List Int→List Int→Ps→PNet × Ps:=fun i l o b q t=>F7 i l o b q (qloop (Ps.memQ V) c.cm.toNat ([],t)).1 (qloop (Ps.memQ V) c.cm.toNat ([],t)).2
  let G6:List Int→List PLatch→List Int→List Int→List Int→Ps→PNet × Ps:=fun i l o b q t=>G7 i l o b q (linesF (fun t=>t.memory) (nxM V) c.cm.toNat (t,[])).2 (linesF (fun t=>t.memory) (nxM V) c.cm.toNat (t,[])).1
  have k6:∀ i l o b q,KeepsV (F6 i l o b q):=fun i l o b q=>keeps_then (K _ _) (k7 i l o b q)
  have j6:∀ i l o b q,KeepsV (G6 i l o b q):=fun i l o b q=>keeps_then M (j7 i l o b q)
  have s6:∀ i l o b q t,SimV (F6 i l o b q t) (G6 i l o b q t):=fun i l o b q t=>SimV.bind (k7 i l o b q) (j7 i l o b q) (fun m t _=>s7 i l o b q m t) (hm (Sim.refl t))
  let F5:List Int→List PLatch→List Int→List Int→Ps→PNet × Ps:=fun i l o b t=>F6 i l o b (qloop (Ps.ln (fun t:Ps=>t.literal V)) c.cc.toNat ([],t)).1 (qloop (Ps.ln (fun t:Ps=>t.literal V)) c.cc.toNat ([],t)).2
  let G5:List Int→List PLatch→List Int→List Int→Ps→PNet × Ps:=fun i l o b t=>G6 i l o b (t.lines (fun t=>t.literal V) c.cc.toNat).1 (t.lines (fun t=>t.literal V) c.cc.toNat).2
  have k5:∀ i l o b,KeepsV (F5 i l o b):=fun i l o b=>keeps_then (K _ _) (k6 i l o b)
  have j5:∀ i l o b,KeepsV (G5 i l o b):=fun i l o b=>keeps_then (L _ _) (j6 i l o b)
  have s5:∀ i l o b t,SimV (F5 i l o b t) (G5 i l o b t):=fun i l o b t=>SimV.bind (k6 i l o b) (j6 i l o b) (fun m t _=>s6 i l o b m t) (ho _ (Sim.refl t))
  let F4:List Int→List PLatch→List Int→Ps→PNet × Ps:=fun i l o t=>F5 i l o (qloop (Ps.ln (fun t:Ps=>t.literal V)) c.cb.toNat ([],t)).1 (qloop (Ps.ln (fun t:Ps=>t.literal V)) c.cb.toNat ([],t)).2
  let G4:List Int→List PLatch→List Int→Ps→PNet × Ps:=fun i l o t=>G5 i l o (t.lines (fun t=>t.literal V) c.cb.toNat).1 (t.lines (fun t=>t.literal V) c.cb.toNat).2
  have k4:∀ i l o,KeepsV (F4 i l o):=fun i l o=>keeps_then (K _ _) (k5 i l o)
  have j4:∀ i l o,KeepsV (G4 i l o):=fun i l o=>keeps_then (L _ _) (j5 i l o)
  have s4:∀ i l o t,SimV (F4 i l o t) (G4 i l o t):=fun i l o t=>SimV.bind (k5 i l o) (j5 i l o) (fun m t _=>s5 i l o m t) (ho _ (Sim.refl t))
  let F3:List Int→List PLatch→Ps→PNet × Ps:=fun i l t=>F4 i l (qloop (Ps.ln (fun t:Ps=>t.literal V)) c.co.toNat ([],t)).1 (qloop (Ps.ln (fun t:Ps=>t.literal V)) c.co.toNat ([],t)).2
  let G3:List Int→List PLatch→Ps→PNet × Ps:=fun i l t=>G4 i l (t.lines (fun t=>t.literal V) c.co.toNat).1 (t.lines (fun t=>t.literal V) c.co.toNat).2
  have k3:∀ i l,KeepsV (F3 i l):=fun i l=>keeps_then (K _ _) (k4 i l)
  have j3:∀ i l,KeepsV (G3 i l):=fun i l=>keeps_then (L _ _) (j4 i l)
  have s3:∀ i l t,SimV (F3 i l t) (G3 i l t):=fun i l t=>SimV.bind (k4 i l) (j4 i l) (fun m t _=>s4 i l m t) (ho _ (Sim.refl t))
  let F2:List Int→Ps→PNet × Ps:=fun i t=>F3 i (qloop (Ps.latchQ V) c.cl.toNat ([],t)).1 (qloop (Ps.latchQ V) c.cl.toNat ([],t)).2
  let G2:List Int→Ps→PNet × Ps:=fun i t=>G3 i (t.lines (fun t=>t.latch V) c.cl.toNat).1 (t.lines (fun t=>t.latch V) c.cl.toNat).2
  have k2:∀ i,KeepsV (F2 i):=fun i=>keeps_then (K _ _) (k3 i)
  have j2:∀ i,KeepsV (G2 i):=fun i=>keeps_then (L _ _) (j3 i)
  have s2:∀ i t,SimV (F2 i t) (G2 i t):=fun i t=>SimV.bind (k3 i) (j3 i) (fun m t _=>s3 i m t) (hl (Sim.refl t))
  exact SimV.bind (F:=F2) (G:=G2) k2 j2 (fun i t _=>s2 i t) hi
theorem keeps_net7 (f:Nat→Int):KeepsV (net7 f):=fun s hs=>by
  have q:∀ {α:Type} (g:Ps→α × Ps) k (l:List α) (t:Ps),t.e≠none→qloop g k (l,t)=(l,t):=fun g k l t ht=>qloop_bad (isSome_of ht) k
  unfold net7
  dsimp only
  rw [q _ _ _ _ hs,q _ _ _ _ hs,q _ _ _ _ hs,q _ _ _ _ hs,q _ _ _ _ hs,q _ _ _ _ hs,keeps_each _ _ _ _ _ hs]
theorem want_bad {s:Ps} {b:List Int} (h:(s.want b).1≠0):(s.want b).2=s:=by
  show s.skip (Sc.wantN s.l b)=s
  rw [wantN_bad (i:=s.i) h]
  obtain ⟨l,i,seen,e⟩:=s
  rfl
theorem tail_same (s:Ps):s.tail7=s.tail:=by
  unfold Ps.tail7 Ps.tail
  by_cases hl:s.l=[]
  · have h1:(s.want [99,10]).1≠0:=by
      show (Sc.wantA s.l [99,10] s.i).2≠0
      rw [hl]
      simp [Sc.wantA,Sc.mat]
    rw [if_pos hl,want_bad h1,if_neg (by rw [hl];simp)]
  · rw [if_neg hl]
    by_cases h1:(s.want [99,10]).1=0
    · rw [if_pos h1,if_neg (fun hh=>hh.1 h1)]
    · rw [if_neg h1,if_pos ⟨h1,by rw [want_bad h1];exact List.length_pos_iff.2 hl⟩]
theorem finish_same (chk:Int) (s:Ps):s.finish7 chk=s.finish chk:=by
  unfold Ps.finish7 Ps.finish
  cases he:s.e with
  | none=>simp [tail_same]
  | some z=>simp
theorem parse_same (xs:List Int):parseQ xs=parseP xs:=by
  have h:=sim_line1 aagB aagmB (Ps.begun xs)
  unfold parseQ parseP
  dsimp only
  generalize ((Ps.begun xs).begin7 aagB aagmB).2.counts7 ((Ps.begun xs).begin7 aagB aagmB).1=c at *
  obtain ⟨⟨v,k,s⟩,hL⟩:∃ z,(Ps.begun xs).line1 aagB aagmB=z:=⟨_,rfl⟩
  rw [hL] at h ⊢
  dsimp only at h ⊢
  obtain ⟨f,t⟩:=c
  cases he:s.e with
  | some z =>
    have h1:t.e=some z:=by rw [h.sim.fault];exact he
    have h2:(net7 f t).2.e=some z:=by rw [keeps_net7 f t (by rw [h1];simp)];exact h1
    dsimp only
    unfold Ps.finish7 told
    rw [h2]
    dsimp only
    rw [h2]
  | none =>
    have h1:t.e=none:=by rw [h.sim.fault];exact he
    obtain ⟨rfl,rfl⟩:=Prod.mk.inj (h.same h1)
    have hn:=sim_net v k t
    rw [finish_same]
    cases hq:(Ps.net1 (v,k,t)).2.e with
    | none =>
      rw [hn.same (by rw [hn.sim.fault];exact hq)]
      unfold told
      cases ((Ps.net1 (v,k,t)).2.finish (Ps.net1 (v,k,t)).1.check).e with
      | none=>rfl
      | some y=>rfl
    | some z =>
      have h3:(net7 (countsOf v k) t).2.e=some z:=by rw [hn.sim.fault];exact hq
      unfold Ps.finish told
      rw [h3,hq]
      dsimp only
      rw [if_pos (show (some z).isSome=true from rfl),if_pos (show (some z).isSome=true from rfl),h3,hq]
theorem net7_same {xs:List Int} (h:(net7 (((Ps.begun xs).begin7 aagB aagmB).2.counts7 ((Ps.begun xs).begin7 aagB aagmB).1).1 (((Ps.begun xs).begin7 aagB aagmB).2.counts7 ((Ps.begun xs).begin7 aagB aagmB).1).2).2.e=none) :
    ((Ps.begun xs).line1 aagB aagmB).2.2.e=none∧net7 (((Ps.begun xs).begin7 aagB aagmB).2.counts7 ((Ps.begun xs).begin7 aagB aagmB).1).1 (((Ps.begun xs).begin7 aagB aagmB).2.counts7 ((Ps.begun xs).begin7 aagB aagmB).1).2=Ps.net1 ((Ps.begun xs).line1 aagB aagmB):=by
  have hs:=sim_line1 aagB aagmB (Ps.begun xs)
  generalize ((Ps.begun xs).begin7 aagB aagmB).2.counts7 ((Ps.begun xs).begin7 aagB aagmB).1=c at *
  obtain ⟨⟨v,k,s⟩,hL⟩:∃ z,(Ps.begun xs).line1 aagB aagmB=z:=⟨_,rfl⟩
  rw [hL] at hs ⊢
  dsimp only at hs ⊢
  obtain ⟨f,t⟩:=c
  have h1:t.e=none:=by
    cases he:t.e with
    | none=>rfl
    | some z =>
      have h2:=keeps_net7 f t (by rw [he];simp)
      rw [h2] at h
      exact h.symm ▸ he.symm ▸ rfl
  obtain ⟨rfl,rfl⟩:=Prod.mk.inj (hs.same h1)
  exact ⟨h1,(sim_net v k t).same h⟩
end Go.Proofs.YtldnepogjnahfaaGreatDoor
