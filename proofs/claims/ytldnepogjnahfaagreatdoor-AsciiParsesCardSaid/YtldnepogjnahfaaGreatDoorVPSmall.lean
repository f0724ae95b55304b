/- What a text is read into is small (no condition but those that each theorem names). -/
import Derived.Test.YtldnepogjnahfaaGreatDoorVParse
set_option linter.unusedVariables false
namespace Go.Proofs.YtldnepogjnahfaaGreatDoor
open Go.ChangeShapes Go.WideShapes Go.RowKit
theorem Ps.within_range {s:Ps} {lo hi k:Int} (h:lo≤0∨lo=1) (hh:0≤hi):0≤lo→0≤(s.within lo hi k).1∧(s.within lo hi k).1≤hi:=fun h0=>by
  unfold Ps.within
  split
  · exact ⟨Int.le_refl _,hh⟩
  · split
    · exact ⟨Int.le_refl _,hh⟩
    · split
      · exact ⟨Int.le_refl _,hh⟩
      · rename_i h1 h2
        show 0≤(Sc.numA s.l maxN).1∧(Sc.numA s.l maxN).1≤hi
        omega
theorem Ps.literal_range {s:Ps} {V:Int} (hV:0≤V):0≤(s.literal V).1∧(s.literal V).1≤2*V+1:=Ps.within_range (.inl (by omega)) (by omega) (Int.le_refl _)
theorem Ps.definition_range {s:Ps} {V:Int} (hV:0≤V) (cnt:Nat):0≤(s.definition V cnt).1∧(s.definition V cnt).1≤V:=by
  have h:=Ps.literal_range (s:=s) hV
  unfold Ps.definition
  split
  · exact ⟨Int.le_refl _,hV⟩
  · split
    · exact ⟨Int.le_refl _,hV⟩
    · show 0≤(s.literal V).1 / 2∧(s.literal V).1 / 2≤V
      omega
theorem linesF_all {α:Type} {wf:Ps→α × Ps} {P:α→Prop} (h:∀ t,P (wf t).1):∀ (cnt:Nat) (s:Ps × List α),(∀ x∈s.2,P x)→∀ x∈(linesF wf push cnt s).2,P x
  | 0,s,hs=>hs
  | k+1,s,hs=>by
    unfold linesF
    split
    · exact hs
    · split
      · exact hs
      · refine linesF_all h k _ fun x hx=>?_
        rcases List.mem_append.1 hx with hx | hx
        · exact hs x hx
        · rw [List.mem_singleton] at hx
          rw [hx]
          exact h _
theorem lines_all {α:Type} {wf:Ps→α × Ps} {P:α→Prop} (h:∀ t,P (wf t).1) (cnt:Nat) (s:Ps):∀ x∈(s.lines wf cnt).1,P x:=linesF_all h cnt (s,[]) (fun x hx=>(by cases hx))
theorem linesF_len {α:Type} {wf:Ps→α × Ps}:∀ (cnt:Nat) (s:Ps × List α),(linesF wf push cnt s).2.length≤s.2.length+cnt
  | 0,s=>Nat.le_refl _
  | k+1,s=>by
    unfold linesF
    split
    · omega
    · split
      · show s.2.length≤_;omega
      · have:=linesF_len (wf:=wf) k (push ((wf s.1).2.expect [10],s.2) (wf s.1).1)
        have e:(push ((wf s.1).2.expect [10],s.2) (wf s.1).1).2.length=s.2.length+1:=by simp [push]
        omega
theorem lines_len {α:Type} {wf:Ps→α × Ps} (cnt:Nat) (s:Ps):(s.lines wf cnt).1.length≤cnt:=by
  have h:(linesF wf push cnt (s,[])).2.length≤0+cnt:=linesF_len cnt (s,[])
  show (linesF wf push cnt (s,[])).2.length≤cnt
  omega
theorem nextLiterals_all {V:Int} (hV:0≤V):∀ (k:Nat) (s:Ps),∀ x∈(Ps.nextLiterals V k s).1,0≤x∧x≤2*V+1
  | 0,s=>fun x hx=>(by cases hx)
  | k+1,s=>fun x hx=>by
    rcases List.mem_append.1 hx with hx | hx
    · exact nextLiterals_all hV k s x hx
    · rw [List.mem_singleton] at hx
      rw [hx]
      exact Ps.literal_range hV
theorem ports_small {V:Int} (hV:0≤V∧V≤2000) {x:PShape} (hx:x.good) (s:Ps):(s.ports (fun k t=>t.nextDef V k) V x).1.fits∧((s.ports (fun k t=>t.nextDef V k) V x).1.mr.length≤4∧(s.ports (fun k t=>t.nextDef V k) V x).1.mx.length≤4)∧∀ r∈(s.ports (fun k t=>t.nextDef V k) V x).1.mr,0≤r.rv∧r.rv≤2000:=by
  obtain ⟨⟨a0,a1⟩,⟨w0,w1⟩,⟨r0,r1⟩,⟨x0,x1⟩⟩:=hx
  have hr:=lines_all (wf:=fun t:Ps=>t.read (fun t=>t.nextDef V x.sw.toNat) V x.sa.toNat) (P:=fun r=>(0≤r.rv∧r.rv≤V)∧∀ y∈r.ra,0≤y∧y≤2*V+1) (fun t=>⟨Ps.definition_range hV.1 _,nextLiterals_all hV.1 _ _⟩) x.sr.toNat s
  have hw:=lines_all (wf:=fun t:Ps=>t.write V x.sa.toNat x.sw.toNat) (P:=fun r=>(0≤r.wo∧r.wo≤2*V+1)∧(∀ y∈r.wa,0≤y∧y≤2*V+1)∧∀ y∈r.wd,0≤y∧y≤2*V+1) (fun t=>⟨Ps.literal_range hV.1,nextLiterals_all hV.1 _ _,nextLiterals_all hV.1 _ _⟩) x.sx.toNat (s.lines (fun t=>t.read (fun t=>t.nextDef V x.sw.toNat) V x.sa.toNat) x.sr.toNat).2
  have l1:=lines_len (wf:=fun t:Ps=>t.read (fun t=>t.nextDef V x.sw.toNat) V x.sa.toNat) x.sr.toNat s
  have l2:=lines_len (wf:=fun t:Ps=>t.write V x.sa.toNat x.sw.toNat) x.sx.toNat (s.lines (fun t=>t.read (fun t=>t.nextDef V x.sw.toNat) V x.sa.toNat) x.sr.toNat).2
  unfold Ps.ports
  dsimp only
  have hI:∀ y:Int,0≤y∧y≤2*V+1→I64 y:=fun y h=>⟨by omega,by omega⟩
  refine ⟨⟨⟨by show _≤x.sa;omega,by show x.sa<_;omega⟩,⟨by show _≤x.sw;omega,by show x.sw<_;omega⟩,fun r h=>⟨⟨by have:=(hr r h).1;omega,by have:=(hr r h).1;omega⟩,fun y hy=>hI y ((hr r h).2 y hy)⟩,fun r h=>⟨hI _ (hw r h).1,fun y hy=>hI y ((hw r h).2.1 y hy),fun y hy=>hI y ((hw r h).2.2 y hy)⟩⟩,⟨by show List.length (Ps.lines _ _ _).1≤4;omega,by show List.length (Ps.lines _ _ _).1≤4;omega⟩,fun r h=>?_⟩
  have:=(hr r h).1
  omega
theorem Ps.start_range {s:Ps} {v:Int}:0≤(s.start v).1∧(s.start v).1≤2:=by
  unfold Ps.start
  split
  · rename_i h;omega
  · split
    · exact ⟨by show (0:Int)≤2;decide,by show (2:Int)≤2;decide⟩
    · exact ⟨by show (0:Int)≤0;decide,by show (0:Int)≤2;decide⟩
def MemSmall (m:PMem):Prop:=m.fits∧(m.mr.length≤4∧m.mx.length≤4)∧∀ r∈m.mr,0≤r.rv∧r.rv≤2000
theorem memsF_small {V:Int} (hV:0≤V∧V≤2000):∀ (cnt:Nat) (s:Ps × List PMem),(∀ x∈s.2,MemSmall x)→(∀ x∈(linesF (fun t=>t.memory) (nxM V) cnt s).2,MemSmall x)∧(linesF (fun t=>t.memory) (nxM V) cnt s).2.length≤s.2.length+cnt
  | 0,s,hs=>⟨hs,Nat.le_refl _⟩
  | k+1,s,hs=>by
    unfold linesF
    split
    · exact ⟨hs,by omega⟩
    · split
      · exact ⟨hs,by show s.2.length≤_;omega⟩
      · rename_i h1 h2
        have he:(s.1.memory.2.expect [10]).e=none:=by cases h:(s.1.memory.2.expect [10]).e with
          | none=>rfl
          | some y=>exact absurd (by rw [h];rfl) h2
        have hg:=Ps.memory_good (t:=s.1) (x:=s.1.memory.1) (s:=s.1.memory.2.expect [10]) rfl he
        have hp:=ports_small hV hg (s.1.memory.2.expect [10])
        have:=memsF_small hV k (nxM V (s.1.memory.2.expect [10],s.2) s.1.memory.1) fun x hx=>by
          rcases List.mem_append.1 hx with hx | hx
          · exact hs x hx
          · rw [List.mem_singleton] at hx
            rw [hx]
            exact hp
        refine ⟨this.1,?_⟩
        have h3:=this.2
        have e:(nxM V (s.1.memory.2.expect [10],s.2) s.1.memory.1).2.length=s.2.length+1:=by simp [nxM]
        omega
theorem body_small {V:Int} (hV:0≤V∧V≤2000) (ci cl co ca cb cc cm:Nat) (hc:ci≤1000000∧cl≤1000000∧co≤1000000∧ca≤1000000∧cb≤1000000∧cc≤1000000∧cm≤1000000) (s:Ps) :
    (s.body V ci cl co ca cb cc cm).1.fits∧(s.body V ci cl co ca cb cc cm).1.modest∧(s.body V ci cl co ca cb cc cm).1.near∧(s.body V ci cl co ca cb cc cm).1.mems.length≤cm∧∀ m∈(s.body V ci cl co ca cb cc cm).1.mems,m.mr.length≤4:=by
  obtain ⟨c1,c2,c3,c4,c5,c6,c7⟩:=hc
  unfold Ps.body
  dsimp only
  have hI:∀ y:Int,0≤y∧y≤2*V+1→I64 y:=fun y h=>⟨by omega,by omega⟩
  have hlit:∀ (t:Ps),0≤(t.literal V).1∧(t.literal V).1≤2*V+1:=fun t=>Ps.literal_range hV.1
  have hdef:∀ (t:Ps),0≤(t.definition V 1).1∧(t.definition V 1).1≤2*V+1:=fun t=>by have:=Ps.definition_range (s:=t) hV.1 1;omega
  have i1:=lines_all (wf:=fun t:Ps=>t.definition V 1) (P:=fun y=>0≤y∧y≤2*V+1) hdef ci s
  have j1:=lines_len (wf:=fun t:Ps=>t.definition V 1) ci s
  generalize s.lines (fun t=>t.definition V 1) ci=x1 at *
  have i2:=lines_all (wf:=fun t:Ps=>t.latch V) (P:=fun l=>l.fits) (fun t=>⟨hI _ (hdef t),hI _ (hlit _),by have:=Ps.start_range (s:=((((t.definition V 1).2.expect [32]).literal V).2.expect [32])) (v:=(t.definition V 1).1);exact ⟨Int.le_trans (by decide) this.1,Int.lt_of_le_of_lt this.2 (by decide)⟩⟩) cl x1.2
  have j2:=lines_len (wf:=fun t:Ps=>t.latch V) cl x1.2
  generalize x1.2.lines (fun t=>t.latch V) cl=x2 at *
  have i3:=lines_all (wf:=fun t:Ps=>t.literal V) (P:=fun y=>0≤y∧y≤2*V+1) hlit co x2.2
  have j3:=lines_len (wf:=fun t:Ps=>t.literal V) co x2.2
  generalize x2.2.lines (fun t=>t.literal V) co=x3 at *
  have i4:=lines_all (wf:=fun t:Ps=>t.literal V) (P:=fun y=>0≤y∧y≤2*V+1) hlit cb x3.2
  have j4:=lines_len (wf:=fun t:Ps=>t.literal V) cb x3.2
  generalize x3.2.lines (fun t=>t.literal V) cb=x4 at *
  have i5:=lines_all (wf:=fun t:Ps=>t.literal V) (P:=fun y=>0≤y∧y≤2*V+1) hlit cc x4.2
  have j5:=lines_len (wf:=fun t:Ps=>t.literal V) cc x4.2
  generalize x4.2.lines (fun t=>t.literal V) cc=x5 at *
  have i6:=memsF_small hV cm (x5.2,[]) (fun x hx=>by cases hx)
  generalize linesF (fun t=>t.memory) (nxM V) cm (x5.2,[])=x6 at *
  have i7:=lines_all (wf:=fun t:Ps=>t.and V) (P:=fun l=>l.fits) (fun t=>⟨hI _ (hdef t),hI _ (hlit _),hI _ (hlit _)⟩) ca x6.1
  have j7:=lines_len (wf:=fun t:Ps=>t.and V) ca x6.1
  generalize x6.1.lines (fun t=>t.and V) ca=x7 at *
  have j6:x6.2.length≤0+cm:=i6.2
  refine ⟨⟨⟨by show _≤V;omega,by show V<_;omega⟩,fun x h=>hI x (i1 x h),i2,fun x h=>hI x (i3 x h),fun x h=>hI x (i4 x h),fun x h=>hI x (i5 x h),fun x h=>(i6.1 x h).1,i7⟩,⟨by show x1.1.length≤_;omega,by show x2.1.length≤_;omega,by show x3.1.length≤_;omega,by show x4.1.length≤_;omega,by show x5.1.length≤_;omega,by show x6.2.length≤_;omega,by show x7.1.length≤_;omega,fun m h=>?_⟩,fun m h r hr=>?_,by show x6.2.length≤_;omega,fun m h=>(i6.1 m h).2.1.1⟩
  · have:=(i6.1 m h).2.1;omega
  · have:=(i6.1 m h).2.2 r hr;omega
end Go.Proofs.YtldnepogjnahfaaGreatDoor
