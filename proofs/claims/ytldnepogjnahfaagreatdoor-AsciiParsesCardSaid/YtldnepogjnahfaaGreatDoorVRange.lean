/- A range over an iterator that writes memory of its own between the rounds, whose body always goes on: the iterator's contract, and the law of the statement (no condition but those that each theorem names). -/
import Derived.RangeFuncNested
import Derived.RangeFuncBound
import Derived.RangeFuncCalls
import Derived.RangeFuncLeaves
import Derived.Test.YtldnepogjnahfaaGreatDoorRows
namespace Go.Proofs.YtldnepogjnahfaaGreatDoor
open Go.RowKit
set_option linter.unusedVariables false
def SeqW {α σ:Type} (F:Fence) (n:Nat) (P:Program) (g:Nat) (lb:Array Value) (Know:σ→World→Prop) (St:σ→σ→World→World→Prop) (R:σ→α→Value→World→Prop) (nx:σ→α→σ) (Fi:σ→Prop) (s0:σ) (w:World):Prop :=
  ∀ (l:Nat) (J:σ→World→Prop) (W:World),Below w.heap.size w W→(∀ s A,J s A→Know s A)→(∀ s s' A B,J s A→St s s' A B→J s' B) →
    (∀ s x v A,J s A→R s x v A→YieldAt F (n - 1) P l #[v] A fun e B=>e=.returned (.bool true)∧J (nx s x) B) →
    J s0 W→CallsIn F n P g (#[.func (.yield l) #[] #[]]++lb) W fun e W'=>(∃ v,e=.returned v)∧∃ s,Fi s∧J s W'
theorem wp_range {α σ:Type} {F:Fence} {n:Nat} {P:Program} {g:Operand} {p0:Tmp} {assign body:Code} {Q:Exit→Act→World→Prop} {a:Act} {w:World}
    (hro:F.round=none) (h1:1≤n) {gf:Nat} {lb:Array Value} (hg:a.eval g=.func (.func gf) #[] lb) (hFg:F.fn gf) (eg:∀ args w,(callFunc gf args).run P w=.ok (.enter gf args) w)
    {Know:σ→World→Prop} {St:σ→σ→World→World→Prop} {R:σ→α→Value→World→Prop} {nx:σ→α→σ} {Fi:σ→Prop} {s0:σ} {w0:World}
    (hseq:SeqW F (n - 1) P gf lb Know St R nx Fi s0 w0) (hb0:Below w0.heap.size w0 w)
    (I:σ→World→Prop) (hI:OwnFrom w.heap.size I) (hIK:∀ s W,I s W→Know s W) (hIS:∀ s s' A B,w.heap.size≤A.heap.size→I s A→St s s' A B→I s' B) (hSK:∀ s s' A B,Know s A→St s s' A B→KeepsOthers A B)
    (h0:I s0 w) (I':σ × α × Act→World→Prop) (hI':OwnFrom w.heap.size I')
    (hassign:∀ (l:Nat) (s:σ) (x:α) (v:Value) (W:World),w.heap.size≤W.heap.size→I s W→R s x v W →
      assign.wpIn (F.inRound l) (n - 1 - 1) P (Exit.then (fun a' W'=>KeepsOthers W W'∧I' (s,x,a') W') (fun _ _ _=>False)) { tmps:=a.tmps.setIfInBounds p0 v,defers:=[] } W)
    (hbody:∀ (l:Nat) (s:σ) (x:α) (a':Act) (W:World),w.heap.size≤W.heap.size→I' (s,x,a') W→body.wpIn (F.inRound l) (n - 1 - 1) P (fun e _ W'=>e=.normal∧KeepsOthers W W'∧I (nx s x) W') a' W)
    (hdone:∀ (D:Nat) (s:σ) (W:World),w.heap.size≤D→Fi s→I s W→W.heap[D]?=some (.deferred (some []))→Q .normal { a with defers:={ target:=.collected D,args:=#[] }::a.defers } W) :
    (Code.rangeFunc g #[p0] assign body).wpIn F n P Q a w:=by
  refine wpIn_rangeFunc ?_
  intro fn hfn
  rw [hro]
  obtain ⟨rec,hrec⟩:∃ rec:LoopState→Loop,rec=fun st=>{ state:=st,pending:=none,fn,tmps:=a.tmps,params:=#[p0],assign,body,defers:=w.heap.size }:=⟨_,rfl⟩
  obtain ⟨W1,hW1⟩:∃ W1,(w.alloc (.deferred (some []))).alloc (.loop (rec .ready))=W1:=⟨_,rfl⟩
  have hL1:W1.heap[w.heap.size+1]?=some (.loop (rec .ready)):=by
    have:=World.alloc_heap_new (w.alloc (.deferred (some []))) (.loop (rec .ready))
    rw [World.size_alloc] at this
    rw [← hW1]
    exact this
  have hK1:W1.heap[w.heap.size]?=some (.deferred (some [])):=by
    rw [← hW1]
    exact (Below.heap_alloc _ _ _ (by simp)).trans (World.alloc_heap_new w _)
  have hI1:I s0 W1:=by rw [← hW1];exact hI.alloc _ (hI.alloc _ h0)
  have hs1:w.heap.size+2≤W1.heap.size:=by rw [← hW1];simp
  have hb1:Below w0.heap.size w0 W1:=by
    rw [← hW1]
    exact hb0.trans ((((Below.refl _ w).alloc (Nat.le_refl _) _).alloc (by simp) _).mono hb0.size)
  refine ⟨w.heap.size+1,[{ target:=.collected w.heap.size,args:=#[] }],W1,{ target:=.fn (.func gf) lb,args:=#[.func (.yield (w.heap.size+1)) #[] #[]] },W1,gf,
    #[.func (.yield (w.heap.size+1)) #[] #[]]++lb,W1,?_,?_,?_,?_,fun _=>h1,?_⟩
  · rw [← hW1,hrec];exact run_enterLoop_outer _ _ _ _ _
  · simp only [resolve,hg]
    simp [go_sem]
  · intro f' hf';simp [Target.leads] at hf';subst hf';exact hFg
  · simp [invoke,go_sem,eg]
  · refine (hseq (w.heap.size+1) (fun s W=>I s W∧W.heap[w.heap.size+1]?=some (.loop (rec .ready))∧W.heap[w.heap.size]?=some (.deferred (some []))) W1 hb1
      (fun s A h=>hIK s A h.1)
      (fun s s' A B h hs=>by
        have hk:=hSK s s' A B (hIK s A h.1) hs
        have hlt:=(Array.getElem?_eq_some_iff.1 h.2.1).1
        exact ⟨hIS s s' A B (by omega) h.1 hs,hk.same _ _ h.2.1 rfl,hk.same _ _ h.2.2 rfl⟩)
      ?_ ⟨hI1,hL1,hK1⟩).mono ?_
    · rintro s x v W ⟨hi,hl,hk⟩ hR
      have hlt:w.heap.size+1<W.heap.size:=(Array.getElem?_eq_some_iff.1 hl).1
      have hy:=run_yield (P:=P) (args:=#[v]) hl (by rw [hrec];rfl)
      rw [hrec] at hy
      refine ⟨fn,_,assign,body,hy,roundIn_of_wpIn hfn ?_⟩
      have ha:=hassign (w.heap.size+1) s x v W (by omega) hi hR
      refine wpIn_mono (Q:=Exit.then (fun a' W'=>KeepsOthers W W'∧I' (s,x,a') W') (fun _ _ _=>False)) ?_ ?_
      · simpa using ha
      · rintro e a' W' hq
        cases e with
        | normal =>
          obtain ⟨hk2,hi2⟩:=hq
          have hl2:=hk2.same _ _ hl rfl
          have hd2:=hk2.same _ _ hk rfl
          have hlt2:=(Array.getElem?_eq_some_iff.1 hl2).1
          refine ⟨_,run_beginRound hl2 (by rw [hrec]),?_⟩
          have hl3:(W'.putObj (w.heap.size+1) (.loop { rec .ready with state:=.busy })).heap[w.heap.size+1]?=some (.loop { rec .ready with state:=.busy }):=World.putObj_heap_same hlt2
          have hd3:(W'.putObj (w.heap.size+1) (.loop { rec .ready with state:=.busy })).heap[w.heap.size]?=some (.deferred (some [])):=(World.putObj_heap_other (by omega)).trans hd2
          refine wpIn_mono (hbody (w.heap.size+1) s x a' _ (by simp;omega) (hI'.putObj _ hi2 (by omega) hl2 rfl)) ?_
          rintro e3 a3 W3 ⟨rfl,hk3,hi3⟩
          have hl4:=hk3.same _ _ hl3 rfl
          have hd4:=hk3.same _ _ hd3 rfl
          have hend:=run_endRound (P:=P) none hl4
          have hlt4:=(Array.getElem?_eq_some_iff.1 hl4).1
          refine ⟨_,_,hend,rfl,hI.putObj _ hi3 (by omega) hl4 rfl,?_,(World.putObj_heap_other (by omega)).trans hd4⟩
          rw [World.putObj_heap_same hlt4,hrec]
          rfl
        | ret=>exact hq.elim
        | exit id=>exact hq.elim
        | goto t=>exact hq.elim
        | panic ch=>exact hq.elim
        | outgrown=>exact hq.elim
    · rintro e W2 ⟨⟨v,rfl⟩,s,hF,hi,hl,hk⟩
      have hlt:=(Array.getElem?_eq_some_iff.1 hl).1
      exact ⟨none,_,by have:=run_endLoop (P:=P) hl (by rw [hrec];simp);rw [hrec] at this;exact this,hdone _ s _ (Nat.le_refl _) hF (hI.putObj _ hi (by omega) hl rfl) ((World.putObj_heap_other (by omega)).trans hk)⟩
end Go.Proofs.YtldnepogjnahfaaGreatDoor
