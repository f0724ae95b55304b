/- A range whose variable lies in a block of its own; a drawn region within a round, by the laws of a drawn region outside one (conditions: the region defers nothing, and its post bears no growth beyond the machine). -/
import Derived.Test.YtldnepogjnahfaaGreatDoorVRange
import Derived.OrdersIn
import Derived.OrdersHeld
import Derived.OwnWalkIn
namespace Go.Proofs.YtldnepogjnahfaaGreatDoor
open Go.RowKit
set_option linter.unusedVariables false
theorem wp_range_box {α σ:Type} {F:Fence} {n:Nat} {P:Program} {g:Operand} {p0:Tmp} (q0:Tmp) {assign body:Code} {Q:Exit→Act→World→Prop} {a:Act} {w:World}
    (hro:F.round=none) (h1:1≤n) {gf:Nat} {lb:Array Value} (hg:a.eval g=.func (.func gf) #[] lb) (hFg:F.fn gf) (eg:∀ args w,(callFunc gf args).run P w=.ok (.enter gf args) w)
    {Know:σ→World→Prop} {St:σ→σ→World→World→Prop} {R:σ→α→Value→World→Prop} {nx:σ→α→σ} {Fi:σ→Prop} {s0:σ} {w0:World}
    (hseq:SeqW F (n - 1) P gf lb Know St R nx Fi s0 w0) (hb0:Below w0.heap.size w0 w)
    (I:σ→World→Prop) (hI:OwnFrom w.heap.size I) (hIK:∀ s W,I s W→Know s W) (hIS:∀ s s' A B,w.heap.size≤A.heap.size→I s A→St s s' A B→I s' B) (hSK:∀ s s' A B,Know s A→St s s' A B→KeepsOthers A B)
    (h0:I s0 w) (G:σ→α→Prop) (hG:∀ s x v W,I s W→R s x v W→G s x) (C:α→Array Value→Prop) (t:TypeId)
    (I2:σ→Nat→World→Prop) (hI2:∀ vb,OwnFrom w.heap.size (fun s=>I2 s vb)) (h12:∀ s W c,I s W→I2 s W.heap.size (W.alloc (.cells c t)))
    (hassign:∀ (l:Nat) (s:σ) (x:α) (v:Value) (W:World) (K:Act→World→Prop),R s x v W →
      (∀ c,C x c→K { tmps:=(a.tmps.setIfInBounds p0 v).setIfInBounds q0 (.pointer (some ⟨W.heap.size,0,none⟩)),defers:=[] } (W.alloc (.cells c t))) →
      assign.wpIn (F.inRound l) (n - 1 - 1) P (Exit.then K (fun _ _ _=>False)) { tmps:=a.tmps.setIfInBounds p0 v,defers:=[] } W)
    (hbody:∀ (l:Nat) (s:σ) (x:α) (v:Value) (vb:Nat) (c:Array Value) (W:World),w.heap.size≤W.heap.size→w.heap.size≤vb→W.heap[vb]?=some (.cells c t (0,0))→C x c→I2 s vb W→G s x →
      body.wpIn (F.inRound l) (n - 1 - 1) P (fun e _ W'=>e=.normal∧KeepsOthers W W'∧I (nx s x) W') { tmps:=(a.tmps.setIfInBounds p0 v).setIfInBounds q0 (.pointer (some ⟨vb,0,none⟩)),defers:=[] } W)
    (hdone:∀ (D:Nat) (s:σ) (W:World),w.heap.size≤D→Fi s→I s W→W.heap[D]?=some (.deferred (some []))→Q .normal { a with defers:={ target:=.collected D,args:=#[] }::a.defers } W) :
    (Code.rangeFunc g #[p0] assign body).wpIn F n P Q a w:=by
  refine wp_range hro h1 hg hFg eg hseq hb0 I hI hIK hIS hSK h0
    (fun y W=>∃ (vb:Nat) (v:Value) (c:Array Value),y.2.2={ tmps:=(a.tmps.setIfInBounds p0 v).setIfInBounds q0 (.pointer (some ⟨vb,0,none⟩)),defers:=[] }∧W.heap[vb]?=some (.cells c t (0,0))∧w.heap.size≤vb∧I2 y.1 vb W∧G y.1 y.2.1∧C y.2.1 c) ?_ ?_ ?_ hdone
  · rintro ⟨s,x,a'⟩ A B row ⟨vb,v,c,q1,q2,q3,q4,q5,q6⟩ hgr hr
    refine ⟨vb,v,c,q1,?_,q3,hI2 vb _ A B row q4 hgr hr,q5,q6⟩
    refine (hgr.block vb (Array.getElem?_eq_some_iff.1 q2).1 fun e=>?_).trans q2
    obtain ⟨_,o,ho,hc⟩:=hr vb e.symm
    rw [q2] at ho
    injection ho with ho
    subst ho
    simp [Obj.isCells] at hc
  · intro l s x v W hW hi hR
    refine hassign l s x v W _ hR fun c hc=>?_
    exact ⟨KeepsOthers.alloc _ _,W.heap.size,v,c,rfl,by rw [World.alloc_heap_new],hW,h12 s W c hi,hG s x v W hi hR,hc⟩
  · rintro l s x a' W hW ⟨vb,v,c,rfl,q2,q3,q4,q5,q6⟩
    exact hbody l s x v vb c W hW q3 q2 q6 q4 q5
section
variable {P:Program} {ops:Array Oper} {Q:Exit→Act→World→Prop} {md:Region.Mode} {l n:Nat}
theorem wp_inRound {o:Oper} {a:Act} {w:World} {K:Act→World→Prop} (hd:∀ c,o.op≠.defer c) (h:o.wp P a w K Q):o.wpIn (Fence.wide.inRound l) n P a w K Q:=by
  unfold Oper.wp at h
  unfold Oper.wpIn
  refine ⟨fun f _=>trivial,?_⟩
  rw [Oper.semAt_eq _ _ _ hd]
  generalize (execOp a.eval o).run P w=r at *
  cases r with
  | ok x w' =>
    cases x with
    | value v=>exact h
    | skip=>exact h
    | defer d=>exact h
    | enter f args=>exact ⟨fun hc=>by simp [Fence.wide] at hc,CallsIn.inRound l (callsIn_wide.2 (Calls.mono h fun e w'' he=>by cases e <;> exact he))⟩
    | row row args=>exact ⟨fun hc=>by simp [Fence.wide] at hc,fun c cs _=>by
      obtain ⟨v,w'',r,st⟩:=h c cs
      exact ⟨v,w'',r,stepsIn_wide.2 st⟩⟩
    | _=>exact False.elim h
  | halt x w' =>
    cases x with
    | panic v=>exact h
    | _=>exact False.elim h
theorem wpAny_inRound (hops:∀ (i:Nat) (o:Oper),ops[i]?=some o→∀ c,o.op≠.defer c) (hQ:¬ LetsOut Q):∀ (fuel:Nat) (listed:Array Bool) (a:Act) (w:World),wpAny P md ops Q fuel listed a w→wpAnyIn (Fence.wide.inRound l) n P md ops Q fuel listed a w
  | 0,_,_,_,h=>h
  | fuel+1,listed,a,w,h=>by
    refine ⟨h.1,fun i hi=>?_⟩
    have h2:=h.2 i hi
    unfold wpOp at h2
    unfold wpOpIn
    cases ho:ops[i]? with
    | none =>
      rw [ho] at h2
      exact wpAny_inRound hops hQ fuel _ a w h2
    | some o =>
      rw [ho] at h2
      simp only at h2 ⊢
      split at h2
      · rename_i hw
        rw [if_pos hw]
        rcases h2 with h2 | h2
        · exact Oper.wpIn_mono (fun a' w' h3=>wpAny_inRound hops hQ fuel _ a' w' h3) (wp_inRound (hops i o ho) h2)
        · exact absurd h2.2 hQ
      · rename_i hw
        rw [if_neg hw]
        exact ⟨fun f _=>trivial,wpAny_inRound hops hQ fuel _ _ w h2⟩
theorem region_inRound {S:World→Prop} {id:Nat} {a:Act} {w:World} (hm:P.follows .mixedOrders=true) (hops:∀ (i:Nat) (o:Oper),ops[i]?=some o→∀ c,o.op≠.defer c) (hQ:¬ LetsOut Q) (hS:S w.drew)
    (h:S w.drew→wpAnyH P .any ops Q S ops.size (Array.replicate ops.size false) a w.drew):(Code.region id ops true).wpIn (Fence.wide.inRound l) n P Q a w :=
  wpIn_region_any hm (wpAny_inRound hops hQ _ _ _ _ (wpAny_of_held _ _ _ _ (h hS)))
end
end Go.Proofs.YtldnepogjnahfaaGreatDoor
