/- What levels are: the one list that each node's rule holds of; the rounds by definition find it if there is one, and find none else (conditions: nodes of a sound netlist); The rounds by definition answer the levels if there are any, and none else (condition: nodes of a sound netlist); Of the order by definition: as many nodes as there are, each behind those that define its literals; what a node's numbers say of the netlist (condition: a sound netlist that has levels); Two slices that read as one list are the same (conditions: the cells hold the numbers; at most 1000000); What the contracts of package topo say: lists, levels, nodes that are answered; what a light netlist is (no condition but those that each theorem names); What a node of package topo defines, and on what it hangs (conditions: the netlist lies where its value says, is modest; its words have at most 64 bits); A walk into the depth, as plain lists: marks, what is left behind in which order, and why a walk that meets what is on the way has found values that hang on themselves (no condition but those that each theorem names); The walk into the depth: the closure that calls itself, and walk (conditions: what is called below and behind each variable keeps to its contract; the walk's own five blocks are nobody else's); The contract of walk: what is left behind, and in what state (conditions: as at the closure that it calls; at most 1000000 variables, and as many to begin with). -/
import Derived.Test.YtldnepogjnahfaaGreatDoorVZE
import Derived.Test.YtldnepogjnahfaaGreatDoorVZC
import Derived.Test.YtldnepogjnahfaaGreatDoorVZD
import Derived.BigQuiet
set_option linter.unusedVariables false
namespace Go.Proofs.YtldnepogjnahfaaGreatDoor
def at0 (L:List Int) (i:Nat):Int:=L.getD i 0
theorem at0_lt {L:List Int} {i:Nat} (h:i<L.length):L[i]?=some (at0 L i):=by
  unfold at0
  rw [List.getD_eq_getElem?_getD,List.getElem?_eq_getElem h]
  rfl
theorem at0_set {L:List Int} {i j:Nat} {v:Int}:at0 (L.set j v) i=if j=i∧i<L.length then v else at0 L i:=by
  unfold at0
  rw [List.getD_eq_getElem?_getD,List.getElem?_set,List.getD_eq_getElem?_getD]
  by_cases h:j=i
  · subst h
    rw [if_pos rfl]
    by_cases h2:j<L.length
    · rw [if_pos h2,if_pos ⟨rfl,h2⟩];rfl
    · rw [if_neg h2,if_neg (fun h=>h2 h.2),List.getElem?_eq_none (by omega)]
  · rw [if_neg h,if_neg (fun h2=>h h2.1)]
theorem at0_put {vs:List Int} {a:Int} {i:Nat}:∀ {L:List Int},at0 (putAll L vs a) i=if (∃ v∈vs,v.toNat=i)∧i<L.length then a else at0 L i:=by
  induction vs with
  | nil=>intro L;rw [if_neg (by simp)];rfl
  | cons u vs ih =>
    intro L
    show at0 (putAll (L.set u.toNat a) vs a) i=_
    rw [ih,List.length_set,at0_set]
    by_cases h2:i<L.length
    · by_cases h1:∃ v∈vs,v.toNat=i
      · rw [if_pos ⟨h1,h2⟩]
        obtain ⟨v,hv,e⟩:=h1
        rw [if_pos ⟨⟨v,by simp [hv],e⟩,h2⟩]
      · rw [if_neg (fun h=>h1 h.1)]
        by_cases h3:u.toNat=i
        · rw [if_pos ⟨h3,h2⟩,if_pos ⟨⟨u,by simp,h3⟩,h2⟩]
        · rw [if_neg (fun h=>h3 h.1),if_neg]
          rintro ⟨⟨v,hv,e⟩,_⟩
          rcases List.mem_cons.1 hv with rfl | hv
          · exact h3 e
          · exact h1 ⟨v,hv,e⟩
    · rw [if_neg (fun h=>h2 h.2),if_neg (fun h=>h2 h.2),if_neg (fun h=>h2 h.2)]
theorem lvl_congr {L M:List Int} {fs:List Int} (h:∀ f∈fs,at0 L (f / 2).toNat=at0 M (f / 2).toNat):∀ n,lvl L n fs=lvl M n fs:=by
  induction fs with
  | nil=>intro n;rfl
  | cons f fs ih =>
    intro n
    have h1:L.getD (f / 2).toNat 0=M.getD (f / 2).toNat 0:=h f (by simp)
    unfold lvl
    rw [h1,ih (fun g hg=>h g (by simp [hg]))]
theorem lvl_neg {L:List Int} {fs:List Int}:∀ n,0≤n→lvl L n fs<0→lvl L n fs=-1:=by
  induction fs with
  | nil=>intro n h0 h;unfold lvl at h;omega
  | cons f fs ih =>
    intro n h0 h
    unfold lvl at h ⊢
    split
    · rfl
    · rename_i hf
      rw [if_neg hf] at h
      exact ih _ (by omega) h
theorem lvl_pos {L:List Int} {fs:List Int}:∀ n,0≤n→0≤lvl L n fs→n+1≤lvl L n fs∧∀ f∈fs,0≤at0 L (f / 2).toNat∧at0 L (f / 2).toNat<lvl L n fs:=by
  induction fs with
  | nil=>intro n h0 h;exact ⟨by unfold lvl;omega,by simp⟩
  | cons f fs ih =>
    intro n h0 h
    unfold lvl at h ⊢
    split at h
    · omega
    · rename_i hf
      rw [if_neg hf]
      obtain ⟨h1,h2⟩:=ih _ (by omega) h
      have hf':¬ at0 L (f / 2).toNat<0:=hf
      have h1':max n (at0 L (f / 2).toNat)+1≤lvl L (max n (L.getD (f / 2).toNat 0)) fs:=h1
      refine ⟨by omega,fun g hg=>?_⟩
      rcases List.mem_cons.1 hg with rfl | hg
      · exact ⟨by omega,by omega⟩
      · exact h2 g hg
theorem lvl_all {L:List Int} {fs:List Int} (h:∀ f∈fs,0≤at0 L (f / 2).toNat):∀ n,0≤n→0≤lvl L n fs:=by
  induction fs with
  | nil=>intro n h0;unfold lvl;omega
  | cons f fs ih =>
    intro n h0
    have h1:0≤L.getD (f / 2).toNat 0:=h f (by simp)
    unfold lvl
    rw [if_neg (by omega)]
    exact ih (fun g hg=>h g (by simp [hg])) _ (by omega)
theorem lvl_hit {L:List Int} {fs:List Int}:∀ n,0≤n→0≤lvl L n fs→lvl L n fs=n+1∨∃ f∈fs,lvl L n fs=at0 L (f / 2).toNat+1:=by
  induction fs with
  | nil=>intro n h0 h;exact .inl rfl
  | cons f fs ih =>
    intro n h0 h
    unfold lvl at h ⊢
    split at h
    · omega
    · rename_i hf
      rw [if_neg hf]
      rcases ih _ (by omega) h with h1 | ⟨g,hg,h1⟩
      · rcases Int.le_total n (at0 L (f / 2).toNat) with h2 | h2
        · refine .inr ⟨f,by simp,?_⟩
          rw [h1]
          show max n (at0 L (f / 2).toNat)+1=_
          omega
        · refine .inl ?_
          rw [h1]
          show max n (at0 L (f / 2).toNat)+1=_
          omega
      · exact .inr ⟨g,by simp [hg],h1⟩
structure IsLevels (V:Nat) (D:List PNode) (L:List Int):Prop where
  len:L.length=V+1
  zero:∀ i,i≤V→(∀ x∈D,∀ v∈x.nv,v.toNat≠i)→at0 L i=0
  node:∀ x∈D,∀ v∈x.nv,at0 L v.toNat=plevel L x
  pos:∀ x∈D,0≤plevel L x
theorem from_le {V:Nat} {D:List PNode} (hG:Good6 V D) {x:PNode} (hx:x∈D) {f:Int} (hf:f∈x.nf):(f / 2).toNat≤V:=by
  have:=hG.lits x hx f hf
  omega
theorem IsLevels.unique {V:Nat} {D:List PNode} {L M:List Int} (hG:Good6 V D) (h:IsLevels V D L) (h':IsLevels V D M):L=M:=by
  have key:∀ (k:Nat) (i:Nat),i≤V→(at0 L i).toNat≤k→at0 L i=at0 M i:=by
    intro k
    induction k with
    | zero =>
      intro i hi hk
      by_cases h1:∃ x∈D,∃ v∈x.nv,v.toNat=i
      · obtain ⟨x,hx,v,hv,e⟩:=h1
        have h2:=h.node x hx v hv
        have h3:=(lvl_pos 0 (by omega) (h.pos x hx)).1
        have:plevel L x=lvl L 0 x.nf:=rfl
        rw [e] at h2
        omega
      · rw [h.zero i hi (fun x hx v hv e=>h1 ⟨x,hx,v,hv,e⟩),h'.zero i hi (fun x hx v hv e=>h1 ⟨x,hx,v,hv,e⟩)]
    | succ k ih =>
      intro i hi hk
      by_cases h1:∃ x∈D,∃ v∈x.nv,v.toNat=i
      · obtain ⟨x,hx,v,hv,e⟩:=h1
        have h2:=h.node x hx v hv
        have h3:=(lvl_pos 0 (by omega) (h.pos x hx)).2
        rw [← e,h2,h'.node x hx v hv]
        refine lvl_congr (fun f hf=>?_) 0
        refine ih _ (from_le hG hx hf) ?_
        have h4:=h3 f hf
        have:plevel L x=lvl L 0 x.nf:=rfl
        rw [e] at h2
        omega
      · rw [h.zero i hi (fun x hx v hv e=>h1 ⟨x,hx,v,hv,e⟩),h'.zero i hi (fun x hx v hv e=>h1 ⟨x,hx,v,hv,e⟩)]
  apply List.ext_getElem?
  intro i
  by_cases hi:i<V+1
  · rw [at0_lt (by rw [h.len];exact hi),at0_lt (by rw [h'.len];exact hi),key _ i (by omega) (Nat.le_refl _)]
  · rw [List.getElem?_eq_none (by rw [h.len];omega),List.getElem?_eq_none (by rw [h'.len];omega)]
theorem flat_inj {D:List PNode} (h:(D.flatMap PNode.nv).Nodup):∀ x∈D,∀ y∈D,∀ v,v∈x.nv→v∈y.nv→x=y:=by
  induction D with
  | nil=>intro x hx;simp at hx
  | cons z D ih =>
    rw [List.flatMap_cons,List.nodup_append] at h
    obtain ⟨_,h2,h3⟩:=h
    intro x hx y hy v hv hw
    rcases List.mem_cons.1 hx with ex | hx2
    · rcases List.mem_cons.1 hy with ey | hy2
      · exact ex.trans ey.symm
      · subst ex
        exact absurd rfl (h3 v hv v (List.mem_flatMap.2 ⟨y,hy2,hw⟩))
    · rcases List.mem_cons.1 hy with ey | hy2
      · subst ey
        exact absurd rfl (h3 v hw v (List.mem_flatMap.2 ⟨x,hx2,hv⟩))
      · exact ih h2 x hx2 y hy2 v hv hw
theorem owner {V:Nat} {D:List PNode} (hG:Good6 V D) {x y:PNode} (hx:x∈D) (hy:y∈D) {v u:Int} (hv:v∈x.nv) (hu:u∈y.nv) (e:v.toNat=u.toNat):x=y:=by
  have h1:=hG.vars x hx v hv
  have h2:=hG.vars y hy u hu
  have:v=u:=by omega
  subst this
  exact flat_inj hG.once x hx y hy v hv hu
structure Inv (V:Nat) (D:List PNode) (L:List Int):Prop where
  len:L.length=V+1
  zero:∀ i,i≤V→(∀ x∈D,∀ v∈x.nv,v.toNat≠i)→at0 L i=0
  node:∀ x∈D,∃ a,(∀ v∈x.nv,at0 L v.toNat=a)∧(a=-1∨(a=plevel L x∧0≤a))
theorem at0_step {L:List Int} {y:PNode} {i:Nat}:at0 (lstep L y) i=if (∃ v∈y.nv,v.toNat=i)∧i<L.length then plevel L y else at0 L i:=at0_put
theorem Inv.told {V:Nat} {D:List PNode} {L:List Int} (h:Inv V D L) {x:PNode} (hx:x∈D) {v:Int} (hv:v∈x.nv) (h0:0≤at0 L v.toNat):at0 L v.toNat=plevel L x:=by
  obtain ⟨a,h1,h2⟩:=h.node x hx
  have:=h1 v hv
  rcases h2 with h2 | ⟨h2,_⟩
  · omega
  · omega
theorem Inv.keep {V:Nat} {D:List PNode} {L:List Int} (h:Inv V D L) {y:PNode} (hy:y∈D) {i:Nat} (h0:0≤at0 L i):at0 (lstep L y) i=at0 L i:=by
  rw [at0_step]
  split
  · rename_i h1
    obtain ⟨⟨v,hv,e⟩,_⟩:=h1
    rw [← e,h.told hy hv (by rw [e];exact h0)]
  · rfl
theorem Inv.same {V:Nat} {D:List PNode} {L:List Int} (h:Inv V D L) {x y:PNode} (hy:y∈D) (h0:0≤plevel L x):plevel (lstep L y) x=plevel L x :=
  lvl_congr (fun f hf=>h.keep hy ((lvl_pos 0 (by omega) h0).2 f hf).1) 0
theorem Inv.step {V:Nat} {D:List PNode} {L:List Int} (hG:Good6 V D) (h:Inv V D L) {y:PNode} (hy:y∈D):Inv V D (lstep L y):=by
  refine ⟨by rw [lstep_len];exact h.len,fun i hi hn=>?_,fun x hx=>?_⟩
  · rw [at0_step,if_neg]
    · exact h.zero i hi hn
    · rintro ⟨⟨v,hv,e⟩,_⟩
      exact hn y hy v hv e
  · by_cases hs:∃ v∈x.nv,v∈y.nv
    · obtain ⟨v,hv,hw⟩:=hs
      have hxy:x=y:=flat_inj hG.once x hx y hy v hv hw
      subst hxy
      refine ⟨plevel L x,fun u hu=>?_,?_⟩
      · rw [at0_step,if_pos]
        refine ⟨⟨u,hu,rfl⟩,?_⟩
        have:=hG.vars x hx u hu
        have:=h.len
        omega
      · by_cases hp:0≤plevel L x
        · exact .inr ⟨(h.same hy hp).symm,hp⟩
        · exact .inl (lvl_neg 0 (by omega) (show plevel L x<0 by omega))
    · obtain ⟨a,h1,h2⟩:=h.node x hx
      refine ⟨a,fun v hv=>?_,?_⟩
      · rw [at0_step,if_neg]
        · exact h1 v hv
        · rintro ⟨⟨u,hu,e⟩,_⟩
          have:=owner hG hy hx hu hv e
          subst this
          exact hs ⟨v,hv,hv⟩
      · rcases h2 with h2 | ⟨h2,h3⟩
        · exact .inl h2
        · exact .inr ⟨by rw [h.same hy (by omega)];exact h2,h3⟩
theorem Inv.round {V:Nat} {D:List PNode} (hG:Good6 V D):∀ {E:List PNode} {L:List Int},(∀ x∈E,x∈D)→Inv V D L→Inv V D (lround E L)
  | [],_,_,h=>h
  | y::E,L,hE,h=>Inv.round hG (E:=E) (fun x hx=>hE x (by simp [hx])) (h.step hG (hE y (by simp)))
theorem Inv.stay {V:Nat} {D:List PNode} (hG:Good6 V D) {i:Nat}:∀ {E:List PNode} {L:List Int},(∀ x∈E,x∈D)→Inv V D L→0≤at0 L i→at0 (lround E L) i=at0 L i
  | [],_,_,_,_=>rfl
  | y::E,L,hE,h,h0=>by
    have hk:=h.keep (hE y (by simp)) h0
    show at0 (lround E (lstep L y)) i=_
    rw [Inv.stay hG (fun x hx=>hE x (by simp [hx])) (h.step hG (hE y (by simp))) (by rw [hk];exact h0),hk]
theorem Inv.rounds {V:Nat} {D:List PNode} {L:List Int} (hG:Good6 V D) (h:Inv V D L) (k:Nat):Inv V D (lrounds D k L):=by
  induction k with
  | zero=>exact h
  | succ k ih=>exact Inv.round hG (fun x hx=>hx) ih
theorem start_at {i:Nat}:∀ {D:List PNode} {L:List Int},at0 (D.foldl (fun L x=>putAll L x.nv (-1)) L) i=if (∃ x∈D,∃ v∈x.nv,v.toNat=i)∧i<L.length then -1 else at0 L i
  | [],L=>by rw [if_neg (by simp)];rfl
  | y::D,L=>by
    show at0 (D.foldl _ (putAll L y.nv (-1))) i=_
    rw [start_at,putAll_len,at0_put]
    by_cases h2:i<L.length
    · by_cases h1:∃ x∈D,∃ v∈x.nv,v.toNat=i
      · rw [if_pos ⟨h1,h2⟩]
        obtain ⟨x,hx,h1⟩:=h1
        rw [if_pos ⟨⟨x,by simp [hx],h1⟩,h2⟩]
      · rw [if_neg (fun h=>h1 h.1)]
        by_cases h3:∃ v∈y.nv,v.toNat=i
        · rw [if_pos ⟨h3,h2⟩,if_pos ⟨⟨y,by simp,h3⟩,h2⟩]
        · rw [if_neg (fun h=>h3 h.1),if_neg]
          rintro ⟨⟨x,hx,hv⟩,_⟩
          rcases List.mem_cons.1 hx with rfl | hx
          · exact h3 hv
          · exact h1 ⟨x,hx,hv⟩
    · rw [if_neg (fun h=>h2 h.2),if_neg (fun h=>h2 h.2),if_neg (fun h=>h2 h.2)]
theorem at0_zeros (n i:Nat):at0 (List.replicate n 0) i=0:=by
  unfold at0
  rw [List.getD_eq_getElem?_getD,List.getElem?_replicate]
  split <;> rfl
theorem Inv.start {V:Nat} {D:List PNode} (hG:Good6 V D):Inv V D (lstart V D):=by
  refine ⟨lstart_len V D,fun i hi hn=>?_,fun x hx=>⟨-1,fun v hv=>?_,.inl rfl⟩⟩
  · unfold lstart
    rw [start_at,if_neg,at0_zeros]
    rintro ⟨⟨x,hx,v,hv,e⟩,_⟩
    exact hn x hx v hv e
  · unfold lstart
    rw [start_at,if_pos]
    have:=hG.vars x hx v hv
    exact ⟨⟨x,hx,v,hv,rfl⟩,by rw [List.length_replicate];omega⟩
theorem left_keep {i:Nat}:∀ {E:List PNode} {L:List Int},leftN E L=0→0≤at0 L i→0≤at0 (lround E L) i
  | [],_,_,h0=>h0
  | y::E,L,h,h0=>by
    unfold leftN at h
    have h1:0≤plevel L y:=by
      by_cases hp:plevel L y<0
      · rw [if_pos hp] at h;omega
      · omega
    refine left_keep (E:=E) (L:=lstep L y) (by omega) ?_
    rw [at0_step]
    split
    · exact h1
    · exact h0
theorem left_set {x:PNode} {v:Int} (hv:v∈x.nv):∀ {E:List PNode} {L:List Int},leftN E L=0→x∈E→v.toNat<L.length→0≤at0 (lround E L) v.toNat
  | [],_,_,hx,_=>by simp at hx
  | y::E,L,h,hx,hl=>by
    unfold leftN at h
    have h1:0≤plevel L y:=by
      by_cases hp:plevel L y<0
      · rw [if_pos hp] at h;omega
      · omega
    rcases List.mem_cons.1 hx with e | hx
    · subst e
      refine left_keep (E:=E) (L:=lstep L x) (by omega) ?_
      rw [at0_step,if_pos ⟨⟨v,hv,rfl⟩,hl⟩]
      exact h1
    · exact left_set hv (E:=E) (L:=lstep L y) (by omega) hx (by rw [lstep_len];exact hl)
theorem levels_found {V:Nat} {D:List PNode} {L:List Int} (hG:Good6 V D) (h:Inv V D L) (h0:leftN D L=0):IsLevels V D (lround D L):=by
  have hI:=Inv.round hG (E:=D) (fun x hx=>hx) h
  have hn:∀ x∈D,∀ v∈x.nv,at0 (lround D L) v.toNat=plevel (lround D L) x∧0≤plevel (lround D L) x:=fun x hx v hv=>by
    have h1:=left_set hv h0 hx (by have:=hG.vars x hx v hv;have:=h.len;omega)
    have h2:=hI.told hx hv h1
    omega
  refine ⟨hI.len,hI.zero,fun x hx v hv=>(hn x hx v hv).1,fun x hx=>?_⟩
  obtain ⟨v,hv⟩:=List.exists_mem_of_ne_nil _ (hG.some x hx)
  exact (hn x hx v hv).2
theorem nodup_sub {α:Type} [DecidableEq α]:∀ {l m:List α},l.Nodup→(∀ x∈l,x∈m)→l.length≤m.length
  | [],_,_,_=>Nat.zero_le _
  | a::l,m,h,hs=>by
    rw [List.nodup_cons] at h
    have ha:a∈m:=hs a (by simp)
    have h1:=nodup_sub (l:=l) (m:=m.erase a) h.2 fun x hx=>(List.mem_erase_of_ne (fun e=>h.1 (by rw [← e];exact hx))).2 (hs x (by simp [hx]))
    rw [List.length_erase_of_mem ha] at h1
    have:=List.length_pos_of_mem ha
    simp only [List.length_cons]
    omega
theorem IsLevels.defined {V:Nat} {D:List PNode} {M:List Int} (h:IsLevels V D M) {i:Nat} (hi:i≤V) (h1:0<at0 M i):∃ x∈D,∃ v∈x.nv,v.toNat=i∧plevel M x=at0 M i:=by
  by_cases h2:∃ x∈D,∃ v∈x.nv,v.toNat=i
  · obtain ⟨x,hx,v,hv,e⟩:=h2
    exact ⟨x,hx,v,hv,e,by rw [← h.node x hx v hv,e]⟩
  · have:=h.zero i hi (fun x hx v hv e=>h2 ⟨x,hx,v,hv,e⟩)
    omega
theorem IsLevels.chain {V:Nat} {D:List PNode} {M:List Int} (hG:Good6 V D) (h:IsLevels V D M):∀ (k i:Nat),i≤V→at0 M i=(k:Int)+1→∀ j:Nat,j≤k→∃ x∈D,plevel M x=(j:Int)+1
  | 0,i,hi,hk,j,hj=>by
    obtain ⟨x,hx,v,hv,e,hp⟩:=h.defined hi (by omega)
    exact ⟨x,hx,by omega⟩
  | k+1,i,hi,hk,j,hj=>by
    obtain ⟨x,hx,v,hv,e,hp⟩:=h.defined hi (by omega)
    by_cases hjk:j=k+1
    · exact ⟨x,hx,by omega⟩
    · rcases lvl_hit (L:=M) (fs:=x.nf) 0 (by omega) (h.pos x hx) with h1 | ⟨f,hf,h1⟩
      · have:plevel M x=0+1:=h1
        omega
      · have h2:plevel M x=at0 M (f / 2).toNat+1:=h1
        exact IsLevels.chain hG h k (f / 2).toNat (from_le hG hx hf) (by omega) j (by omega)
theorem IsLevels.low {V:Nat} {D:List PNode} {M:List Int} (hG:Good6 V D) (h:IsLevels V D M) {i:Nat} (hi:i≤V):at0 M i≤D.length:=by
  by_cases h0:0<at0 M i
  · obtain ⟨k,hk⟩:∃ k:Nat,at0 M i=(k:Int)+1:=⟨(at0 M i - 1).toNat,by omega⟩
    have h1:=h.chain hG k i hi hk
    have h2:=nodup_sub (l:=(List.range (k+1)).map fun (j:Nat)=>(j:Int)+1) (m:=D.map (plevel M)) ?_ ?_
    · simp at h2
      omega
    · rw [List.nodup_iff_pairwise_ne,List.pairwise_map]
      refine List.Pairwise.imp ?_ (List.nodup_iff_pairwise_ne.1 List.nodup_range)
      intro a b hab e
      omega
    · intro y hy
      obtain ⟨j,hj,rfl⟩:=List.mem_map.1 hy
      obtain ⟨x,hx,e⟩:=h1 j (by have:=List.mem_range.1 hj;omega)
      exact List.mem_map.2 ⟨x,hx,e⟩
  · omega
theorem rounds_tell {V:Nat} {D:List PNode} {M:List Int} (hG:Good6 V D) (h:IsLevels V D M):∀ (k i:Nat),i≤V→at0 M i≤k→0≤at0 (lrounds D k (lstart V D)) i
  | 0,i,hi,hk=>by
    have hI:=Inv.start hG
    rw [show lrounds D 0 (lstart V D)=lstart V D from rfl,hI.zero i hi]
    · omega
    · intro x hx v hv e
      have h1:=h.node x hx v hv
      have h2:=(lvl_pos 0 (by omega) (h.pos x hx)).1
      have:plevel M x=lvl M 0 x.nf:=rfl
      rw [e] at h1
      omega
  | k+1,i,hi,hk=>by
    have hI:=(Inv.start hG).rounds hG k
    by_cases h1:∃ x∈D,∃ v∈x.nv,v.toNat=i
    · obtain ⟨x,hx,v,hv,e⟩:=h1
      obtain ⟨D1,D2,hD⟩:=List.append_of_mem hx
      have hD1:∀ y∈D1,y∈D:=fun y hy=>by rw [hD];simp [hy]
      have hD2:∀ y∈D2,y∈D:=fun y hy=>by rw [hD];simp [hy]
      have hI1:=Inv.round hG hD1 hI
      have hr:lround D (lrounds D k (lstart V D))=lround D2 (lstep (lround D1 (lrounds D k (lstart V D))) x):=by
        conv=>lhs;arg 1;rw [hD]
        simp [lround]
      have hp:0≤plevel (lround D1 (lrounds D k (lstart V D))) x:=by
        refine lvl_all (fun f hf=>?_) 0 (by omega)
        have h2:=(lvl_pos 0 (by omega) (h.pos x hx)).2 f hf
        have h3:=h.node x hx v hv
        have:plevel M x=lvl M 0 x.nf:=rfl
        rw [e] at h3
        have h4:=rounds_tell hG h k (f / 2).toNat (from_le hG hx hf) (by omega)
        rw [Inv.stay hG hD1 hI h4]
        exact h4
      show 0≤at0 (lround D (lrounds D k (lstart V D))) i
      have h5:at0 (lstep (lround D1 (lrounds D k (lstart V D))) x) i=plevel (lround D1 (lrounds D k (lstart V D))) x:=by
        rw [at0_step,if_pos ⟨⟨v,hv,e⟩,by rw [hI1.len];omega⟩]
      rw [hr,Inv.stay hG hD2 (hI1.step hG hx) (by rw [h5];exact hp),h5]
      exact hp
    · have hI2:=(Inv.start hG).rounds hG (k+1)
      rw [hI2.zero i hi (fun x hx v hv e=>h1 ⟨x,hx,v,hv,e⟩)]
      omega
theorem left_none {V:Nat} {D:List PNode} (hG:Good6 V D):∀ {E:List PNode} {L:List Int},(∀ x∈E,x∈D)→(∀ i,i≤V→0≤at0 L i)→leftN E L=0
  | [],_,_,_=>rfl
  | y::E,L,hE,h=>by
    have h1:0≤plevel L y:=lvl_all (fun f hf=>h _ (from_le hG (hE y (by simp)) hf)) 0 (by omega)
    unfold leftN
    rw [if_neg (by omega),left_none hG (fun x hx=>hE x (by simp [hx])) (fun i hi=>?_)]
    rw [at0_step]
    split
    · exact h1
    · exact h i hi
theorem levelsOf_iff {V:Nat} {D:List PNode} (hG:Good6 V D) {L:List Int}:levelsOf V D=some L↔IsLevels V D L:=by
  have hf:leftN D (lrounds D D.length (lstart V D))=0→IsLevels V D (lrounds D (D.length+1) (lstart V D)):=levels_found hG ((Inv.start hG).rounds hG D.length)
  constructor
  · intro h
    unfold levelsOf at h
    split at h
    · rename_i h0
      injection h with h
      rw [← h]
      exact hf h0
    · cases h
  · intro h
    have h0:=left_none hG (E:=D) (fun x hx=>hx) fun i hi=>rounds_tell hG h D.length i hi (h.low hG hi)
    unfold levelsOf
    rw [if_pos h0,(hf h0).unique hG h]
theorem levelsOf_none {V:Nat} {D:List PNode} (hG:Good6 V D) (h:∀ L,¬ IsLevels V D L):levelsOf V D=none:=by
  cases hl:levelsOf V D with
  | none=>rfl
  | some L=>exact absurd ((levelsOf_iff hG).1 hl) (h L)
theorem andNodes_at {x:PNode}:∀ {l:List PAnd} {k:Nat},x∈andNodes k l→x.nr=false∧x.nm=0∧∃ j a,x.na=((k+j:Nat):Int)∧l[j]?=some a∧x.nf=[a.aa,a.ab]∧x.nv=[a.av]
  | [],_,h=>by simp [andNodes] at h
  | a::l,k,h=>by
    rw [andNodes,List.mem_cons] at h
    rcases h with rfl | h
    · exact ⟨rfl,rfl,0,a,rfl,rfl,rfl,rfl⟩
    · obtain ⟨h1,h0,j,b,h2,h3,h4⟩:=andNodes_at h
      exact ⟨h1,h0,j+1,b,by rw [h2];congr 1;omega,h3,h4⟩
theorem portNodes_at {x:PNode} {w:Int} {i:Nat}:∀ {l:List PRead} {k:Nat},x∈portNodes w i k l→x.nr=true∧x.nm=(i:Int)∧∃ j r,x.na=((k+j:Nat):Int)∧l[j]?=some r∧x.nf=r.ra∧x.nv=dataL r.rv w
  | [],_,h=>by simp [portNodes] at h
  | a::l,k,h=>by
    rw [portNodes,List.mem_cons] at h
    rcases h with rfl | h
    · exact ⟨rfl,rfl,0,a,rfl,rfl,rfl,rfl⟩
    · obtain ⟨h1,h0,j,b,h2,h3,h4⟩:=portNodes_at h
      exact ⟨h1,h0,j+1,b,by rw [h2];congr 1;omega,h3,h4⟩
theorem memNodes_at {x:PNode}:∀ {l:List PMem} {i:Nat},x∈memNodes i l→x.nr=true∧∃ t m j r,x.nm=((i+t:Nat):Int)∧l[t]?=some m∧x.na=(j:Nat)∧m.mr[j]?=some r∧x.nf=r.ra∧x.nv=dataL r.rv m.mw
  | [],_,h=>by simp [memNodes] at h
  | m::l,i,h=>by
    rw [memNodes,List.mem_append] at h
    rcases h with h | h
    · obtain ⟨h1,h0,j,r,h2,h3,h4,h5⟩:=portNodes_at h
      exact ⟨h1,0,m,j,r,by rw [h0];rfl,rfl,by rw [h2];congr 1;omega,h3,h4,h5⟩
    · obtain ⟨h1,t,m2,j,r,h0,h2,h3⟩:=memNodes_at h
      exact ⟨h1,t+1,m2,j,r,by rw [h0];congr 1;omega,h2,h3⟩
theorem node_at {n:PNet} {x:PNode} (h:x∈n.nodes) :
    (x.nr=false∧x.nm=0∧∃ j a,x.na=(j:Nat)∧n.ands[j]?=some a∧x.nf=[a.aa,a.ab]∧x.nv=[a.av]) ∨
    (x.nr=true∧∃ t m j r,x.nm=(t:Nat)∧n.mems[t]?=some m∧x.na=(j:Nat)∧m.mr[j]?=some r∧x.nf=r.ra∧x.nv=dataL r.rv m.mw):=by
  unfold PNet.nodes at h
  rcases List.mem_append.1 h with h | h
  · obtain ⟨h1,h0,j,a,h2,h3⟩:=andNodes_at h
    exact .inl ⟨h1,h0,j,a,by rw [h2];congr 1;omega,h3⟩
  · obtain ⟨h1,t,m,j,r,h0,h2⟩:=memNodes_at h
    exact .inr ⟨h1,t,m,j,r,by rw [h0];congr 1;omega,h2⟩
open Go.ChangeShapes Go.WideShapes Go.RowKit
open Go.ChangeShapes Go.WideShapes Go.RowKit
section
variable {H:Type} {enc:TypeId × Value→H} {w:World} {held:Bool}
end
def Lists (w:World) (xs:List Int) (e:Ending) (w':World):Prop:=∃ A c,e=.returned (.slice A xs.length c)∧Src w' w'.heap.size A xs∧Below w.heap.size w w'
def TLevels (w:World) (o:Option (List Int)) (e:Ending) (w':World):Prop :=
  ∃ A c,e=.returned (.tuple #[.slice A (o.getD []).length c,.bool o.isSome])∧Src w' w'.heap.size A (o.getD [])∧Below w.heap.size w w'
def TNodeAt (w:World) (b o:Nat) (x:PNode):Prop :=
  w.cell? ⟨b,o,none⟩=some (.bool x.nr)∧w.cell? ⟨b,o+1,none⟩=some (.int .i64 x.nm)∧w.cell? ⟨b,o+2,none⟩=some (.int .i64 x.na)
open Go.ChangeShapes Go.WideShapes Go.RowKit
def HighL (w:World) (xs:List Int) (e:Ending) (w':World):Prop:=∃ A c,e=.returned (.slice A xs.length c)∧High w' w.heap.size A xs∧Src w' w'.heap.size A xs∧Below w.heap.size w w'
theorem Left.highL {w w1:World} {xs:List Int} {e:Ending} {w':World} (h:Left w1 xs e w') (hb:Below w.heap.size w w1):HighL w xs e w':=by
  obtain ⟨v,rfl,hO⟩:=h
  obtain ⟨A,c,rfl,hH⟩:=hO.high (hi:=w.heap.size) hb.size
  obtain ⟨A2,c2,e2,hs,_⟩:=hO.form
  injection e2 with e3 e4 e5
  subst e3
  subst e5
  exact ⟨A,c,rfl,hH,hs,below_on hb hO.2.1⟩
theorem highL_one {w0 w:World} (x:Int) {g:Nat} (hg:g=w.heap.size) (hb:Below w0.heap.size w0 w):HighL w0 [x] (.returned (.slice (some ⟨g,0,none⟩) 1 1)) (w.alloc (.cells #[.int .i64 x] 3)):=by
  subst hg
  refine ⟨_,_,rfl,fun _=>⟨_,_,rfl,hb.size,fun j y hj=>?_⟩,Src.one (t:=3) (fr:=(0,0)) (heap_alloc_new _ _) (by simp),below_on hb (below_box _ _ _)⟩
  have hj2:=lt_of_some hj
  have:j=0:=by simpa using hj2
  subst this
  simp at hj
  subst hj
  rw [Nat.zero_add,cell_of_row _ w.heap.size 0 _ _ _ (heap_alloc_new w _)]
  rfl
theorem highL_two {w0 w:World} (x y:Int) {g:Nat} (hg:g=w.heap.size) (hb:Below w0.heap.size w0 w):HighL w0 [x,y] (.returned (.slice (some ⟨g,0,none⟩) 2 2)) (w.alloc (.cells #[.int .i64 x,.int .i64 y] 3)):=by
  subst hg
  refine ⟨_,_,rfl,fun _=>⟨_,_,rfl,hb.size,fun j z hj=>?_⟩,Src.two (t:=3) (fr:=(0,0)) (heap_alloc_new _ _) (by simp),below_on hb (below_box _ _ _)⟩
  have hj2:=lt_of_some hj
  rw [cell_of_row _ w.heap.size (0+j) _ _ _ (heap_alloc_new w _)]
  match j,hj2 with
  | 0,_=>simp at hj;subst hj;rfl
  | 1,_=>simp at hj;subst hj;rfl
structure GBox (w:World) (g:Nat) (n:PNet) (S:NetS) (p q:Value):Prop where
  net:NetBox w g n S
  n8:w.cell? ⟨g,8,none⟩=some p
  n9:w.cell? ⟨g,9,none⟩=some q
theorem GBox.below {w w':World} {g B:Nat} {n:PNet} {S:NetS} {p q:Value} (h:GBox w g n S p q) (hb:Below B w w') (hg:g<B):GBox w' g n S p q :=
  ⟨h.net.below hb hg,(hb.cell (p:=⟨g,8,none⟩) hg).trans h.n8,(hb.cell (p:=⟨g,9,none⟩) hg).trans h.n9⟩
theorem gBox_new (w:World) (n:PNet) (S:NetS) (p q:Value) (t:TypeId):GBox (w.alloc (.cells #[.int .i64 n.vars,.slice S.i n.inputs.length S.ic,.slice S.l n.latches.length S.lc,.slice S.o n.outs.length S.oc,.slice S.b n.bads.length S.bc,.slice S.c n.cons.length S.cc,.slice S.m n.mems.length S.mc,.slice S.a n.ands.length S.ac,p,q] t)) w.heap.size n S p q :=
  ⟨⟨cell_box w _ t 0 _ rfl,cell_box w _ t 1 _ rfl,cell_box w _ t 2 _ rfl,cell_box w _ t 3 _ rfl,cell_box w _ t 4 _ rfl,cell_box w _ t 5 _ rfl,cell_box w _ t 6 _ rfl,cell_box w _ t 7 _ rfl,by simp⟩,cell_box w _ t 8 _ rfl,cell_box w _ t 9 _ rfl⟩
structure TBox (w:World) (g:Nat) (x:PNode):Prop where
  t0:w.cell? ⟨g,0,none⟩=some (.bool x.nr)
  t1:w.cell? ⟨g,1,none⟩=some (.int .i64 x.nm)
  t2:w.cell? ⟨g,2,none⟩=some (.int .i64 x.na)
theorem tBox_new (w:World) (x:PNode) (t:TypeId):TBox (w.alloc (.cells #[.bool x.nr,.int .i64 x.nm,.int .i64 x.na] t)) w.heap.size x :=
  ⟨cell_box w _ t 0 _ rfl,cell_box w _ t 1 _ rfl,cell_box w _ t 2 _ rfl⟩
set_option maxRecDepth 100000 in
set_option maxHeartbeats 4000000 in
theorem variables_any (n:PNet) (S:NetS) (p q:Value) (w:World) (x:PNode) (h:NetAt w w.heap.size S n) (hx:x∈n.nodes) (hm:n.modest) (ht:∀ m∈n.mems,m.told) (hF:∀ m∈n.mems,m.Fit) :
    Calls Tryz.prog 161 #[.agg #[.int .i64 n.vars,.slice S.i n.inputs.length S.ic,.slice S.l n.latches.length S.lc,.slice S.o n.outs.length S.oc,.slice S.b n.bads.length S.bc,.slice S.c n.cons.length S.cc,.slice S.m n.mems.length S.mc,.slice S.a n.ands.length S.ac,p,q],.agg #[.bool x.nr,.int .i64 x.nm,.int .i64 x.na]] w (HighL w x.nv):=by
  obtain ⟨nr,nm,na,nf,nv⟩:=x
  have hb2:=below_on (below_box w #[.int .i64 n.vars,.slice S.i n.inputs.length S.ic,.slice S.l n.latches.length S.lc,.slice S.o n.outs.length S.oc,.slice S.b n.bads.length S.bc,.slice S.c n.cons.length S.cc,.slice S.m n.mems.length S.mc,.slice S.a n.ands.length S.ac,p,q] 102) (below_box (w.alloc (.cells #[.int .i64 n.vars,.slice S.i n.inputs.length S.ic,.slice S.l n.latches.length S.lc,.slice S.o n.outs.length S.oc,.slice S.b n.bads.length S.bc,.slice S.c n.cons.length S.cc,.slice S.m n.mems.length S.mc,.slice S.a n.ands.length S.ac,p,q] 102)) #[.bool nr,.int .i64 nm,.int .i64 na] 165)
  have hM:=(gBox_new w n S p q 102).below (below_box _ #[.bool nr,.int .i64 nm,.int .i64 na] 165) (by simp)
  obtain ⟨t0,t1,t2⟩:=tBox_new (w.alloc (.cells #[.int .i64 n.vars,.slice S.i n.inputs.length S.ic,.slice S.l n.latches.length S.lc,.slice S.o n.outs.length S.oc,.slice S.b n.bads.length S.bc,.slice S.c n.cons.length S.cc,.slice S.m n.mems.length S.mc,.slice S.a n.ands.length S.ac,p,q] 102)) ⟨nr,nm,na,nf,nv⟩ 165
  rw [show (w.alloc (.cells #[.int .i64 n.vars,.slice S.i n.inputs.length S.ic,.slice S.l n.latches.length S.lc,.slice S.o n.outs.length S.oc,.slice S.b n.bads.length S.bc,.slice S.c n.cons.length S.cc,.slice S.m n.mems.length S.mc,.slice S.a n.ands.length S.ac,p,q] 102)).heap.size=w.heap.size+1 from by simp] at t0 t1 t2
  have hN:=NetAt.below hb2 (Nat.le_refl _) h
  rcases node_at hx with ⟨r0,r1,j,a,r2,hj,rf,rv⟩ | ⟨r0,t,m,j,r,r1,hmm,r2,hr,rf,rv⟩
  · simp only at r0 r1 r2 rf rv
    subst r0 r1 r2 rf rv
    obtain ⟨e0,e1,e2,e3,e4,e5,e6,e7,e8⟩:=hM.net
    obtain ⟨b,o,hS,hbB,hcell⟩:=hN.ands.at hj
    obtain ⟨m0,m1,m2⟩:=hcell j a hj
    have hjl:=lt_of_some hj
    have hjI:(j:Int)<(n.ands.length:Int):=by omega
    have hj0:(0:Int)≤(j:Int):=by omega
    have HB:=Lib.hid hb2
    clear hcell hN h hb2 hx hm ht hF hj hM
    generalize S.a=sa at *
    subst hS
    go_enter Tryz.func161,Tryz.ntmps161
    go_wp2_with fail
    go_ret
    exact highL_one a.av (by simp) HB.out
  · simp only at r0 r1 r2 rf rv
    subst r0 r1 r2 rf rv
    generalize hw2:World.alloc (World.alloc w (.cells #[.int .i64 n.vars,.slice S.i n.inputs.length S.ic,.slice S.l n.latches.length S.lc,.slice S.o n.outs.length S.oc,.slice S.b n.bads.length S.bc,.slice S.c n.cons.length S.cc,.slice S.m n.mems.length S.mc,.slice S.a n.ands.length S.ac,p,q] 102)) (.cells #[.bool true,.int .i64 (t:Int),.int .i64 (j:Int)] 165)=w2 at hb2 hM t0 t1 t2 hN
    obtain ⟨e0,e1,e2,e3,e4,e5,e6,e7,e8⟩:=hM.net
    obtain ⟨b,o,hS,hbB,hcell⟩:=hN.mems.at hmm
    obtain ⟨a1,c1,a2,c2,m0,m1,m2,m3,m4,hP⟩:=hcell t m hmm
    have htl:=lt_of_some hmm
    have htI:(t:Int)<(n.mems.length:Int):=by omega
    have ht0:(0:Int)≤(t:Int):=by omega
    have hw0:=(hF m (mem_of_some hmm)).word
    have hrl:=(hm.ports m (mem_of_some hmm)).1
    have hrv:=(ht m (mem_of_some hmm)).2.2 r (mem_of_some hr)
    have HB:=Lib.hid hb2
    have hbw:b<w2.heap.size:=Nat.lt_of_lt_of_le hbB hb2.size
    have hg:w.heap.size+2≤w2.heap.size:=by rw [← hw2];simp
    rw [hS] at e6
    have HK:=Lib.hid fun (W:World) (hW:Below w2.heap.size w2 W)=>show ((W.cell? ⟨w.heap.size,6,none⟩=some (.slice (some ⟨b,o,none⟩) n.mems.length S.mc)∧W.cell? ⟨w.heap.size+1,1,none⟩=some (.int .i64 (t:Int))∧W.cell? ⟨w.heap.size+1,2,none⟩=some (.int .i64 (j:Int))∧W.cell? ⟨b,o+t*5,none⟩=some (.int .i64 m.ma)∧W.cell? ⟨b,o+t*5+1,none⟩=some (.int .i64 m.mw)∧W.cell? ⟨b,o+t*5+2,none⟩=some (.bool m.mn)∧W.cell? ⟨b,o+t*5+3,none⟩=some (.slice a1 m.mr.length c1)∧W.cell? ⟨b,o+t*5+4,none⟩=some (.slice a2 m.mx.length c2))∧Hid (Below w2.heap.size w2 W)) from
      ⟨⟨(hW.cell (p:=⟨w.heap.size,6,none⟩) (show w.heap.size<w2.heap.size by omega)).trans e6,(hW.cell (p:=⟨w.heap.size+1,1,none⟩) (show w.heap.size+1<w2.heap.size by omega)).trans t1,(hW.cell (p:=⟨w.heap.size+1,2,none⟩) (show w.heap.size+1<w2.heap.size by omega)).trans t2,(hW.cell (p:=⟨b,o+t*5,none⟩) hbw).trans m0,(hW.cell (p:=⟨b,o+t*5+1,none⟩) hbw).trans m1,(hW.cell (p:=⟨b,o+t*5+2,none⟩) hbw).trans m2,(hW.cell (p:=⟨b,o+t*5+3,none⟩) hbw).trans m3,(hW.cell (p:=⟨b,o+t*5+4,none⟩) hbw).trans m4⟩,Lib.hid hW⟩
    have HD:=Lib.hid fun (W:World) (hW:(W.cell? ⟨w.heap.size,6,none⟩=some (.slice (some ⟨b,o,none⟩) n.mems.length S.mc)∧W.cell? ⟨w.heap.size+1,1,none⟩=some (.int .i64 (t:Int))∧W.cell? ⟨w.heap.size+1,2,none⟩=some (.int .i64 (j:Int))∧W.cell? ⟨b,o+t*5,none⟩=some (.int .i64 m.ma)∧W.cell? ⟨b,o+t*5+1,none⟩=some (.int .i64 m.mw)∧W.cell? ⟨b,o+t*5+2,none⟩=some (.bool m.mn)∧W.cell? ⟨b,o+t*5+3,none⟩=some (.slice a1 m.mr.length c1)∧W.cell? ⟨b,o+t*5+4,none⟩=some (.slice a2 m.mx.length c2))∧Hid (Below w2.heap.size w2 W))=>data_any m a1 c1 a2 c2 j r W (Ports.wider (Nat.le_trans hb2.size hW.2.out.size) (Ports.below hW.2.out hb2.size hP)) hr hrl ⟨by omega,by omega⟩ hrv
    have HT:=Lib.hid fun (W V:World) (hW:(W.cell? ⟨w.heap.size,6,none⟩=some (.slice (some ⟨b,o,none⟩) n.mems.length S.mc)∧W.cell? ⟨w.heap.size+1,1,none⟩=some (.int .i64 (t:Int))∧W.cell? ⟨w.heap.size+1,2,none⟩=some (.int .i64 (j:Int))∧W.cell? ⟨b,o+t*5,none⟩=some (.int .i64 m.ma)∧W.cell? ⟨b,o+t*5+1,none⟩=some (.int .i64 m.mw)∧W.cell? ⟨b,o+t*5+2,none⟩=some (.bool m.mn)∧W.cell? ⟨b,o+t*5+3,none⟩=some (.slice a1 m.mr.length c1)∧W.cell? ⟨b,o+t*5+4,none⟩=some (.slice a2 m.mx.length c2))∧Hid (Below w2.heap.size w2 W)) (hV:Below W.heap.size W V)=>HK.out V (below_on hW.2.out hV)
    clear hcell hN h hb2 hx hm ht hF hr hM hmm hrl hrv hw0 hP
    generalize S.m=sm at *
    subst hS
    go_enter Tryz.func161,Tryz.ntmps161
    go_wp2_with fail
    clear hw2
    go_region_held3 (fun W=>(W.cell? ⟨w.heap.size,6,none⟩=some (.slice (some ⟨b,o,none⟩) n.mems.length S.mc)∧W.cell? ⟨w.heap.size+1,1,none⟩=some (.int .i64 (t:Int))∧W.cell? ⟨w.heap.size+1,2,none⟩=some (.int .i64 (j:Int))∧W.cell? ⟨b,o+t*5,none⟩=some (.int .i64 m.ma)∧W.cell? ⟨b,o+t*5+1,none⟩=some (.int .i64 m.mw)∧W.cell? ⟨b,o+t*5+2,none⟩=some (.bool m.mn)∧W.cell? ⟨b,o+t*5+3,none⟩=some (.slice a1 m.mr.length c1)∧W.cell? ⟨b,o+t*5+4,none⟩=some (.slice a2 m.mx.length c2))∧Hid (Below w2.heap.size w2 W)) (first | exact HK.out _ (Below.refl _ _).drew | exact HT.out _ _ (by assumption) (by assumption) | go_keep)
      (first
        | (go_at_call 145;refine (HD.out _ (by assumption)).mono ?_;rintro e w5 ⟨v5,rfl,hO5⟩;have hb5:Below w2.drew.heap.size w2.drew w5:=hO5.2.1)
        | fail)
    all_goals
      have HE:=Lib.hid (show ((w5.cell? ⟨w.heap.size,6,none⟩=some (.slice (some ⟨b,o,none⟩) n.mems.length S.mc)∧w5.cell? ⟨w.heap.size+1,1,none⟩=some (.int .i64 (t:Int))∧w5.cell? ⟨w.heap.size+1,2,none⟩=some (.int .i64 (j:Int))∧w5.cell? ⟨b,o+t*5,none⟩=some (.int .i64 m.ma)∧w5.cell? ⟨b,o+t*5+1,none⟩=some (.int .i64 m.mw)∧w5.cell? ⟨b,o+t*5+2,none⟩=some (.bool m.mn)∧w5.cell? ⟨b,o+t*5+3,none⟩=some (.slice a1 m.mr.length c1)∧w5.cell? ⟨b,o+t*5+4,none⟩=some (.slice a2 m.mx.length c2))∧Hid (Below w2.heap.size w2 w5)) from by assumption).2
      have HO5:=Lib.hid hO5
      clear hO5
      go_wp2_with fail
      go_ret
      exact Left.highL ⟨_,rfl,HO5.out⟩ (HB.out.trans ((Below.refl _ _).drew))
def unseen (M:List Int):Nat:=M.count 0
theorem unseen_le:∀ {M M':List Int},M.length=M'.length→(∀ u,u<M.length→at0 M' u=0→at0 M u=0)→unseen M'≤unseen M
  | [],[],_,_=>Nat.le_refl _
  | a::M,b::M',hl,h=>by
    have h1:=unseen_le (M:=M) (M':=M') (by simpa using hl) fun u hu h0=>by
      have:=h (u+1) (by simp;omega) (by simpa [at0] using h0)
      simpa [at0] using this
    have h2:=h 0 (by simp)
    simp [at0] at h2
    unfold unseen at h1 ⊢
    rw [List.count_cons,List.count_cons]
    by_cases hb:b=0
    · have:=h2 hb
      simp [hb,this];omega
    · simp [hb];omega
theorem unseen_set {M:List Int} {v:Nat} (hv:v<M.length) (h:at0 M v=0):unseen (M.set v 1)<unseen M:=by
  have hg:=at0_lt hv
  rw [h] at hg
  have hm:(0:Int)∈M:=mem_of_some hg
  have h1:0<M.count 0:=List.count_pos_iff.2 hm
  unfold unseen
  rw [List.count_set hv]
  have h2:M[v]=0:=by rw [List.getElem?_eq_getElem hv] at hg;injection hg
  simp [h2]
  omega
structure Way (bel:Nat→List Nat) (V:Nat) (M:List Int) (F:List Nat):Prop where
  len:M.length=V+1
  vals:∀ u,u≤V→at0 M u=0∨at0 M u=1∨at0 M u=2
  done:∀ u,u≤V→(at0 M u=2↔u∈F)
  le:∀ u∈F,u≤V
  nodup:F.Nodup
  closed:∀ u∈F,∀ x∈bel u,x∈F
def Falls (bel:Nat→List Nat) (V:Nat) (r:Nat→Int):Prop:=∀ u,u≤V→∀ x∈bel u,r x<r u
def Above (bel:Nat→List Nat) (V:Nat) (M:List Int) (v:Nat):Prop:=∀ r,Falls bel V r→∀ u,u≤V→at0 M u=1→r v<r u
def Loops (bel:Nat→List Nat) (V:Nat):Prop:=∀ r,¬ Falls bel V r
structure Gone (bel:Nat→List Nat) (V:Nat) (M:List Int) (F:List Nat) (M':List Int) (F':List Nat) (v:Nat):Prop where
  way:Way bel V M' F'
  part:∃ N,F'=F++N∧∀ P:Nat→Prop,(∀ u,P u→∀ x∈bel u,P x)→P v→∀ u∈N,P u
  on:∀ u,u≤V→(at0 M' u=1↔at0 M u=1)
  here:v∈F'
theorem Gone.behind {bel:Nat→List Nat} {V v:Nat} {M:List Int} {F:List Nat} (h:Way bel V M F) (hv:v≤V) (h2:at0 M v=2):Gone bel V M F M F v :=
  ⟨h,⟨[],by simp,by simp⟩,fun _ _=>Iff.rfl,(h.done v hv).1 h2⟩
theorem loops_of {bel:Nat→List Nat} {V v:Nat} {M:List Int} (hv:v≤V) (h1:at0 M v=1) (ha:Above bel V M v):Loops bel V :=
  fun r hr=>Int.lt_irrefl _ (ha r hr v hv h1)
structure Mid (bel:Nat→List Nat) (V:Nat) (M:List Int) (F:List Nat) (v k:Nat) (Mk:List Int) (Fk:List Nat):Prop where
  way:Way bel V Mk Fk
  part:∃ N,Fk=F++N∧∀ P:Nat→Prop,(∀ u,P u→∀ x∈bel u,P x)→P v→∀ u∈N,P u
  on:∀ u,u≤V→(at0 Mk u=1↔(at0 M u=1∨u=v))
  took:∀ x∈(bel v).take k,x∈Fk
variable {bel:Nat→List Nat} {V v:Nat} {M:List Int} {F:List Nat}
theorem Mid.start (h:Way bel V M F) (hv:v≤V) (h0:at0 M v=0):Mid bel V M F v 0 (M.set v 1) F:=by
  have hl:=h.len
  have hat:∀ u,u≤V→at0 (M.set v 1) u=if v=u then 1 else at0 M u:=fun u hu=>by
    rw [at0_set]
    by_cases e:v=u
    · rw [if_pos ⟨e,by omega⟩,if_pos e]
    · rw [if_neg (fun h=>e h.1),if_neg e]
  have hvF:v ∉ F:=fun hm=>by have:=(h.done v hv).2 hm;omega
  refine ⟨⟨by simp [hl],fun u hu=>?_,fun u hu=>?_,h.le,h.nodup,h.closed⟩,⟨[],by simp,by simp⟩,fun u hu=>?_,by simp⟩
  · rw [hat u hu]
    split
    · exact .inr (.inl rfl)
    · exact h.vals u hu
  · rw [hat u hu]
    split
    · rename_i e
      subst e
      exact ⟨fun h=>by omega,fun h=>absurd h hvF⟩
    · exact h.done u hu
  · rw [hat u hu]
    split
    · rename_i e
      exact ⟨fun _=>.inr e.symm,fun _=>rfl⟩
    · rename_i e
      exact ⟨fun h=>.inl h,fun h=>h.resolve_right fun h=>e h.symm⟩
theorem Mid.step {k x:Nat} {Mk M':List Int} {Fk F':List Nat} (h:Mid bel V M F v k Mk Fk) (hx:(bel v)[k]?=some x) (hg:Gone bel V Mk Fk M' F' x):Mid bel V M F v (k+1) M' F':=by
  obtain ⟨N,e,hN⟩:=h.part
  obtain ⟨N',e',hN'⟩:=hg.part
  refine ⟨hg.way,⟨N++N',by rw [e',e,List.append_assoc],fun P hP hv u hu=>?_⟩,fun u hu=>(hg.on u hu).trans (h.on u hu),fun y hy=>?_⟩
  · rcases List.mem_append.1 hu with hu | hu
    · exact hN P hP hv u hu
    · exact hN' P hP (hP v hv x (mem_of_some hx)) u hu
  · rw [take_some hx] at hy
    rcases List.mem_append.1 hy with hy | hy
    · rw [e']
      exact List.mem_append_left _ (h.took y hy)
    · simp at hy
      subst hy
      exact hg.here
theorem Mid.above {k x:Nat} {Mk:List Int} {Fk:List Nat} (h:Mid bel V M F v k Mk Fk) (hv:v≤V) (ha:Above bel V M v) (hx:(bel v)[k]?=some x):Above bel V Mk x:=fun r hr u hu h1=>by
  have h2:=hr v hv x (mem_of_some hx)
  rcases (h.on u hu).1 h1 with h3 | h3
  · have:=ha r hr u hu h3
    omega
  · subst h3
    exact h2
theorem Mid.less {k:Nat} {Mk:List Int} {Fk:List Nat} (h:Mid bel V M F v k Mk Fk) (hM:Way bel V M F) (hv:v≤V) (h0:at0 M v=0):unseen Mk<unseen M:=by
  refine Nat.lt_of_le_of_lt (unseen_le (M:=M.set v 1) (by simp [hM.len,h.way.len]) fun u hu hz=>?_) (unseen_set (by have:=hM.len;omega) h0)
  have hu2:u≤V:=by have:=hM.len;simp at hu;omega
  have hne:u≠v:=fun e=>by
    have:=(h.on u hu2).2 (.inr e)
    omega
  rw [at0_set,if_neg (fun h=>hne h.1.symm)]
  rcases hM.vals u hu2 with h1 | h1 | h1
  · exact h1
  · have:=(h.on u hu2).2 (.inl h1)
    omega
  · have h3:=(hM.done u hu2).1 h1
    obtain ⟨N,e,_⟩:=h.part
    have:u∈Fk:=by rw [e];exact List.mem_append_left _ h3
    have:=(h.way.done u hu2).2 this
    omega
theorem Mid.last {Mk:List Int} {Fk:List Nat} {k:Nat} (h:Mid bel V M F v k Mk Fk) (hk:(bel v).length≤k) (hM:Way bel V M F) (hv:v≤V) (h0:at0 M v=0) :
    v ∉ Fk∧(∀ x∈bel v,x∈Fk)∧Gone bel V M F (Mk.set v 2) (Fk++[v]) v:=by
  have hl:=h.way.len
  have h1:at0 Mk v=1:=(h.on v hv).2 (.inr rfl)
  have hvF:v ∉ Fk:=fun hm=>by have:=(h.way.done v hv).2 hm;omega
  have hb:∀ x∈bel v,x∈Fk:=fun x hx=>h.took x (by rw [List.take_of_length_le hk];exact hx)
  have hat:∀ u,u≤V→at0 (Mk.set v 2) u=if v=u then 2 else at0 Mk u:=fun u hu=>by
    rw [at0_set]
    by_cases e:v=u
    · rw [if_pos ⟨e,by omega⟩,if_pos e]
    · rw [if_neg (fun h=>e h.1),if_neg e]
  obtain ⟨N,e,hN⟩:=h.part
  refine ⟨hvF,hb,⟨⟨by simp [hl],fun u hu=>?_,fun u hu=>?_,fun u hu=>?_,?_,fun u hu x hx=>?_⟩,⟨N++[v],by rw [e,List.append_assoc],fun P hP hp u hu=>?_⟩,fun u hu=>?_,by simp⟩⟩
  · rw [hat u hu]
    split
    · exact .inr (.inr rfl)
    · exact h.way.vals u hu
  · rw [hat u hu]
    split
    · rename_i e
      exact ⟨fun _=>by simp [e],fun _=>rfl⟩
    · rename_i e
      rw [h.way.done u hu]
      simp
      exact fun h=>absurd h.symm e
  · rcases List.mem_append.1 hu with hu | hu
    · exact h.way.le u hu
    · simp at hu;omega
  · rw [List.nodup_append]
    exact ⟨h.way.nodup,by simp,fun a ha b hb e=>by simp at hb;subst hb;subst e;exact hvF ha⟩
  · rcases List.mem_append.1 hu with hu | hu
    · exact List.mem_append_left _ (h.way.closed u hu x hx)
    · simp at hu
      subst hu
      exact List.mem_append_left _ (hb x hx)
  · rcases List.mem_append.1 hu with hu | hu
    · exact hN P hP hp u hu
    · simp at hu;subst hu;exact hp
  · rw [hat u hu]
    split
    · rename_i e
      subst e
      exact ⟨fun h=>by omega,fun h=>by omega⟩
    · rename_i e
      rw [h.on u hu]
      exact ⟨fun h=>h.resolve_right fun h=>e h.symm,fun h=>.inl h⟩
structure Trip (bel:Nat→List Nat) (V:Nat) (first:List Nat) (k:Nat) (M:List Int) (F:List Nat):Prop where
  way:Way bel V M F
  off:∀ u,u≤V→at0 M u≠1
  took:∀ x∈first.take k,x∈F
  part:∀ P:Nat→Prop,(∀ u,P u→∀ x∈bel u,P x)→(∀ x∈first,P x)→∀ u∈F,P u
theorem Trip.start (first:List Nat):Trip bel V first 0 (List.replicate (V+1) 0) [] :=
  ⟨⟨by simp,fun u _=>.inl (at0_zeros _ _),fun u _=>by rw [at0_zeros];simp,by simp,by simp,by simp⟩,fun u _=>by rw [at0_zeros];omega,by simp,by simp⟩
theorem Trip.above {first:List Nat} {k:Nat} (h:Trip bel V first k M F) (v:Nat):Above bel V M v:=fun r _ u hu h1=>absurd h1 (h.off u hu)
theorem Trip.step {first F':List Nat} {M':List Int} {k x:Nat} (h:Trip bel V first k M F) (hx:first[k]?=some x) (hg:Gone bel V M F M' F' x):Trip bel V first (k+1) M' F':=by
  obtain ⟨N,e,hN⟩:=hg.part
  refine ⟨hg.way,fun u hu h1=>h.off u hu ((hg.on u hu).1 h1),fun y hy=>?_,fun P hP hf u hu=>?_⟩
  · rw [take_some hx] at hy
    rcases List.mem_append.1 hy with hy | hy
    · rw [e]
      exact List.mem_append_left _ (h.took y hy)
    · simp at hy
      subst hy
      exact hg.here
  · rw [e] at hu
    rcases List.mem_append.1 hu with hu | hu
    · exact h.part P hP hf u hu
    · exact hN P hP (hf x (mem_of_some hx)) u hu
structure Whole (bel:Nat→List Nat) (V:Nat) (first F:List Nat):Prop where
  le:∀ u∈F,u≤V
  nodup:F.Nodup
  closed:∀ u∈F,∀ x∈bel u,x∈F
  all:∀ x∈first,x∈F
  part:∀ P:Nat→Prop,(∀ u,P u→∀ x∈bel u,P x)→(∀ x∈first,P x)→∀ u∈F,P u
theorem Trip.last {first:List Nat} {k:Nat} (h:Trip bel V first k M F) (hk:first.length≤k):Whole bel V first F :=
  ⟨h.way.le,h.way.nodup,h.way.closed,fun x hx=>h.took x (by rw [List.take_of_length_le hk];exact hx),h.part⟩
open Go.ChangeShapes Go.WideShapes Go.RowKit
def nats (l:List Nat):List Int:=l.map fun (k:Nat)=>(k:Int)
theorem nats_len (l:List Nat):(nats l).length=l.length:=by simp [nats]
theorem nats_at {l:List Nat} {k x:Nat} (h:l[k]?=some x):(nats l)[k]?=some (x:Int):=by simp [nats,h]
def Marks (w:World) (g:Nat) (M:List Int):Prop:=w.heap[g]?=some (.cells (M.map (Value.int .i64)).toArray 211 (0,0))
theorem Marks.cell {w:World} {g:Nat} {M:List Int} (h:Marks w g M) {j:Nat} (hj:j<M.length):w.cell? ⟨g,j,none⟩=some (.int .i64 (at0 M j)):=by
  rw [cell_of_row w g j _ 211 (0,0) h,List.getElem?_toArray,List.getElem?_map,at0_lt hj]
  rfl
theorem Marks.free {w:World} {g:Nat} {M:List Int} (h:Marks w g M) (j:Nat):w.frozen? ⟨g,j,none⟩=false:=frozen_of_row w g j _ 211 h
theorem Marks.set {w:World} {g:Nat} {M:List Int} (h:Marks w g M) (j:Nat) (v:Int):Marks (w.setCell ⟨g,j,none⟩ (.int .i64 v)) g (M.set j v):=by
  have:=heap_setCell_same w g j _ 211 (.int .i64 v) h
  unfold Marks
  rw [this]
  congr 2
  simp [List.map_set]
theorem Marks.new (w:World) (N:Nat):Marks (w.alloc (.cells (madeCells #[.int .i64 0] N) 211)) w.heap.size (List.replicate N 0):=by
  unfold Marks
  rw [heap_alloc_new]
  congr 2
  apply Array.ext
  · rw [size_madeCells];simp
  · intro i h1 h2
    simp [madeCells,Nat.mod_one]
structure Moves (lo hi:Nat) (o:Nat→Prop) (w:World) (o':Nat→Prop) (w':World):Prop where
  os:w'.os=w.os
  tape:w'.tape=w.tape
  output:w'.output=w.output
  size:w.heap.size≤w'.heap.size
  block:∀ b,b<w.heap.size→(b<lo∨hi≤b)→¬ o b→w'.heap[b]?=w.heap[b]?∧¬ o' b
theorem Moves.refl (lo hi:Nat) (o:Nat→Prop) (w:World):Moves lo hi o w o w:=⟨rfl,rfl,rfl,Nat.le_refl _,fun _ _ _ h=>⟨rfl,h⟩⟩
theorem Moves.trans {lo hi:Nat} {o o' o2:Nat→Prop} {w w' w2:World} (h:Moves lo hi o w o' w') (k:Moves lo hi o' w' o2 w2):Moves lo hi o w o2 w2 :=
  ⟨k.os.trans h.os,k.tape.trans h.tape,k.output.trans h.output,Nat.le_trans h.size k.size,fun b hb hr ho=>by
    obtain ⟨h1,h2⟩:=h.block b hb hr ho
    obtain ⟨h3,h4⟩:=k.block b (Nat.lt_of_lt_of_le hb h.size) hr h2
    exact ⟨h3.trans h1,h4⟩⟩
theorem Moves.of_below {lo hi:Nat} {o:Nat→Prop} {w w':World} (h:Below w.heap.size w w'):Moves lo hi o w o w' :=
  ⟨h.os,h.tape,h.output,h.size,fun b hb _ ho=>⟨h.block b hb,ho⟩⟩
theorem Moves.wide {lo hi hi':Nat} {o o':Nat→Prop} {w w':World} (h:Moves lo hi o w o' w') (hh:hi≤hi'):Moves lo hi' o w o' w' :=
  ⟨h.os,h.tape,h.output,h.size,fun b hb hr ho=>h.block b hb (by omega) ho⟩
theorem Moves.set {lo hi:Nat} {o:Nat→Prop} (w:World) {a:Addr} (v:Value) (h1:lo≤a.block) (h2:a.block<hi):Moves lo hi o w o (w.setCell a v) :=
  ⟨rfl,rfl,rfl,by simp [World.setCell],fun b hb hr ho=>⟨heap_setCell_other w a b v (by omega),ho⟩⟩
theorem Moves.below {lo hi B:Nat} {o o':Nat→Prop} {w w':World} (h:Moves lo hi o w o' w') (hB:B≤lo) (hw:B≤w.heap.size) (ho:∀ b,o b→B≤b):Below B w w' :=
  ⟨h.os,h.tape,h.output,h.size,fun b hb=>(h.block b (by omega) (by omega) fun k=>by have:=ho b k;omega).1⟩
def noB:Nat→Prop:=fun _=>False
structure Rig (lo V:Nat) (bv lv:Value) (M:List Int) (w:World):Prop where
  r0:w.heap[lo]?=some (.cells #[bv] 78 (0,0))
  r1:w.heap[lo+1]?=some (.cells #[lv] 167 (0,0))
  r2:Marks w (lo+2) M
  r3:w.heap[lo+3]?=some (.cells #[.slice (some ⟨lo+2,0,none⟩) (V+1) (V+1)] 210 (0,0))
  r4:w.heap[lo+4]?=some (.cells #[.func (.func 162) #[] #[.pointer (some ⟨lo+3,0,none⟩),.pointer (some ⟨lo,0,none⟩),.pointer (some ⟨lo+4,0,none⟩),.pointer (some ⟨lo+1,0,none⟩)]] 198 (0,0))
theorem Rig.lt {lo V:Nat} {bv lv:Value} {M:List Int} {w:World} (h:Rig lo V bv lv M w):lo+5≤w.heap.size:=lt_of_row h.r4
theorem Rig.same {lo V:Nat} {bv lv:Value} {M:List Int} {w w':World} (h:Rig lo V bv lv M w) (hk:∀ b,lo≤b→b<lo+5→w'.heap[b]?=w.heap[b]?):Rig lo V bv lv M w' :=
  ⟨(hk _ (by omega) (by omega)).trans h.r0,(hk _ (by omega) (by omega)).trans h.r1,(hk _ (by omega) (by omega)).trans h.r2,(hk _ (by omega) (by omega)).trans h.r3,(hk _ (by omega) (by omega)).trans h.r4⟩
theorem Rig.call {lo V:Nat} {bv lv:Value} {M:List Int} {w w':World} (h:Rig lo V bv lv M w) (hb:Below w.heap.size w w'):Rig lo V bv lv M w' :=
  h.same fun b _ h2=>hb.block b (Nat.lt_of_lt_of_le h2 h.lt)
theorem Rig.moves {lo V:Nat} {bv lv:Value} {M:List Int} {w w':World} {o o':Nat→Prop} (h:Rig lo V bv lv M w) (hm:Moves lo lo o w o' w') (ho:∀ b,o b→b<lo∨lo+5≤b):Rig lo V bv lv M w' :=
  h.same fun b h1 h2=>(hm.block b (Nat.lt_of_lt_of_le h2 h.lt) (.inr h1) fun k=>by have:=ho b k;omega).1
theorem Rig.mark {lo V:Nat} {bv lv:Value} {M:List Int} {w:World} (h:Rig lo V bv lv M w) (j:Nat) (k:Int):Rig lo V bv lv (M.set j k) (w.setCell ⟨lo+2,j,none⟩ (.int .i64 k)) :=
  ⟨(heap_setCell_other _ _ _ _ (by simp)).trans h.r0,(heap_setCell_other _ _ _ _ (by simp)).trans h.r1,h.r2.set j k,(heap_setCell_other _ _ _ _ (by simp)).trans h.r3,(heap_setCell_other _ _ _ _ (by simp)).trans h.r4⟩
def Far (lo:Nat) (o:Nat→Prop) (w:World) (A:Option Addr) (xs:List Int):Prop :=
  xs≠[]→∃ b s,A=some ⟨b,s,none⟩∧(b<lo∨lo+5≤b)∧b<w.heap.size∧¬ o b∧∀ j x,xs[j]?=some x→w.cell? ⟨b,s+j,none⟩=some (.int .i64 x)
theorem Far.moves {lo:Nat} {o o':Nat→Prop} {w w':World} {A:Option Addr} {xs:List Int} (h:Far lo o w A xs) (hm:Moves lo (lo+5) o w o' w'):Far lo o' w' A xs:=fun hn=>by
  obtain ⟨b,s,e,hr,hlt,ho,hc⟩:=h hn
  obtain ⟨h1,h2⟩:=hm.block b hlt hr ho
  exact ⟨b,s,e,hr,Nat.lt_of_lt_of_le hlt hm.size,h2,fun j x hj=>(World.cell?_of_block (a:=⟨b,s+j,none⟩) h1).trans (hc j x hj)⟩
theorem Far.at {lo k:Nat} {o:Nat→Prop} {w:World} {A:Option Addr} {xs:List Int} {x:Int} (h:Far lo o w A xs) (hk:xs[k]?=some x):∃ b s,A=some ⟨b,s,none⟩∧w.cell? ⟨b,s+k,none⟩=some (.int .i64 x):=by
  obtain ⟨b,s,e,_,_,_,hc⟩:=h (by rintro rfl;simp at hk)
  exact ⟨b,s,e,hc k x hk⟩
theorem HighL.far {lo:Nat} {o:Nat→Prop} {w w':World} {l:List Nat} {e:Ending} (h:HighL w (nats l) e w') (hlo:lo+5≤w.heap.size) (ho:∀ b,o b→b<w.heap.size) :
    ∃ A c,e=.returned (.slice A l.length c)∧Far lo o w' A (nats l)∧Below w.heap.size w w':=by
  obtain ⟨A,c,rfl,hH,hs,hb⟩:=h
  refine ⟨A,c,by rw [nats_len],fun hn=>?_,hb⟩
  obtain ⟨b,s,e,h1,hc⟩:=hH hn
  obtain ⟨b2,s2,e2,h2,_⟩:=hs hn
  rw [e] at e2
  injection e2 with e2
  injection e2 with e2
  subst e2
  exact ⟨b,s,e,.inr (by omega),h2,fun k=>by have:=ho b k;omega,hc⟩
structure Leaves (lo V:Nat) (bel:Nat→List Nat) (G:Value) (gl:Nat) (cl:Array Value) (I:(Nat→Prop)→List Nat→World→Prop):Prop where
  low:∀ v,v≤V→∀ x∈bel v,x≤V
  short:∀ v,v≤V→(bel v).length≤1000000
  still:∀ o F w w',I o F w→Moves lo (lo+5) noB w noB w'→I o F w'
  own:∀ o F w b,I o F w→o b→b<w.heap.size∧(b<lo∨lo+5≤b)
  enters:∀ args w,(callFunc gl args).run Tryz.prog w=.ok (.enter gl args) w
  below:∀ o F w v,I o F w→v≤V→Calls Tryz.prog 113 #[G,.int .i64 (v:Nat)] w (HighL w (nats (bel v)))
  leave:∀ o F w v,I o F w→v≤V→v ∉ F→(∀ x∈bel v,x∈F)→lo+5≤w.heap.size→Calls Tryz.prog gl (#[.int .i64 (v:Nat)]++cl) w fun e w'=>∃ o',e=.returned (.tuple #[])∧I o' (F++[v]) w'∧Moves lo lo o w o' w'
def Entered (lo V:Nat) (bel:Nat→List Nat) (bv lv:Value) (I:(Nat→Prop)→List Nat→World→Prop) (M:List Int) (F:List Nat) (o:Nat→Prop) (w:World) (v:Nat) (e:Ending) (w':World):Prop :=
  ∃ bb o',e=.returned (.bool bb)∧Moves lo (lo+5) o w o' w'∧Hid ((bb=true→∃ M' F',Rig lo V bv lv M' w'∧Gone bel V M F M' F' v∧I o' F' w')∧(bb=false→Loops bel V))
set_option maxHeartbeats 4000000 in
theorem enter_any {lo V:Nat} {bel:Nat→List Nat} {G:Value} {gl:Nat} {cl:Array Value} {I:(Nat→Prop)→List Nat→World→Prop} (hL:Leaves lo V bel G gl cl I) (hV:V≤1000000) :
    ∀ (N:Nat) (M:List Int) (F:List Nat) (o:Nat→Prop) (w:World) (v:Nat),unseen M<N→Rig lo V (.func (.func 113) #[G] #[]) (.func (.func gl) #[] cl) M w→Way bel V M F→Above bel V M v→v≤V→I o F w →
    Calls Tryz.prog 162 #[.int .i64 (v:Nat),.pointer (some ⟨lo+3,0,none⟩),.pointer (some ⟨lo,0,none⟩),.pointer (some ⟨lo+4,0,none⟩),.pointer (some ⟨lo+1,0,none⟩)] w
      (Entered lo V bel (.func (.func 113) #[G] #[]) (.func (.func gl) #[] cl) I M F o w v):=by
  intro N
  induction N with
  | zero=>intro M F o w v h;omega
  | succ N ih =>
    intro M F o w v hN hR hW hA hv hI
    have hl:=hW.len
    have c3:w.cell? ⟨lo+3,0,none⟩=some (.slice (some ⟨lo+2,0,none⟩) (V+1) (V+1)):=by rw [cell_of_row w (lo+3) 0 _ _ _ hR.r3];rfl
    have cm:=hR.r2.cell (show v<M.length by omega)
    have hv0:(0:Int)≤(v:Int):=by omega
    have hv1:(v:Int)<(V:Int)+1:=by omega
    have H:=Lib.hid (And.intro hR (And.intro hW (And.intro hA hI)))
    rcases hW.vals v hv with hz | hz | hz
    · rw [hz] at cm
      have hMid:=Mid.start hW hv hz
      have f2:=hR.r2.free v
      have hR1:=hR.mark v 1
      have hI1:=hL.still o F w (w.setCell ⟨lo+2,v,none⟩ (.int .i64 1)) hI (Moves.set w (a:=⟨lo+2,v,none⟩) _ (by show lo≤lo+2;omega) (by show lo+2<lo+5;omega))
      have c0:(w.setCell ⟨lo+2,v,none⟩ (.int .i64 1)).cell? ⟨lo,0,none⟩=some (.func (.func 113) #[G] #[]):=by rw [cell_of_row _ lo 0 _ _ _ hR1.r0];rfl
      have hlo:=hR1.lt
      have hmv:Moves lo (lo+5) o w o (w.setCell ⟨lo+2,v,none⟩ (.int .i64 1)):=Moves.set w (a:=⟨lo+2,v,none⟩) _ (by show lo≤lo+2;omega) (by show lo+2<lo+5;omega)
      have hown:=fun b h=>(hL.own o F _ b hI1 h).1
      have HBel:=Lib.hid (hL.below o F _ v hI1 hv)
      have H1:=Lib.hid (And.intro hMid (And.intro hR1 (And.intro hI1 (And.intro hmv (And.intro hlo hown)))))
      have HIH:=Lib.hid ih
      have HL:=Lib.hid hL
      have HZ:=Lib.hid (And.intro hz (And.intro hN hl))
      clear hR hW hA hI ih hL hz hMid hR1 hI1 hmv hown hlo hN hl
      go_enter Tryz.func162,Tryz.ntmps162
      go_wp2_with (go_at_call 113;refine HBel.out.mono ?_;rintro e w2 hh;obtain ⟨A,c,rfl,hfar,hb⟩:=hh.far (lo:=lo) (o:=o) H1.out.2.2.2.2.1 H1.out.2.2.2.2.2)
      have HS:=Lib.hid (And.intro (H1.out.2.1.call hb) (And.intro H1.out.1 (And.intro (HL.out.still _ _ _ _ H1.out.2.2.1 (Moves.of_below hb)) (And.intro (H1.out.2.2.2.1.trans (Moves.of_below hb)) hfar))))
      clear hfar hb hh
      have hnb:=HL.out.short v hv
      go_loopg [8,24] (bel v).length (fun m _ s24 wx=>∃ (k:Nat) (Mk:List Int) (Fk:List Nat) (ok:Nat→Prop),k+m=(bel v).length∧s24=.int .i64 k∧Aside (Rig lo V (.func (.func 113) #[G] #[]) (.func (.func gl) #[] cl) Mk wx∧Mid bel V M F v k Mk Fk∧I ok Fk wx∧Moves lo (lo+5) o w ok wx∧Far lo ok wx A (nats (bel v))))
      case atStart=>exact ⟨0,_,_,_,by omega,rfl,HS.out⟩
      case round =>
        clear HS HBel
        obtain ⟨k,Mk,Fk,ok,hk,rfl,HS⟩:=hrel
        generalize gk=m at *
        by_cases hlt:k<(bel v).length
        · obtain ⟨x,hx⟩:=some_of_lt hlt
          have hltI:(k:Int)<((bel v).length:Int):=by omega
          have hk0:(0:Int)≤(k:Int):=by omega
          obtain ⟨b,s,hS,hc⟩:=HS.out.2.2.2.2.at (nats_at hx)
          have hxV:=HL.out.low v hv x (mem_of_some hx)
          have c4:wr.cell? ⟨lo+4,0,none⟩=some (.func (.func 162) #[] #[.pointer (some ⟨lo+3,0,none⟩),.pointer (some ⟨lo,0,none⟩),.pointer (some ⟨lo+4,0,none⟩),.pointer (some ⟨lo+1,0,none⟩)]):=by rw [cell_of_row _ (lo+4) 0 _ _ _ HS.out.1.r4];rfl
          have HC:=Lib.hid (HIH.out Mk Fk ok wr x (by have:=HS.out.2.1.less H.out.2.1 hv HZ.out.1;have:=HZ.out.2.1;omega) HS.out.1 HS.out.2.1.way (HS.out.2.1.above hv H.out.2.2.1 hx) hxV HS.out.2.2.1)
          have HX:=Lib.hid hx
          clear hx HIH
          subst hS
          go_wp2_with (go_at_call 162;refine HC.out.mono ?_;rintro e w3 ⟨bb,o3,rfl,hMv,hD⟩)
          · go_ret
            rename_i hbb
            have hb0:bb=false:=by cases bb <;> simp at hbb ⊢
            exact ⟨false,o3,rfl,HS.out.2.2.2.1.trans hMv,Lib.hid ⟨fun h=>Bool.noConfusion h,fun _=>hD.out.2 hb0⟩⟩
          · rename_i hbb
            have hb0:bb=true:=by cases bb <;> simp at hbb ⊢
            obtain ⟨M3,F3,q1,q2,q3⟩:=hD.out.1 hb0
            have HQ:=Lib.hid (And.intro q1 (And.intro (HS.out.2.1.step HX.out q2) (And.intro q3 (And.intro (HS.out.2.2.2.1.trans hMv) (HS.out.2.2.2.2.moves hMv)))))
            clear q1 q2 q3 hD hMv
            go_roundg (m - 1)
            case measure=>omega
            case rel=>exact ⟨k+1,M3,F3,o3,by omega,by first | rfl | simp,HQ.out⟩
        · have hltn:¬ ((k:Int)<((bel v).length:Int)):=by omega
          obtain ⟨q1,q2,q3⟩:=HS.out.2.1.last (by omega) H.out.2.1 hv HZ.out.1
          have hlk:=HS.out.2.1.way.len
          have c3':wr.cell? ⟨lo+3,0,none⟩=some (.slice (some ⟨lo+2,0,none⟩) (V+1) (V+1)):=by rw [cell_of_row wr (lo+3) 0 _ _ _ HS.out.1.r3];rfl
          have cm':=HS.out.1.r2.cell (show v<Mk.length by omega)
          have f2':=HS.out.1.r2.free v
          have hR2:=HS.out.1.mark v 2
          have hI2:=HL.out.still ok Fk wr (wr.setCell ⟨lo+2,v,none⟩ (.int .i64 2)) HS.out.2.2.1 (Moves.set wr (a:=⟨lo+2,v,none⟩) _ (by show lo≤lo+2;omega) (by show lo+2<lo+5;omega))
          have hmv2:Moves lo (lo+5) ok wr ok (wr.setCell ⟨lo+2,v,none⟩ (.int .i64 2)):=Moves.set wr (a:=⟨lo+2,v,none⟩) _ (by show lo≤lo+2;omega) (by show lo+2<lo+5;omega)
          have c1':(wr.setCell ⟨lo+2,v,none⟩ (.int .i64 2)).cell? ⟨lo+1,0,none⟩=some (.func (.func gl) #[] cl):=by rw [cell_of_row _ (lo+1) 0 _ _ _ hR2.r1];rfl
          have HLe:=Lib.hid (HL.out.leave ok Fk _ v hI2 hv q1 q2 hR2.lt)
          have HQ:=Lib.hid (And.intro q3 (And.intro hR2 (And.intro (HS.out.2.2.2.1.trans hmv2) fun b h=>(HL.out.own ok Fk _ b hI2 h).2)))
          have eg:=HL.out.enters
          clear q1 q2 q3 hR2 hI2 hmv2 HL HIH hlk
          go_wp2_with (go_at_fn gl;refine HLe.out.mono ?_;rintro e w3 ⟨o3,rfl,hI3,hMv⟩)
          go_ret
          exact ⟨true,o3,rfl,HQ.out.2.2.1.trans (hMv.wide (by omega)),Lib.hid ⟨fun _=>⟨_,_,HQ.out.2.1.moves hMv HQ.out.2.2.2,HQ.out.1,hI3⟩,fun h=>Bool.noConfusion h⟩⟩
    · rw [hz] at cm
      have HL:=Lib.hid (loops_of hv hz hA)
      clear hR hW hA hI ih hL hz
      go_enter Tryz.func162,Tryz.ntmps162
      go_wp2_with fail
      go_ret
      exact ⟨false,o,rfl,Moves.refl _ _ _ _,Lib.hid ⟨fun h=>Bool.noConfusion h,fun _=>HL.out⟩⟩
    · rw [hz] at cm
      have HG:=Lib.hid (Gone.behind hW hv hz)
      clear hR hW hA hI ih hL hz
      go_enter Tryz.func162,Tryz.ntmps162
      go_wp2_with fail
      go_ret
      exact ⟨true,o,rfl,Moves.refl _ _ _ _,Lib.hid ⟨fun _=>⟨M,F,H.out.1,HG.out,H.out.2.2.2⟩,fun h=>Bool.noConfusion h⟩⟩
open Go.ChangeShapes Go.WideShapes Go.RowKit
theorem mark_info:(Tryz.prog.info? 211).map (fun i=>(i.zero,i.size,i.bytes))=some (some (.int .i64 0),1,8):=by kernel_rfl
theorem run_tmarks (v:Int) (h0:0≤v) (h1:v≤1000000) (w:World) :
    (Instr.makeSlice 210 (.int .i64 (v+1)) (.int .i64 (v+1))).run Tryz.prog w=.ok (.slice (some ⟨w.heap.size,0,none⟩) (v.toNat+1) (v.toNat+1)) (w.alloc (.cells (madeCells #[.int .i64 0] (v.toNat+1)) 211)):=by
  obtain ⟨i,hi,hz,hs,hb⟩:=info_parts mark_info
  have:=run_make (P:=Tryz.prog) w 210 211 i (.int .i64 0) Tryz.underlying210 hi hz .i64 .i64 (v+1) (v+1) (by omega) (Int.le_refl _) (by rw [hb];omega) (by omega)
  rw [this,hs,show (v+1).toNat=v.toNat+1 from by omega,Nat.mul_one]
  rfl
theorem alloc_old {w:World} {o:Obj} {b:Nat} {x:Obj} (h:w.heap[b]?=some x):(w.alloc o).heap[b]?=some x:=(Below.heap_alloc w o b (lt_of_row h)).trans h
theorem rig_start (w:World) (V:Nat) (bv lv:Value) (W:World) (hW:(((((w.alloc (.cells #[bv] 78)).alloc (.cells #[lv] 167)).alloc (.cells (madeCells #[.int .i64 0] (V+1)) 211)).alloc (.cells #[.slice (some ⟨w.heap.size+1+1,0,none⟩) (V+1) (V+1)] 210)).alloc (.cells #[.nilFunc] 198))=W) :
    W.heap[w.heap.size+1+1+1+1]?=some (.cells #[.nilFunc] 198 (0,0))∧Below w.heap.size w W ∧
    Rig w.heap.size V bv lv (List.replicate (V+1) 0) (W.setCell ⟨w.heap.size+1+1+1+1,0,none⟩ (.func (.func 162) #[] #[.pointer (some ⟨w.heap.size+1+1+1,0,none⟩),.pointer (some ⟨w.heap.size,0,none⟩),.pointer (some ⟨w.heap.size+1+1+1+1,0,none⟩),.pointer (some ⟨w.heap.size+1,0,none⟩)])):=by
  subst hW
  have a0:=heap_alloc_new w (.cells #[bv] 78)
  have s1:(w.alloc (.cells #[bv] 78)).heap.size=w.heap.size+1:=by simp
  have b1:=below_box w #[bv] 78
  generalize w.alloc (.cells #[bv] 78)=w1 at *
  have a1:=heap_alloc_new w1 (.cells #[lv] 167)
  replace a0:=alloc_old (o:=.cells #[lv] 167) a0
  have b2:=below_on b1 (below_box w1 #[lv] 167)
  have s2:(w1.alloc (.cells #[lv] 167)).heap.size=w.heap.size+1+1:=by simp [s1]
  rw [s1] at a1
  generalize w1.alloc (.cells #[lv] 167)=w2 at *
  have a2:=Marks.new w2 (V+1)
  replace a0:=alloc_old (o:=.cells (madeCells #[.int .i64 0] (V+1)) 211) a0
  replace a1:=alloc_old (o:=.cells (madeCells #[.int .i64 0] (V+1)) 211) a1
  have b3:=below_on b2 (below_box w2 (madeCells #[.int .i64 0] (V+1)) 211)
  have s3:(w2.alloc (.cells (madeCells #[.int .i64 0] (V+1)) 211)).heap.size=w.heap.size+1+1+1:=by simp [s2]
  rw [s2] at a2
  generalize w2.alloc (.cells (madeCells #[.int .i64 0] (V+1)) 211)=w3 at *
  have a3:=heap_alloc_new w3 (.cells #[.slice (some ⟨w.heap.size+1+1,0,none⟩) (V+1) (V+1)] 210)
  replace a0:=alloc_old (o:=.cells #[.slice (some ⟨w.heap.size+1+1,0,none⟩) (V+1) (V+1)] 210) a0
  replace a1:=alloc_old (o:=.cells #[.slice (some ⟨w.heap.size+1+1,0,none⟩) (V+1) (V+1)] 210) a1
  replace a2:=alloc_old (o:=.cells #[.slice (some ⟨w.heap.size+1+1,0,none⟩) (V+1) (V+1)] 210) a2
  have b4:=below_on b3 (below_box w3 #[.slice (some ⟨w.heap.size+1+1,0,none⟩) (V+1) (V+1)] 210)
  have s4:(w3.alloc (.cells #[.slice (some ⟨w.heap.size+1+1,0,none⟩) (V+1) (V+1)] 210)).heap.size=w.heap.size+1+1+1+1:=by simp [s3]
  rw [s3] at a3
  generalize w3.alloc (.cells #[.slice (some ⟨w.heap.size+1+1,0,none⟩) (V+1) (V+1)] 210)=w4 at *
  have a4:=heap_alloc_new w4 (.cells #[.nilFunc] 198)
  replace a0:=alloc_old (o:=.cells #[.nilFunc] 198) a0
  replace a1:=alloc_old (o:=.cells #[.nilFunc] 198) a1
  replace a2:=alloc_old (o:=.cells #[.nilFunc] 198) a2
  replace a3:=alloc_old (o:=.cells #[.nilFunc] 198) a3
  have b5:=below_on b4 (below_box w4 #[.nilFunc] 198)
  rw [s4] at a4
  generalize w4.alloc (.cells #[.nilFunc] 198)=w5 at *
  refine ⟨a4,b5,⟨(heap_setCell_other _ _ _ _ (by simp;omega)).trans a0,(heap_setCell_other _ _ _ _ (by simp)).trans a1,(heap_setCell_other _ _ _ _ (by simp)).trans a2,(heap_setCell_other _ _ _ _ (by simp)).trans a3,?_⟩⟩
  exact heap_setCell_same w5 (w.heap.size+1+1+1+1) 0 _ _ _ a4
def Walked (lo V:Nat) (bel:Nat→List Nat) (I:(Nat→Prop)→List Nat→World→Prop) (first:List Nat) (o:Nat→Prop) (w:World) (e:Ending) (w':World):Prop :=
  ∃ bb o',e=.returned (.bool bb)∧Moves lo (lo+5) o w o' w'∧Hid ((bb=true→∃ F,Whole bel V first F∧I o' F w')∧(bb=false→Loops bel V))
set_option maxRecDepth 100000 in
set_option maxHeartbeats 4000000 in
theorem walk_any {V:Nat} {bel:Nat→List Nat} {G:Value} {gl:Nat} {cl:Array Value} {I:(Nat→Prop)→List Nat→World→Prop} (o:Nat→Prop) (first:List Nat) (A:Option Addr) (c:Nat) (w:World)
    (hL:Leaves w.heap.size V bel G gl cl I) (hV:V≤1000000) (hI:I o [] w) (hf:∀ x∈first,x≤V) (hfl:first.length≤1000000) (hs:Far w.heap.size o w A (nats first)) :
    Calls Tryz.prog 112 #[.int .i64 (V:Nat),.slice A first.length c,.func (.func 113) #[G] #[],.func (.func gl) #[] cl] w (Walked w.heap.size V bel I first o w):=by
  have hmk:=run_tmarks (V:Int) (by omega) (by omega)
  rw [show ((V:Int)).toNat=V from by omega] at hmk
  have HL:=Lib.hid (And.intro hL (And.intro hI (And.intro hf hs)))
  clear hL hI hf hs
  obtain ⟨W,hW⟩:∃ W,(((((w.alloc (.cells #[.func (.func 113) #[G] #[]] 78)).alloc (.cells #[.func (.func gl) #[] cl] 167)).alloc (.cells (madeCells #[.int .i64 0] (V+1)) 211)).alloc (.cells #[.slice (some ⟨w.heap.size+1+1,0,none⟩) (V+1) (V+1)] 210)).alloc (.cells #[.nilFunc] 198))=W:=⟨_,rfl⟩
  obtain ⟨hn,hb,hR⟩:=rig_start w V _ _ W hW
  have cE:W.cell? ⟨w.heap.size+1+1+1+1,0,none⟩=some .nilFunc:=by rw [cell_of_row W _ 0 _ _ _ hn];rfl
  have fE:W.frozen? ⟨w.heap.size+1+1+1+1,0,none⟩=false:=frozen_of_row W _ 0 _ _ hn
  have HR:=Lib.hid (And.intro hb hR)
  clear hn hb hR
  have hsf:∀ (a:Addr) (m:Mode) (x y:Array Value) (W:World),(store a (.func (.func 162) x y) m).run Tryz.prog W=stored Tryz.prog W a (.func (.func 162) x y) m:=fun a m x y W=>run_store _ W a _ m rfl
  go_enter Tryz.func112,Tryz.ntmps112
  go_wp2_with fail
  clear hW cE fE hsf
  have HM:=Lib.hid ((Moves.of_below (lo:=w.heap.size) (hi:=w.heap.size+5) (o:=o) HR.out.1).trans (Moves.set W (a:=⟨w.heap.size+1+1+1+1,0,none⟩) (.func (.func 162) #[] #[.pointer (some ⟨w.heap.size+1+1+1,0,none⟩),.pointer (some ⟨w.heap.size,0,none⟩),.pointer (some ⟨w.heap.size+1+1+1+1,0,none⟩),.pointer (some ⟨w.heap.size+1,0,none⟩)]) (by show w.heap.size≤w.heap.size+1+1+1+1;omega) (by show w.heap.size+1+1+1+1<w.heap.size+5;omega)))
  have HI0:=Lib.hid (HL.out.1.still _ _ _ _ HL.out.2.1 ((Moves.of_below (lo:=w.heap.size) (hi:=w.heap.size+5) (o:=noB) HR.out.1).trans (Moves.set W (a:=⟨w.heap.size+1+1+1+1,0,none⟩) (.func (.func 162) #[] #[.pointer (some ⟨w.heap.size+1+1+1,0,none⟩),.pointer (some ⟨w.heap.size,0,none⟩),.pointer (some ⟨w.heap.size+1+1+1+1,0,none⟩),.pointer (some ⟨w.heap.size+1,0,none⟩)]) (by show w.heap.size≤w.heap.size+1+1+1+1;omega) (by show w.heap.size+1+1+1+1<w.heap.size+5;omega))))
  have HS0:=Lib.hid (And.intro HR.out.2 (And.intro (Trip.start (bel:=bel) (V:=V) first) (And.intro HI0.out (And.intro HM.out (HL.out.2.2.2.moves HM.out)))))
  clear HM HI0 HR
  generalize W.setCell ⟨w.heap.size+1+1+1+1,0,none⟩ (.func (.func 162) #[] #[.pointer (some ⟨w.heap.size+1+1+1,0,none⟩),.pointer (some ⟨w.heap.size,0,none⟩),.pointer (some ⟨w.heap.size+1+1+1+1,0,none⟩),.pointer (some ⟨w.heap.size+1,0,none⟩)])=W6 at *
  go_loopg [12,19] first.length (fun m _ s19 wx=>∃ (k:Nat) (M:List Int) (F:List Nat) (ok:Nat→Prop),k+m=first.length∧s19=.int .i64 k∧Aside (Rig w.heap.size V (.func (.func 113) #[G] #[]) (.func (.func gl) #[] cl) M wx∧Trip bel V first k M F∧I ok F wx∧Moves w.heap.size (w.heap.size+5) o w ok wx∧Far w.heap.size ok wx A (nats first)))
  case atStart=>exact ⟨0,_,_,_,by omega,rfl,HS0.out⟩
  case round =>
    clear HS0
    obtain ⟨k,M,F,ok,hk,rfl,HS⟩:=hrel
    generalize gk=m at *
    by_cases hlt:k<first.length
    · obtain ⟨x,hx⟩:=some_of_lt hlt
      have hltI:(k:Int)<(first.length:Int):=by omega
      have hk0:(0:Int)≤(k:Int):=by omega
      obtain ⟨b,s,hS,hc⟩:=HS.out.2.2.2.2.at (nats_at hx)
      have hxV:=HL.out.2.2.1 x (mem_of_some hx)
      have c4:wr.cell? ⟨w.heap.size+1+1+1+1,0,none⟩=some (.func (.func 162) #[] #[.pointer (some ⟨w.heap.size+1+1+1,0,none⟩),.pointer (some ⟨w.heap.size,0,none⟩),.pointer (some ⟨w.heap.size+1+1+1+1,0,none⟩),.pointer (some ⟨w.heap.size+1,0,none⟩)]):=by rw [cell_of_row _ (w.heap.size+1+1+1+1) 0 _ _ _ HS.out.1.r4];rfl
      have HC:=Lib.hid (enter_any HL.out.1 hV (unseen M+1) M F ok wr x (by omega) HS.out.1 HS.out.2.1.way (HS.out.2.1.above x) hxV HS.out.2.2.1)
      have HX:=Lib.hid hx
      clear hx
      subst hS
      go_wp2_with (go_at_call 162;refine HC.out.mono ?_;rintro e w3 ⟨bb,o3,rfl,hMv,hD⟩)
      · go_ret
        rename_i hbb
        have hb0:bb=false:=by cases bb <;> simp at hbb ⊢
        exact ⟨false,o3,rfl,HS.out.2.2.2.1.trans hMv,Lib.hid ⟨fun h=>Bool.noConfusion h,fun _=>hD.out.2 hb0⟩⟩
      · rename_i hbb
        have hb0:bb=true:=by cases bb <;> simp at hbb ⊢
        obtain ⟨M3,F3,q1,q2,q3⟩:=hD.out.1 hb0
        have HQ:=Lib.hid (And.intro q1 (And.intro (HS.out.2.1.step HX.out q2) (And.intro q3 (And.intro (HS.out.2.2.2.1.trans hMv) (HS.out.2.2.2.2.moves hMv)))))
        clear q1 q2 q3 hD hMv
        go_roundg (m - 1)
        case measure=>omega
        case rel=>exact ⟨k+1,M3,F3,o3,by omega,by first | rfl | simp,HQ.out⟩
    · have hltn:¬ ((k:Int)<(first.length:Int)):=by omega
      have HQ:=Lib.hid (HS.out.2.1.last (by omega))
      go_wp2_with fail
      go_ret
      exact ⟨true,ok,rfl,HS.out.2.2.2.1,Lib.hid ⟨fun _=>⟨F,HQ.out,HS.out.2.2.1⟩,fun h=>Bool.noConfusion h⟩⟩
end Go.Proofs.YtldnepogjnahfaaGreatDoor
