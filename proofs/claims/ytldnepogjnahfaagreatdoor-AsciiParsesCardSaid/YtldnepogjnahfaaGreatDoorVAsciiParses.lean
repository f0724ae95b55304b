/- The statement AsciiParsesCardSaid is proved: for all bytes the law AsciiParses returns true, and leaves its argument as it was. Condition: the library's one variable is laid, which the card ties to the program's text. -/
import Derived.Test.YtldnepogjnahfaaGreatDoorVAl7
import Derived.Test.YtldnepogjnahfaaGreatDoorVE1
import Derived.Test.YtldnepogjnahfaaGreatDoorVSM
import Derived.Test.YtldnepogjnahfaaGreatDoorVBy
import Derived.Test.YtldnepogjnahfaaGreatDoorVLaidZ
import Derived.Test.YtldnepogjnahfaaGreatDoorCards
import Derived.Test.YtldnepogjnahfaaGreatDoorTie
import Derived.SevenTiedAt
import Derived.ChangeSlices
import Derived.ProofKit
import Derived.OpenShut
set_option linter.unusedVariables false
namespace Go.Proofs.YtldnepogjnahfaaGreatDoor.asciiParses
open Go Go.ChangeShapes Go.WideShapes Go.RowKit
theorem own:ownKnob Tryz.prog.godebug=none:=by kernel_rfl
set_option maxRecDepth 100000 in
set_option maxHeartbeats 4000000 in
theorem walk (a:Option Addr) (c:Nat) (xs:List Int) (w:World) (hL:Fa.Laid w) (hA:Bytes w a c xs) (hb:∀ z∈xs,0≤z∧z<256) (hlen:xs.length≤9223372036854775807) :
    Calls Tryz.prog 4 #[.slice a xs.length c] w (fun e w'=>e=.returned (.bool true)∧Below w.heap.size w w'):=by
  have HL:=Lib.hid (And.intro hL hL.pos)
  by_cases hn:xs.length≤2000
  · have H1:=Lib.hid (Parse_short a c xs w hL hb hn hA.none hA.cell)
    have H2:=Lib.hid (fun (W:World) (hB:Below w.heap.size w W)=>parse_same xs ▸ parse7_any (w:=W) (xs:=xs) a c ((hA.src.keep (r:=w.heap.size) (fun k hk _=>hB.block k hk) hB.size (Nat.le_refl _)).mono hB.size) (by omega) hb (fun hne=>by
      obtain ⟨g1,g2⟩:=net7_same hne
      rw [g2]
      have hk:=short_checks hn g1 (Ps.line1_vars _ _ _) (Ps.line1_mems _ _ _)
      exact ⟨hk.1,hk.2.1,hk.2.2.1⟩))
    obtain ⟨⟨n,at0,f⟩,hP⟩:∃ y,parseP xs=y:=⟨_,rfl⟩
    rw [hP] at H1 H2
    have hlt:¬ (2000<(xs.length:Int)):=by omega
    clear hL hA hb hP
    go_enter Tryz.func4,Tryz.ntmps4
    go_wp2_with fail
    refine H1.out.mono ?_
    clear H1
    rintro e w1 ⟨n',S,rfl,rfl,hN1,hB1⟩
    dsimp only at hN1 ⊢
    obtain ⟨wa,hwa⟩:∃ wa,w1.alloc (.cells #[.int .i64 n'.vars,.slice S.i n'.inputs.length S.ic,.slice S.l n'.latches.length S.lc,.slice S.o n'.outs.length S.oc,.slice S.b n'.bads.length S.bc,.slice S.c n'.cons.length S.cc,.slice S.m n'.mems.length S.mc,.slice S.a n'.ands.length S.ac] 27)=wa:=⟨_,rfl⟩
    have hb1:Below w1.heap.size w1 wa:=by rw [← hwa];exact below_box _ _ _
    have hza:wa.heap.size=w1.heap.size+1:=by rw [← hwa];simp
    have NB1:=Lib.hid (show NetBox wa w1.heap.size n' S by rw [← hwa];exact netBox_new w1 n' S _)
    have NA1:=Lib.hid (hN1.later hb1 hb1.size)
    have BA:=Lib.hid (below_on hB1 hb1)
    clear hN1 hB1 hb1
    go_wp2_with fail
    refine (H2.out _ BA.out).mono ?_
    clear H2 hwa
    rintro e w2 ⟨n2,T,rfl,rfl,hN2,hB2⟩
    dsimp only at hN2 ⊢
    obtain ⟨w3,hw3⟩:∃ w3,w2.alloc (.cells #[.int .i64 n2.vars,.slice T.i n2.inputs.length T.ic,.slice T.l n2.latches.length T.lc,.slice T.o n2.outs.length T.oc,.slice T.b n2.bads.length T.bc,.slice T.c n2.cons.length T.cc,.slice T.m n2.mems.length T.mc,.slice T.a n2.ands.length T.ac] 27)=w3:=⟨_,rfl⟩
    have hb3:Below w2.heap.size w2 w3:=by rw [← hw3];exact below_box _ _ _
    have hz3:w3.heap.size=w2.heap.size+1:=by rw [← hw3];simp
    have hBa3:Below wa.heap.size wa w3:=below_on hB2 hb3
    have HS:=Lib.hid (same5_any n2 S T w3 (NA1.out.later hBa3 hBa3.size) (hN2.later hb3 hb3.size))
    obtain ⟨e0,e1,e2,e3,e4,e5,e6,e7,-⟩:=NB1.out.below hBa3 (by omega)
    obtain ⟨f0,f1,f2,f3,f4,f5,f6,f7,-⟩:=(show NetBox w3 w2.heap.size n2 T by rw [← hw3];exact netBox_new w2 n2 T _)
    have BC:=Lib.hid (below_on BA.out hBa3)
    clear hN2 hB2 hb3 hBa3
    go_wp2_with fail
    clear hw3 hz3
    refine HS.out.mono ?_
    rintro e w4 ⟨rfl,hb4⟩
    have BD:=Lib.hid (below_on BC.out hb4)
    clear hb4
    go_wp2_with fail
    refine (alive7_any w4 (HL.out.1.below BD.out HL.out.2)).mono ?_
    rintro e wz ⟨rfl,hz⟩
    have BZ:=Lib.hid (below_on BD.out hz)
    clear hz
    go_wp2_with fail
    go_ret
    exact ⟨rfl,BZ.out⟩
  · have hlt:2000<(xs.length:Int):=by omega
    go_enter Tryz.func4,Tryz.ntmps4
    go_wp2_with fail
    refine (alive7_any w HL.out.1).mono ?_
    rintro e wz ⟨rfl,hz⟩
    have HZ:=Lib.hid hz
    clear hz
    go_wp2_with fail
    go_ret
    exact ⟨rfl,HZ.out⟩
set_option maxRecDepth 100000 in
theorem lifted (os:Os) (started:os.Started) (H:Type) (enc:TypeId × Value→H) :
    ReturnsInHanded {} Tryz.checked os 4 .any (fun w args=>(Rows.asciiParsesSpec.pre enc Tryz.prog Tryz.f4 [] false w args∧laidMetH Tryz.prog laidList w)∧sizedMet enc Tryz.prog Tryz.f4 (OpenSpec.ofChange Rows.asciiParsesSpec) false w args)
      (Rows.asciiParsesSpec.post enc Tryz.prog Tryz.f4 false true false false):=by
  refine returnsInHanded_of_change_and (C:=Tryz.checked) (X:=fun w _=>laidMetH Tryz.prog laidList w) (fun _ _ _ hh h=>h.of_heap hh) own started (by kernel_rfl) Tryz.func4
    (ChangeSpec.witness_at (enc:=enc) (C:=Tryz.checked) (os:=os) (X:=fun w _=>laidMetH Tryz.prog laidList w) false (laidWorld os) #[.slice none 0 0] 8 rfl (by kernel_rfl) (by kernel_rfl) (by kernel_rfl) (by kernel_rfl) (by kernel_rfl) (laidWorld_met os _)) ?_
  intro W base args ds gs before hval0 hW _ _ hL _
  have hval:∀ (j:Nat) t v,Tryz.f4.params[j]?=some t→args[j]?=some v→Value.okWide Tryz.prog W .any base t v:=hval0
  have hW':=hW
  obtain ⟨p,q,hA0,hV0,rfl,hfz,hnd⟩:=hW
  have hA:DataW.TrodAll enc Tryz.prog W 0 (fun _=>true) true Tryz.f4.params.toList args.toList ds p:=hA0
  have hV:DataW.TrodVars enc Tryz.prog W (fun _=>true) [] gs q:=hV0
  rw [Tryz.params4] at hA hval
  have hAk:=hA
  have hg:=laid_of_met hL
  obtain ⟨v0,vs0,d0,ds0,p0,q0,hargs,rfl,rfl,h0,r0⟩:=trodAll_cons hA
  obtain ⟨rfl,rfl,rfl⟩:=trodAll_nil r0
  obtain rfl:args=#[v0]:=by cases args;simp_all
  obtain ⟨a0,n0,c0,rfl⟩:=okWide_slice Tryz.underlying30 (hval 0 30 v0 rfl rfl)
  obtain ⟨rfl,rfl⟩:=trodVars_none hV
  clear hA0 hval0
  simp only [List.append_nil] at hW' hAk
  have fin:∀ W':World,Below W.heap.size W W'→Rows.asciiParsesSpec.post enc Tryz.prog Tryz.f4 false true false false W #[.slice a0 n0 c0] (.bool true) W':=fun W' hb =>
    ⟨_,_,_,[],_,[],hW',trodAll_cons_mk (shut_bool Tryz.underlying4 _) trodAll_mk0,all_stay Tryz.laidOut [30] (by kernel_rfl) hb _ _ _ hAk (fun x hx=>hW'.lt x hx),rfl,hb.frame _,fun h=>by cases h⟩
  have go:∀ e W',(e=Ending.returned (.bool true)∧Below W.heap.size W W')→∃ v,e=Ending.returned v∧Rows.asciiParsesSpec.post enc Tryz.checked.prog Tryz.f4 false true false false W #[.slice a0 n0 c0] v W' :=
    fun e W' ⟨he,hb⟩=>⟨_,he,fin W' hb⟩
  obtain ⟨fuel0,hf0⟩:=h0
  obtain ⟨xs0,rfl,hBy0,hbt0⟩:=open_bytes (by simpa [Value.cells] using hf0)
  have hlen:xs0.length≤9223372036854775807:=by
    rcases hBy0 with ⟨_,e,_⟩ | ⟨_,_,h1,h2,_⟩
    · rw [e];simp
    · omega
  exact (walk a0 c0 xs0 W hg hBy0 hbt0 hlen).mono go
theorem over:Rows.AsciiParsesSaid :=
  OpenClaim.holds_of_wide 4 Tryz.f4 rfl rfl rfl rfl rfl rfl rfl ⟨rfl,rfl,rfl,rfl,rfl⟩ rfl rfl rfl rfl rfl (by kernel_rfl) Tryz.func4 (by kernel_rfl)
    (of_decide_eq_true (by kernel_rfl)) (by unfold Func.isWrapper;first | (rw [if_pos (by decide +kernel)];kernel_rfl) | (rw [if_neg (by decide +kernel)];exact ⟨rfl,rfl⟩))
    (fun os started H enc _=>lifted os started H enc)
theorem proved:Rows.AsciiParsesCardSaid :=
  Claim7.holds_tied_plain_at .later [] [.handle] true Rows.asciiParsesCard.stood.harness true
    over (fun _ h=>by cases h) (by kernel_rfl) (fun _ h=>by cases h) asciiParses_row_tie rfl ⟨rfl,rfl⟩ (by kernel_rfl) rfl
    (fun f fn hf hfn=>by
      obtain rfl:f=4:=Option.some.inj ((show Tryz.prog.funcNamed Rows.asciiParsesRow.func=some 4 by kernel_rfl).symm.trans hf) |>.symm
      obtain rfl:fn=Tryz.f4:=(Option.some.inj (Tryz.func4.symm.trans hfn)).symm
      exact ⟨by kernel_rfl,fun j t ht=>by
        have hall:Tryz.f4.params.toList.all (fun t=>!Tryz.prog.wantsStandIn t)=true:=by kernel_rfl
        have hm:t∈Tryz.f4.params.toList:=by
          have:=Array.mem_of_getElem? ht
          exact Array.mem_toList_iff.2 this
        have:=List.all_eq_true.1 hall t hm
        exact (show Tryz.prog.wantsStandIn t=false by simpa using this)⟩)
    (by kernel_rfl)
#print axioms proved
end Go.Proofs.YtldnepogjnahfaaGreatDoor.asciiParses
