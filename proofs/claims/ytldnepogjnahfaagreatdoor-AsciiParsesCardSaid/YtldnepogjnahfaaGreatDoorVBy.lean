/- A list of bytes as an argument: where it lies (condition: the argument can be read). -/
import Derived.Test.YtldnepogjnahfaaGreatDoorVSA
import Derived.Deep.Slices
import Derived.ChangeSlices
namespace Go.Proofs.YtldnepogjnahfaaGreatDoor
open Go.ChangeShapes Go.WideShapes Go.RowKit
set_option linter.unusedVariables false
def Bytes (w:World) (a:Option Addr) (c:Nat) (xs:List Int):Prop:=(a=none∧xs=[]∧c=0)∨∃ ad,a=some ad∧xs.length≤c∧c≤9223372036854775807∧∀ i,i<xs.length→w.cell? (ad.add i)=some (.int .u8 (xs.getD i 0))
theorem open_bytes {H:Type} {enc:TypeId × Value→H} {w:World} {fuel:Nat} {a:Option Addr} {n c:Nat} {x:DataW H × List MemPlace} (h:DataW.trod enc Tryz.prog w 0 (fun _=>true) true fuel 30 [.slice a n c]=some x) :
    ∃ xs:List Int,xs.length=n∧Bytes w a c xs∧(∀ x∈xs,0≤x∧x<256):=by
  rcases open_ints Tryz.underlying30 Tryz.underlying5 Sc.cells_u8 h with ⟨hcs,hx⟩ | ⟨ad,len',cap',zs,hcs,_,hl,hm,hz,hx,hcell,hwz⟩
  · simp at hcs
    obtain ⟨rfl,rfl,rfl⟩:=hcs
    exact ⟨[],rfl,.inl ⟨rfl,rfl,rfl⟩,by simp⟩
  · simp at hcs
    obtain ⟨rfl,rfl,rfl⟩:=hcs
    simp only [if_true] at hz
    refine ⟨zs.take n,by rw [List.length_take];omega,.inr ⟨ad,rfl,by rw [List.length_take];omega,by unfold maxLen at hm;omega,fun i hi=>?_⟩,fun x hx=>?_⟩
    · rw [List.length_take] at hi
      rw [hcell i (by omega)]
      simp [List.getD,show i<n by omega]
    · have:=hwz x (List.mem_of_mem_take hx)
      have e1:IntKind.u8.min=0:=by decide
      have e2:IntKind.u8.max=255:=by decide
      simp [Lit.wf] at this
      rw [e1,e2] at this
      omega
theorem Bytes.src {w:World} {a:Option Addr} {c:Nat} {xs:List Int} (h:Bytes w a c xs):Sc.Src w w.heap.size a xs:=by
  rcases h with ⟨rfl,rfl,rfl⟩ | ⟨ad,rfl,h1,_,hc⟩
  · exact fun h=>absurd rfl h
  · intro hne
    have h0:0<xs.length:=List.length_pos_iff.2 hne
    obtain ⟨b,o,spot⟩:=ad
    have g0:=hc 0 h0
    have hspot:spot=none:=by simpa [Addr.add] using World.cell?_spot g0
    subst hspot
    have hb:b<w.heap.size:=by
      have:=World.block_lt_of_cell? w _ g0
      simpa [Addr.add] using this
    refine ⟨b,o,rfl,hb,hb,fun j hj=>?_⟩
    have:=hc j hj
    rw [Addr.add_lit] at this
    exact this
theorem Bytes.none {w:World} {a:Option Addr} {c:Nat} {xs:List Int} (h:Bytes w a c xs):a=Option.none→xs=[]:=fun ha=>by
  rcases h with ⟨_,e,_⟩ | ⟨ad,e,_⟩
  · exact e
  · rw [ha] at e;cases e
theorem Bytes.cell {w:World} {a:Option Addr} {c:Nat} {xs:List Int} (h:Bytes w a c xs):∀ q,a=some q→∀ i,i<xs.length→w.cell? (q.add i)=some (.int .u8 (xs.getD i 0)):=fun q hq=>by
  rcases h with ⟨e,_,_⟩ | ⟨ad,e,_,_,hc⟩
  · rw [e] at hq;cases hq
  · rw [e] at hq;cases hq;exact hc
end Go.Proofs.YtldnepogjnahfaaGreatDoor
