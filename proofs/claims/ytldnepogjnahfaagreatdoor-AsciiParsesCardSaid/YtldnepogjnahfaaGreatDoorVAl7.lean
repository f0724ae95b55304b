/- The law's own example by contract (condition: the card's variable errors.errorType is laid). -/
import Derived.Test.YtldnepogjnahfaaGreatDoorVPShort
import Derived.Lib.SlBytesConst
set_option linter.unusedVariables false
namespace Go.Proofs.YtldnepogjnahfaaGreatDoor
open Go.ChangeShapes Go.WideShapes Go.RowKit
theorem parse_example:parseP [97,97,103,32,49,32,49,32,48,32,48,32,48,32,49,32,48,10,50,10,50,10]=(⟨1,[1],[],[],[2],[],[],[]⟩,0,0):=by kernel_rfl
set_option maxRecDepth 100000 in
set_option maxHeartbeats 4000000 in
theorem alive7_any (w:World) (hL:Fa.Laid w):Calls Tryz.prog 10 #[] w fun e w'=>e=.returned (.bool true)∧Below w.heap.size w w':=by
  have HL:=Lib.hid (And.intro hL hL.pos)
  clear hL
  have kc:=fun (w:World) (C:Array Value) (n c:Nat)=>Lib.run_convert_bytes_const (P:=Tryz.prog) w 30 5 C n c Tryz.underlying30 Tryz.underlying5
  go_enter Tryz.func10,Tryz.ntmps10
  go_wp2_with fail
  refine (Parse_short (some ⟨w.heap.size,0,none⟩) 22 [97,97,103,32,49,32,49,32,48,32,48,32,48,32,49,32,48,10,50,10,50,10] _ (HL.out.1.below ((Below.refl _ w).alloc (Nat.le_refl _) _) HL.out.2) (by decide) (by decide) (fun h=>by cases h) (fun q hq i hi=>?_)).mono ?_
  · cases hq
    rw [Addr.add_lit,cell_of_row _ _ _ _ _ _ (heap_alloc_new _ _)]
    have hi2:i<22:=hi
    have:i=0∨i=1∨i=2∨i=3∨i=4∨i=5∨i=6∨i=7∨i=8∨i=9∨i=10∨i=11∨i=12∨i=13∨i=14∨i=15∨i=16∨i=17∨i=18∨i=19∨i=20∨i=21:=by omega
    rcases this with rfl | rfl | rfl | rfl | rfl | rfl | rfl | rfl | rfl | rfl | rfl | rfl | rfl | rfl | rfl | rfl | rfl | rfl | rfl | rfl | rfl | rfl
    all_goals rfl
  rw [parse_example]
  rintro e w1 ⟨n,S,rfl,rfl,hN,hB⟩
  clear kc
  obtain ⟨b,o,hSb,hbl,hcell⟩:=hN.bads (by simp)
  obtain ⟨si,sic,sl,slc,so,soc,sb,sbc,sc,scc,sm,smc,sa,sac⟩:=S
  dsimp only at hSb
  subst hSb
  have h2:=hcell 0 2 rfl
  have B1:=Lib.hid (show Below w.heap.size w w1 from ((Below.refl _ w).alloc (Nat.le_refl _) _).trans (hB.mono (by simp)))
  clear hB hN hcell
  simp only [List.length_cons,List.length_nil,Nat.zero_add,Nat.add_zero] at h2 ⊢
  go_wp2_with fail
  go_ret
  exact ⟨rfl,B1.out.alloc B1.out.size _⟩
end Go.Proofs.YtldnepogjnahfaaGreatDoor
