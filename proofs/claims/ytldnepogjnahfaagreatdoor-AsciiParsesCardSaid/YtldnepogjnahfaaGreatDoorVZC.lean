/- The contracts of slices.IndexFunc and slices.ContainsFunc at lists of structs: whether the predicate holds of some element, for whatever predicate that leaves old memory as it is (conditions: the slice reads as the list; the predicate's own contract at its elements); The contracts of package net's tests: limits, widths, how latches begin (conditions: the netlist lies where its value says); Rows of numbers that a call makes by appending: one number, two, or all of another slice's (conditions: the slice is the call's own, at most 1000000 numbers each); The data of a port, by the program and by definition: the variables from the port's first on, in a list of the call's own (conditions: the port is there; its first variable is no more than 2^61 from 0; a word has from 0 to 1000 bits); The contracts of the tests by definition: limits and widths (conditions: the netlist lies where its value says); The lists of a netlist's definitions and literals by definition (conditions: the netlist lies where its value says; at most 1000000 of them; words of 0 to 64 bits, and ports' first variables no more than 2^61 from 0); The list of a netlist's literals by definition (conditions: the netlist lies where its value says; at most 1000000 of them); Numbers from 1 to V, each once: how many there are (no condition); marks in a row of bools; How long the lists of a netlist within its limits and widths can be (no condition); What is wrong with a netlist's definitions, and what is wrong first, by definition (conditions: the netlist lies where its value says; at most 1000000 definitions and literals; the numbers are int's). -/
import Derived.Test.YtldnepogjnahfaaGreatDoorVZB
import Derived.Shelf.GgClosure.Gives
import Derived.Test.YtldnepogjnahfaaGreatDoorVZA
import Derived.WalkKit
import Derived.WalkLawsBesides
import Derived.Lib.Hide
import Derived.Outline
import Derived.Deep.LoopGhost
import Derived.Deep.Onto
import Derived.OwnWalk
import Derived.Deep.QuietTactic
import Derived.BigQuiet
import Derived.Deep.RegionHeld3
import Derived.Deep.DrawnRows
import Derived.Laws.MakeOwn
namespace Go.Proofs.YtldnepogjnahfaaGreatDoor
open Go.ChangeShapes Go.WideShapes Go.RowKit
set_option linter.unusedVariables false
def Idx (b:Bool) (w:World) (e:Ending) (w':World):Prop:=∃ i:Int,e=.returned (.int .i64 i)∧decide (0≤i)=b∧Below w.heap.size w w'
theorem any_yes {α:Type} {xs:List α} {k:Nat} {x:α} {p:α→Bool} (h:xs[k]?=some x) (hp:p x=true):xs.any p=true:=by
  rw [List.any_eq_true]
  exact ⟨x,mem_of_some h,hp⟩
theorem any_take {α:Type} {xs:List α} {k:Nat} {x:α} {p:α→Bool} (h:xs[k]?=some x) (ha:(xs.take k).any p=false) (hp:p x=false):(xs.take (k+1)).any p=false:=by
  rw [take_some h,List.any_append,ha];simp [hp]
theorem any_done {α:Type} {xs:List α} {k:Nat} {p:α→Bool} (hk:¬ k<xs.length) (ha:(xs.take k).any p=false):xs.any p=false:=by
  rwa [List.take_of_length_le (by omega)] at ha
set_option maxHeartbeats 1000000 in
theorem index_latch (A:Option Addr) (cc:Nat) (xs:List PLatch) (p:PLatch→Bool) (g:Nat) (lb:Array Value) (eg:∀ args w,(callFunc g args).run Tryz.prog w=.ok (.enter g args) w) (w:World) (hbig:xs.length≤9223372036854775807)
    (h:Row w.heap.size 3 (LatchAt w) A xs) (hp:∀ (W:World) (x:PLatch),x∈xs→Below w.heap.size w W→Calls Tryz.prog g (#[.agg #[.int .i64 x.lv,.int .i64 x.ln,.int .i64 x.li]]++lb) W fun e w'=>e=.returned (.bool (p x))∧Below W.heap.size W w') :
    Calls Tryz.prog 159 #[.slice A xs.length cc,.func (.func g) #[] lb] w (Idx (xs.any p) w):=by
  have H:=Lib.hid (And.intro h hp)
  clear h hp
  go_enter Tryz.func159,Tryz.ntmps159
  go_wp2
  go_loopg [5,8] xs.length (fun m _ s8 wx=>∃ k:Nat,k+m=xs.length∧s8=.int .i64 k∧Aside ((xs.take k).any p=false∧Below w.heap.size w wx))
  case atStart=>exact ⟨0,by omega,rfl,by simp,Below.refl _ _⟩
  case round =>
    obtain ⟨k,hk,rfl,HI⟩:=hrel
    generalize gk=m at *
    by_cases hlt:k<xs.length
    · obtain ⟨x,hx⟩:=some_of_lt hlt
      have HX:=Lib.hid hx
      clear hx
      have hltI:(k:Int)<(xs.length:Int):=by omega
      have hp:=H.out.2
      obtain ⟨b,o,rfl,hbg,hcell⟩:=H.out.1.at HX.out
      have HB:=Lib.hid HI.out.2
      obtain ⟨m0,m1,m2⟩:=LatchAt.below HB.out (Nat.le_refl _) hbg (hcell k x HX.out)
      have hcall:=Lib.hid (hp wr x (mem_of_some HX.out) HB.out)
      clear hp hcell
      cases hq:p x with
      | true =>
        have HN:=Lib.hid (And.intro (any_yes HX.out hq) HI.out.2)
        rw [hq] at hcall
        clear hq
        go_wp2_with (go_at_fn g;refine hcall.out.mono ?_;rintro e w' ⟨rfl,hb'⟩)
        go_ret
        exact ⟨_,rfl,by rw [HN.out.1];simp,HN.out.2.trans (hb'.mono HN.out.2.size)⟩
      | false =>
        have HN:=Lib.hid (any_take HX.out HI.out.1 hq)
        rw [hq] at hcall
        clear hq
        go_wp2_with (go_at_fn g;refine hcall.out.mono ?_;rintro e w' ⟨rfl,hb'⟩)
        go_roundg (m - 1)
        case measure=>omega
        case rel=>exact ⟨k+1,by omega,by first | rfl | simp,HN.out,HI.out.2.trans (hb'.mono HI.out.2.size)⟩
    · have hltn:¬ ((k:Int)<(xs.length:Int)):=by omega
      have HN:=Lib.hid (And.intro (any_done hlt HI.out.1) HI.out.2)
      clear HI
      go_wp2
      go_ret
      exact ⟨_,rfl,by rw [HN.out.1];rfl,HN.out.2⟩
theorem contains_latch (A:Option Addr) (cc:Nat) (xs:List PLatch) (p:PLatch→Bool) (g:Nat) (lb:Array Value) (eg:∀ args w,(callFunc g args).run Tryz.prog w=.ok (.enter g args) w) (w:World) (hbig:xs.length≤9223372036854775807)
    (h:Row w.heap.size 3 (LatchAt w) A xs) (hp:∀ (W:World) (x:PLatch),x∈xs→Below w.heap.size w W→Calls Tryz.prog g (#[.agg #[.int .i64 x.lv,.int .i64 x.ln,.int .i64 x.li]]++lb) W fun e w'=>e=.returned (.bool (p x))∧Below W.heap.size W w') :
    Calls Tryz.prog 106 #[.slice A xs.length cc,.func (.func g) #[] lb] w fun e w'=>e=.returned (.bool (xs.any p))∧Below w.heap.size w w':=by
  have H:=Lib.hid (index_latch A cc xs p g lb eg w hbig h hp)
  clear h hp
  go_enter Tryz.func106,Tryz.ntmps106
  go_wp2_with fail
  refine H.out.mono ?_
  rintro e w' ⟨i,rfl,hi,hb⟩
  have HI:=Lib.hid (And.intro hi hb)
  clear hi hb
  go_wp2
  go_ret
  exact ⟨ret_bool HI.out.1,HI.out.2⟩
set_option maxHeartbeats 1000000 in
theorem index_read (A:Option Addr) (cc:Nat) (xs:List PRead) (p:PRead→Bool) (g:Nat) (lb:Array Value) (eg:∀ args w,(callFunc g args).run Tryz.prog w=.ok (.enter g args) w) (w:World) (hbig:xs.length≤9223372036854775807)
    (h:Row w.heap.size 2 (ReadAt w w.heap.size) A xs) (hp:∀ (W:World) (x:PRead) (a:Option Addr) (c:Nat) ,x∈xs→Below w.heap.size w W→Src W w.heap.size a x.ra→Calls Tryz.prog g (#[.agg #[.int .i64 x.rv,.slice a x.ra.length c]]++lb) W fun e w'=>e=.returned (.bool (p x))∧Below W.heap.size W w') :
    Calls Tryz.prog 206 #[.slice A xs.length cc,.func (.func g) #[] lb] w (Idx (xs.any p) w):=by
  have H:=Lib.hid (And.intro h hp)
  clear h hp
  go_enter Tryz.func206,Tryz.ntmps206
  go_wp2
  go_loopg [5,8] xs.length (fun m _ s8 wx=>∃ k:Nat,k+m=xs.length∧s8=.int .i64 k∧Aside ((xs.take k).any p=false∧Below w.heap.size w wx))
  case atStart=>exact ⟨0,by omega,rfl,by simp,Below.refl _ _⟩
  case round =>
    obtain ⟨k,hk,rfl,HI⟩:=hrel
    generalize gk=m at *
    by_cases hlt:k<xs.length
    · obtain ⟨x,hx⟩:=some_of_lt hlt
      have HX:=Lib.hid hx
      clear hx
      have hltI:(k:Int)<(xs.length:Int):=by omega
      have hp:=H.out.2
      obtain ⟨b,o,rfl,hbg,hcell⟩:=H.out.1.at HX.out
      have HB:=Lib.hid HI.out.2
      obtain ⟨a,c2,m0,m1,hP,_⟩:=ReadAt.below HB.out (Nat.le_refl _) hbg (hcell k x HX.out)
      have hcall:=Lib.hid (hp wr x a c2 (mem_of_some HX.out) HB.out hP)
      clear hp hcell hP
      cases hq:p x with
      | true =>
        have HN:=Lib.hid (And.intro (any_yes HX.out hq) HI.out.2)
        rw [hq] at hcall
        clear hq
        go_wp2_with (go_at_fn g;refine hcall.out.mono ?_;rintro e w' ⟨rfl,hb'⟩)
        go_ret
        exact ⟨_,rfl,by rw [HN.out.1];simp,HN.out.2.trans (hb'.mono HN.out.2.size)⟩
      | false =>
        have HN:=Lib.hid (any_take HX.out HI.out.1 hq)
        rw [hq] at hcall
        clear hq
        go_wp2_with (go_at_fn g;refine hcall.out.mono ?_;rintro e w' ⟨rfl,hb'⟩)
        go_roundg (m - 1)
        case measure=>omega
        case rel=>exact ⟨k+1,by omega,by first | rfl | simp,HN.out,HI.out.2.trans (hb'.mono HI.out.2.size)⟩
    · have hltn:¬ ((k:Int)<(xs.length:Int)):=by omega
      have HN:=Lib.hid (And.intro (any_done hlt HI.out.1) HI.out.2)
      clear HI
      go_wp2
      go_ret
      exact ⟨_,rfl,by rw [HN.out.1];rfl,HN.out.2⟩
theorem contains_read (A:Option Addr) (cc:Nat) (xs:List PRead) (p:PRead→Bool) (g:Nat) (lb:Array Value) (eg:∀ args w,(callFunc g args).run Tryz.prog w=.ok (.enter g args) w) (w:World) (hbig:xs.length≤9223372036854775807)
    (h:Row w.heap.size 2 (ReadAt w w.heap.size) A xs) (hp:∀ (W:World) (x:PRead) (a:Option Addr) (c:Nat) ,x∈xs→Below w.heap.size w W→Src W w.heap.size a x.ra→Calls Tryz.prog g (#[.agg #[.int .i64 x.rv,.slice a x.ra.length c]]++lb) W fun e w'=>e=.returned (.bool (p x))∧Below W.heap.size W w') :
    Calls Tryz.prog 157 #[.slice A xs.length cc,.func (.func g) #[] lb] w fun e w'=>e=.returned (.bool (xs.any p))∧Below w.heap.size w w':=by
  have H:=Lib.hid (index_read A cc xs p g lb eg w hbig h hp)
  clear h hp
  go_enter Tryz.func157,Tryz.ntmps157
  go_wp2_with fail
  refine H.out.mono ?_
  rintro e w' ⟨i,rfl,hi,hb⟩
  have HI:=Lib.hid (And.intro hi hb)
  clear hi hb
  go_wp2
  go_ret
  exact ⟨ret_bool HI.out.1,HI.out.2⟩
set_option maxHeartbeats 1000000 in
theorem index_write (A:Option Addr) (cc:Nat) (xs:List PWrite) (p:PWrite→Bool) (g:Nat) (lb:Array Value) (eg:∀ args w,(callFunc g args).run Tryz.prog w=.ok (.enter g args) w) (w:World) (hbig:xs.length≤9223372036854775807)
    (h:Row w.heap.size 3 (WriteAt w w.heap.size) A xs) (hp:∀ (W:World) (x:PWrite) (a:Option Addr) (c:Nat) (a2:Option Addr) (c2:Nat) ,x∈xs→Below w.heap.size w W→Src W w.heap.size a x.wa→Src W w.heap.size a2 x.wd→Calls Tryz.prog g (#[.agg #[.int .i64 x.wo,.slice a x.wa.length c,.slice a2 x.wd.length c2]]++lb) W fun e w'=>e=.returned (.bool (p x))∧Below W.heap.size W w') :
    Calls Tryz.prog 207 #[.slice A xs.length cc,.func (.func g) #[] lb] w (Idx (xs.any p) w):=by
  have H:=Lib.hid (And.intro h hp)
  clear h hp
  go_enter Tryz.func207,Tryz.ntmps207
  go_wp2
  go_loopg [5,8] xs.length (fun m _ s8 wx=>∃ k:Nat,k+m=xs.length∧s8=.int .i64 k∧Aside ((xs.take k).any p=false∧Below w.heap.size w wx))
  case atStart=>exact ⟨0,by omega,rfl,by simp,Below.refl _ _⟩
  case round =>
    obtain ⟨k,hk,rfl,HI⟩:=hrel
    generalize gk=m at *
    by_cases hlt:k<xs.length
    · obtain ⟨x,hx⟩:=some_of_lt hlt
      have HX:=Lib.hid hx
      clear hx
      have hltI:(k:Int)<(xs.length:Int):=by omega
      have hp:=H.out.2
      obtain ⟨b,o,rfl,hbg,hcell⟩:=H.out.1.at HX.out
      have HB:=Lib.hid HI.out.2
      obtain ⟨a,c,a2,c2,m0,m1,m2,hP,hP2,_⟩:=WriteAt.below HB.out (Nat.le_refl _) hbg (hcell k x HX.out)
      have hcall:=Lib.hid (hp wr x a c a2 c2 (mem_of_some HX.out) HB.out hP hP2)
      clear hp hcell hP hP2
      cases hq:p x with
      | true =>
        have HN:=Lib.hid (And.intro (any_yes HX.out hq) HI.out.2)
        rw [hq] at hcall
        clear hq
        go_wp2_with (go_at_fn g;refine hcall.out.mono ?_;rintro e w' ⟨rfl,hb'⟩)
        go_ret
        exact ⟨_,rfl,by rw [HN.out.1];simp,HN.out.2.trans (hb'.mono HN.out.2.size)⟩
      | false =>
        have HN:=Lib.hid (any_take HX.out HI.out.1 hq)
        rw [hq] at hcall
        clear hq
        go_wp2_with (go_at_fn g;refine hcall.out.mono ?_;rintro e w' ⟨rfl,hb'⟩)
        go_roundg (m - 1)
        case measure=>omega
        case rel=>exact ⟨k+1,by omega,by first | rfl | simp,HN.out,HI.out.2.trans (hb'.mono HI.out.2.size)⟩
    · have hltn:¬ ((k:Int)<(xs.length:Int)):=by omega
      have HN:=Lib.hid (And.intro (any_done hlt HI.out.1) HI.out.2)
      clear HI
      go_wp2
      go_ret
      exact ⟨_,rfl,by rw [HN.out.1];rfl,HN.out.2⟩
theorem contains_write (A:Option Addr) (cc:Nat) (xs:List PWrite) (p:PWrite→Bool) (g:Nat) (lb:Array Value) (eg:∀ args w,(callFunc g args).run Tryz.prog w=.ok (.enter g args) w) (w:World) (hbig:xs.length≤9223372036854775807)
    (h:Row w.heap.size 3 (WriteAt w w.heap.size) A xs) (hp:∀ (W:World) (x:PWrite) (a:Option Addr) (c:Nat) (a2:Option Addr) (c2:Nat) ,x∈xs→Below w.heap.size w W→Src W w.heap.size a x.wa→Src W w.heap.size a2 x.wd→Calls Tryz.prog g (#[.agg #[.int .i64 x.wo,.slice a x.wa.length c,.slice a2 x.wd.length c2]]++lb) W fun e w'=>e=.returned (.bool (p x))∧Below W.heap.size W w') :
    Calls Tryz.prog 158 #[.slice A xs.length cc,.func (.func g) #[] lb] w fun e w'=>e=.returned (.bool (xs.any p))∧Below w.heap.size w w':=by
  have H:=Lib.hid (index_write A cc xs p g lb eg w hbig h hp)
  clear h hp
  go_enter Tryz.func158,Tryz.ntmps158
  go_wp2_with fail
  refine H.out.mono ?_
  rintro e w' ⟨i,rfl,hi,hb⟩
  have HI:=Lib.hid (And.intro hi hb)
  clear hi hb
  go_wp2
  go_ret
  exact ⟨ret_bool HI.out.1,HI.out.2⟩
set_option maxHeartbeats 1000000 in
theorem index_memory (A:Option Addr) (cc:Nat) (xs:List PMem) (p:PMem→Bool) (g:Nat) (lb:Array Value) (eg:∀ args w,(callFunc g args).run Tryz.prog w=.ok (.enter g args) w) (w:World) (hbig:xs.length≤9223372036854775807)
    (h:Row w.heap.size 5 (MemAt w w.heap.size) A xs) (hp:∀ (W:World) (x:PMem) (a:Option Addr) (c:Nat) (a2:Option Addr) (c2:Nat) ,x∈xs→Below w.heap.size w W→Ports W w.heap.size a c a2 c2 x→Calls Tryz.prog g (#[.agg #[.int .i64 x.ma,.int .i64 x.mw,.bool x.mn,.slice a x.mr.length c,.slice a2 x.mx.length c2]]++lb) W fun e w'=>e=.returned (.bool (p x))∧Below W.heap.size W w') :
    Calls Tryz.prog 154 #[.slice A xs.length cc,.func (.func g) #[] lb] w (Idx (xs.any p) w):=by
  have H:=Lib.hid (And.intro h hp)
  clear h hp
  go_enter Tryz.func154,Tryz.ntmps154
  go_wp2
  go_loopg [5,8] xs.length (fun m _ s8 wx=>∃ k:Nat,k+m=xs.length∧s8=.int .i64 k∧Aside ((xs.take k).any p=false∧Below w.heap.size w wx))
  case atStart=>exact ⟨0,by omega,rfl,by simp,Below.refl _ _⟩
  case round =>
    obtain ⟨k,hk,rfl,HI⟩:=hrel
    generalize gk=m at *
    by_cases hlt:k<xs.length
    · obtain ⟨x,hx⟩:=some_of_lt hlt
      have HX:=Lib.hid hx
      clear hx
      have hltI:(k:Int)<(xs.length:Int):=by omega
      have hp:=H.out.2
      obtain ⟨b,o,rfl,hbg,hcell⟩:=H.out.1.at HX.out
      have HB:=Lib.hid HI.out.2
      obtain ⟨a,c,a2,c2,m0,m1,m2,m3,m4,hP⟩:=MemAt.below HB.out (Nat.le_refl _) hbg (hcell k x HX.out)
      have hcall:=Lib.hid (hp wr x a c a2 c2 (mem_of_some HX.out) HB.out hP)
      clear hp hcell hP
      cases hq:p x with
      | true =>
        have HN:=Lib.hid (And.intro (any_yes HX.out hq) HI.out.2)
        rw [hq] at hcall
        clear hq
        go_wp2_with (go_at_fn g;refine hcall.out.mono ?_;rintro e w' ⟨rfl,hb'⟩)
        go_ret
        exact ⟨_,rfl,by rw [HN.out.1];simp,HN.out.2.trans (hb'.mono HN.out.2.size)⟩
      | false =>
        have HN:=Lib.hid (any_take HX.out HI.out.1 hq)
        rw [hq] at hcall
        clear hq
        go_wp2_with (go_at_fn g;refine hcall.out.mono ?_;rintro e w' ⟨rfl,hb'⟩)
        go_roundg (m - 1)
        case measure=>omega
        case rel=>exact ⟨k+1,by omega,by first | rfl | simp,HN.out,HI.out.2.trans (hb'.mono HI.out.2.size)⟩
    · have hltn:¬ ((k:Int)<(xs.length:Int)):=by omega
      have HN:=Lib.hid (And.intro (any_done hlt HI.out.1) HI.out.2)
      clear HI
      go_wp2
      go_ret
      exact ⟨_,rfl,by rw [HN.out.1];rfl,HN.out.2⟩
theorem contains_memory (A:Option Addr) (cc:Nat) (xs:List PMem) (p:PMem→Bool) (g:Nat) (lb:Array Value) (eg:∀ args w,(callFunc g args).run Tryz.prog w=.ok (.enter g args) w) (w:World) (hbig:xs.length≤9223372036854775807)
    (h:Row w.heap.size 5 (MemAt w w.heap.size) A xs) (hp:∀ (W:World) (x:PMem) (a:Option Addr) (c:Nat) (a2:Option Addr) (c2:Nat) ,x∈xs→Below w.heap.size w W→Ports W w.heap.size a c a2 c2 x→Calls Tryz.prog g (#[.agg #[.int .i64 x.ma,.int .i64 x.mw,.bool x.mn,.slice a x.mr.length c,.slice a2 x.mx.length c2]]++lb) W fun e w'=>e=.returned (.bool (p x))∧Below W.heap.size W w') :
    Calls Tryz.prog 104 #[.slice A xs.length cc,.func (.func g) #[] lb] w fun e w'=>e=.returned (.bool (xs.any p))∧Below w.heap.size w w':=by
  have H:=Lib.hid (index_memory A cc xs p g lb eg w hbig h hp)
  clear h hp
  go_enter Tryz.func104,Tryz.ntmps104
  go_wp2_with fail
  refine H.out.mono ?_
  rintro e w' ⟨i,rfl,hi,hb⟩
  have HI:=Lib.hid (And.intro hi hb)
  clear hi hb
  go_wp2
  go_ret
  exact ⟨ret_bool HI.out.1,HI.out.2⟩
theorem within_yes (x a b:Int) (w:World) (h:a≤x∧x≤b):Calls Tryz.prog 110 #[.int .i64 x,.int .i64 a,.int .i64 b] w fun e w'=>e=.returned (.bool true)∧w=w':=by
  have h1:=h.1
  have h2:=h.2
  clear h
  go_enter Tryz.func110,Tryz.ntmps110
  go_wp2
  go_ret
  exact ⟨ret_bool (by simp),rfl⟩
theorem within_no (x a b:Int) (w:World) (h:x<a∨b<x):Calls Tryz.prog 110 #[.int .i64 x,.int .i64 a,.int .i64 b] w fun e w'=>e=.returned (.bool false)∧w=w':=by
  by_cases h1:a≤x
  · have h2:decide (x≤b)=false:=by simp;omega
    clear h
    go_enter Tryz.func110,Tryz.ntmps110
    go_wp2
    go_ret
    exact ⟨ret_bool (by first | rfl | (simp;omega)),rfl⟩
  · have h2:decide (a≤x)=false:=by simp;omega
    clear h h1
    go_enter Tryz.func110,Tryz.ntmps110
    go_wp2
    go_ret
    exact ⟨ret_bool (by first | rfl | (simp;omega)),rfl⟩
theorem many_any (x:PMem) (a:Option Addr) (c:Nat) (a2:Option Addr) (c2:Nat) (w:World) :
    Calls Tryz.prog 153 #[.agg #[.int .i64 x.ma,.int .i64 x.mw,.bool x.mn,.slice a x.mr.length c,.slice a2 x.mx.length c2]] w fun e w'=>e=.returned (.bool x.many)∧Below w.heap.size w w':=by
  go_enter Tryz.func153,Tryz.ntmps153
  go_wp2
  all_goals
    go_ret
    refine ⟨ret_bool ?_,(Below.refl _ _).alloc (Nat.le_refl _) _⟩
    unfold PMem.many
    rw [Bool.eq_iff_iff];simp;omega
theorem begins_any (x:PLatch) (w:World) :
    Calls Tryz.prog 107 #[.agg #[.int .i64 x.lv,.int .i64 x.ln,.int .i64 x.li]] w fun e w'=>e=.returned (.bool x.wrong)∧Below w.heap.size w w':=by
  go_enter Tryz.func107,Tryz.ntmps107
  go_wp2
  all_goals
    go_ret
    refine ⟨ret_bool ?_,(Below.refl _ _).alloc (Nat.le_refl _) _⟩
    unfold PLatch.wrong
    rw [Bool.eq_iff_iff];simp;omega
theorem widthR_any (x:PRead) (a:Option Addr) (c:Nat) (m:Int) (g:Nat) (w:World) (hg:g<w.heap.size) (hm:w.cell? ⟨g,0,none⟩=some (.int .i64 m)) :
    Calls Tryz.prog 155 #[.agg #[.int .i64 x.rv,.slice a x.ra.length c],.pointer (some ⟨g,0,none⟩)] w fun e w'=>e=.returned (.bool (x.wide m))∧Below w.heap.size w w':=by
  go_enter Tryz.func155,Tryz.ntmps155
  go_wp2
  go_ret
  refine ⟨ret_bool ?_,(Below.refl _ _).alloc (Nat.le_refl _) _⟩
  unfold PRead.wide
  rw [Bool.eq_iff_iff];simp
theorem widthW_any (x:PWrite) (a:Option Addr) (c:Nat) (a2:Option Addr) (c2:Nat) (m d:Int) (g:Nat) (w:World) (hg:g<w.heap.size) (hm:w.cell? ⟨g,0,none⟩=some (.int .i64 m)) (hd:w.cell? ⟨g,1,none⟩=some (.int .i64 d)) :
    Calls Tryz.prog 156 #[.agg #[.int .i64 x.wo,.slice a x.wa.length c,.slice a2 x.wd.length c2],.pointer (some ⟨g,0,none⟩)] w fun e w'=>e=.returned (.bool (x.wide m d))∧Below w.heap.size w w':=by
  go_enter Tryz.func156,Tryz.ntmps156
  go_wp2
  all_goals
    go_ret
    refine ⟨ret_bool ?_,(Below.refl _ _).alloc (Nat.le_refl _) _⟩
    unfold PWrite.wide
    rw [Bool.eq_iff_iff];simp
    try omega
theorem reads_differ (x:PMem) (a:Option Addr) (c:Nat) (a2:Option Addr) (c2:Nat) (g B:Nat) (w:World) (hB:B≤w.heap.size) (h:Ports w B a c a2 c2 x) (hg:g<w.heap.size) (hm:w.cell? ⟨g,0,none⟩=some (.int .i64 x.ma)) :
    Calls Tryz.prog 157 #[.slice a x.mr.length c,.func (.func 155) #[] #[.pointer (some ⟨g,0,none⟩)]] w
      fun e w'=>e=.returned (.bool (x.mr.any (PRead.wide x.ma)))∧Below w.heap.size w w' :=
  contains_read a c x.mr (PRead.wide x.ma) 155 #[.pointer (some ⟨g,0,none⟩)] (enters_of Tryz.func155 (by kernel_rfl) rfl) w (by have:=h.2.2;omega) (Ports.wider hB h).1
    fun V r a c hr hV hs=>widthR_any r a c x.ma g V (by have:=hV.size;omega) ((hV.cell (p:=⟨g,0,none⟩) hg).trans hm)
theorem writes_differ (x:PMem) (a:Option Addr) (c:Nat) (a2:Option Addr) (c2:Nat) (g B:Nat) (w:World) (hB:B≤w.heap.size) (h:Ports w B a c a2 c2 x) (hg:g<w.heap.size) (hm:w.cell? ⟨g,0,none⟩=some (.int .i64 x.ma)) (hd:w.cell? ⟨g,1,none⟩=some (.int .i64 x.mw)) :
    Calls Tryz.prog 158 #[.slice a2 x.mx.length c2,.func (.func 156) #[] #[.pointer (some ⟨g,0,none⟩)]] w
      fun e w'=>e=.returned (.bool (x.mx.any (PWrite.wide x.ma x.mw)))∧Below w.heap.size w w' :=
  contains_write a2 c2 x.mx (PWrite.wide x.ma x.mw) 156 #[.pointer (some ⟨g,0,none⟩)] (enters_of Tryz.func156 (by kernel_rfl) rfl) w (by have:=h.2.2;omega) (Ports.wider hB h).2.1
    fun V r a c a2 c2 hr hV hs hs2=>widthW_any r a c a2 c2 x.ma x.mw g V (by have:=hV.size;omega) ((hV.cell (p:=⟨g,0,none⟩) hg).trans hm) ((hV.cell (p:=⟨g,1,none⟩) hg).trans hd)
set_option maxHeartbeats 1000000 in
theorem widths_any (x:PMem) (a:Option Addr) (c:Nat) (a2:Option Addr) (c2:Nat) (w:World) (h:Ports w w.heap.size a c a2 c2 x) :
    Calls Tryz.prog 105 #[.agg #[.int .i64 x.ma,.int .i64 x.mw,.bool x.mn,.slice a x.mr.length c,.slice a2 x.mx.length c2]] w fun e w'=>e=.returned (.bool x.wide)∧Below w.heap.size w w':=by
  have hbx:=below_box w #[.int .i64 x.ma,.int .i64 x.mw,.bool x.mn,.slice a x.mr.length c,.slice a2 x.mx.length c2] 54
  have hM:=memBox_new w x a c a2 c2 54
  have hP:=Ports.below hbx (Nat.le_refl _) h
  have hR:=Lib.hid (reads_differ x a c a2 c2 w.heap.size w.heap.size _ (by simp) hP hM.lt hM.m0)
  have hW:=Lib.hid fun (W:World) (hb:Below (w.alloc (.cells #[.int .i64 x.ma,.int .i64 x.mw,.bool x.mn,.slice a x.mr.length c,.slice a2 x.mx.length c2] 54)).heap.size (w.alloc (.cells #[.int .i64 x.ma,.int .i64 x.mw,.bool x.mn,.slice a x.mr.length c,.slice a2 x.mx.length c2] 54)) W) =>
    writes_differ x a c a2 c2 w.heap.size w.heap.size W (by have:=hb.size;simp at this;omega) (Ports.below hb (by simp) hP) (hM.below hb hM.lt).lt (hM.below hb hM.lt).m0 (hM.below hb hM.lt).m1
  have HB:=Lib.hid (And.intro hbx hM)
  clear hbx hM hP h
  by_cases ha:1≤x.ma∧x.ma≤62
  · by_cases hd:1≤x.mw∧x.mw≤64
    · cases hq:x.mr.any (PRead.wide x.ma) with
      | true =>
        rw [hq] at hR
        have HN:=Lib.hid hq
        clear hq
        go_enter Tryz.func105,Tryz.ntmps105
        go_wp2_with (first | (go_at_call 110;refine (within_yes _ _ _ _ (by omega)).mono ?_;rintro e w' ⟨rfl,rfl⟩) | (go_at_call 157;refine hR.out.mono ?_;rintro e w1 ⟨rfl,hb1⟩))
        go_ret
        refine ⟨ret_bool ?_,below_on HB.out.1 hb1⟩
        unfold PMem.wide
        rw [HN.out]
        simp
      | false =>
        rw [hq] at hR
        have HN:=Lib.hid hq
        clear hq
        go_enter Tryz.func105,Tryz.ntmps105
        go_wp2_with (first | (go_at_call 110;refine (within_yes _ _ _ _ (by omega)).mono ?_;rintro e w' ⟨rfl,rfl⟩) | (go_at_call 157;refine hR.out.mono ?_;rintro e w1 ⟨rfl,hb1⟩;obtain ⟨e0,e1,e2,e3,e4,e5⟩:=HB.out.2.below hb1 HB.out.2.lt) | (go_at_call 158;refine (hW.out _ hb1).mono ?_;rintro e w2 ⟨rfl,hb2⟩))
        go_ret
        refine ⟨ret_bool ?_,below_on HB.out.1 (below_on hb1 hb2)⟩
        have hA:=ha.1
        have hB:=ha.2
        have hC:=hd.1
        have hD:=hd.2
        unfold PMem.wide
        rw [HN.out]
        rw [Bool.eq_iff_iff];simp;omega
    · have hd2:x.mw<1∨64<x.mw:=by omega
      have HD:=Lib.hid hd2
      clear hd hd2
      go_enter Tryz.func105,Tryz.ntmps105
      go_wp2_with (first | (go_at_call 110;((with_reducible refine (within_yes x.ma _ _ _ ha).mono ?_);rintro e w' ⟨rfl,rfl⟩)) | (go_at_call 110;((with_reducible refine (within_no x.mw _ _ _ HD.out).mono ?_);rintro e w' ⟨rfl,rfl⟩)))
      go_ret
      refine ⟨ret_bool ?_,HB.out.1⟩
      have:=HD.out
      unfold PMem.wide
      rw [Bool.eq_iff_iff];simp;omega
  · have ha2:x.ma<1∨62<x.ma:=by omega
    have HD:=Lib.hid ha2
    clear ha ha2
    go_enter Tryz.func105,Tryz.ntmps105
    go_wp2_with (go_at_call 110;refine (within_no x.ma _ _ _ HD.out).mono ?_;rintro e w' ⟨rfl,rfl⟩)
    go_ret
    refine ⟨ret_bool ?_,HB.out.1⟩
    have:=HD.out
    unfold PMem.wide
    rw [Bool.eq_iff_iff];simp;omega
set_option maxHeartbeats 1000000 in
theorem above_any (n:PNet) (S:NetS) (w:World) (h:NetAt w w.heap.size S n) (hl:n.outs.length≤1000000∧n.bads.length≤1000000∧n.cons.length≤1000000) :
    Calls Tryz.prog 103 #[.agg #[.int .i64 n.vars,.slice S.i n.inputs.length S.ic,.slice S.l n.latches.length S.lc,.slice S.o n.outs.length S.oc,.slice S.b n.bads.length S.bc,.slice S.c n.cons.length S.cc,.slice S.m n.mems.length S.mc,.slice S.a n.ands.length S.ac]] w fun e w'=>e=.returned (.bool n.lim)∧Below w.heap.size w w':=by
  have hbx:=below_box w #[.int .i64 n.vars,.slice S.i n.inputs.length S.ic,.slice S.l n.latches.length S.lc,.slice S.o n.outs.length S.oc,.slice S.b n.bads.length S.bc,.slice S.c n.cons.length S.cc,.slice S.m n.mems.length S.mc,.slice S.a n.ands.length S.ac] 27
  have hM:=netBox_new w n S 27
  have hN:=NetAt.later h hbx (by simp)
  have hq:=contains_memory S.m S.mc n.mems PMem.many 153 #[] (enters_of Tryz.func153 (by kernel_rfl) rfl) _ (by have:=h.caps;have:=h.room;omega) hN.mems
    fun V x a c a2 c2 hx hV hP=>many_any x a c a2 c2 V
  obtain ⟨hl1,hl2,hl3⟩:=hl
  have HB:=Lib.hid (And.intro hbx hM)
  clear hbx hM hN h
  by_cases hv:0≤n.vars∧n.vars≤2000
  · cases hm:n.mems.any PMem.many
    all_goals
      rw [hm] at hq
      have HQ:=Lib.hid hq
      have HM:=Lib.hid hm
      clear hm hq
      go_enter Tryz.func103,Tryz.ntmps103
      go_wp2_with (first | (go_at_call 110;refine (within_yes _ _ _ _ (by omega)).mono ?_;rintro e w' ⟨rfl,rfl⟩) | (go_at_call 104;refine HQ.out.mono ?_;rintro e w1 ⟨rfl,hb1⟩;obtain ⟨e0,e1,e2,e3,e4,e5,e6,e7,e8⟩:=HB.out.2.below hb1 HB.out.2.lt))
      all_goals
        go_ret
        refine ⟨ret_bool ?_,by first | exact HB.out.1 | exact below_on HB.out.1 hb1⟩
        have hA:=hv.1
        have hB:=hv.2
        unfold PNet.lim
        rw [HM.out]
        rw [Bool.eq_iff_iff];simp;try omega
  · have hv2:n.vars<0∨2000<n.vars:=by omega
    have HD:=Lib.hid hv2
    clear hv hv2
    go_enter Tryz.func103,Tryz.ntmps103
    go_wp2_with (go_at_call 110;refine (within_no n.vars _ _ _ HD.out).mono ?_;rintro e w' ⟨rfl,rfl⟩)
    go_ret
    refine ⟨ret_bool ?_,HB.out.1⟩
    have:=HD.out
    unfold PNet.lim
    rw [Bool.eq_iff_iff];simp;omega
def Own (B:Nat) (w0 w:World) (v:Value) (xs:List Int):Prop :=
  w.ownsRow B 3 1 v xs.length (xs.map (Value.int .i64))∧Below B w0 w∧B≤w.heap.size
def Left (w:World) (xs:List Int) (e:Ending) (w':World):Prop:=∃ v,e=.returned v∧Own w.heap.size w w' v xs
theorem Own.nil (w:World) (B:Nat) (hB:B≤w.heap.size):Own B w w (.slice none 0 0) []:=⟨World.ownsRow_nil _ _ _ _,Below.refl _ _,hB⟩
theorem Own.alloc {B:Nat} {w0 w:World} {v:Value} {xs:List Int} (h:Own B w0 w v xs) (o:Obj):Own B w0 (w.alloc o) v xs:=⟨h.1.alloc o,h.2.1.alloc h.2.2 o,by have:=h.2.2;simp;omega⟩
theorem Own.drew {B:Nat} {w0 w:World} {v:Value} {xs:List Int} (h:Own B w0 w v xs):Own B w0 w.drew v xs:=⟨h.1.drew,h.2.1.drew,h.2.2⟩
theorem Own.lt {B g:Nat} {w0 w:World} {v:Value} {xs:List Int} (h:Own B w0 w v xs) (hg:v.ownBlock=some g):B≤g∧g<w.heap.size:=h.1.lt g hg
theorem Own.down {B B':Nat} {w0 w0' w:World} {v:Value} {xs:List Int} (h:Own B w0 w v xs) (hb:Below B' w0' w0) (hB:B'≤B):Own B' w0' w v xs:=⟨h.1.mono hB,hb.trans (h.2.1.mono hB),by have:=h.2.2;omega⟩
theorem Own.call {B:Nat} {w0 w w':World} {v:Value} {xs:List Int} (h:Own B w0 w v xs) (hb:Below w.heap.size w w'):Own B w0 w' v xs:=by
  refine ⟨h.1.kept (row:=none) ⟨hb.os,hb.tape,hb.output,hb.size,fun k hk _=>hb.block k hk⟩ ?_,h.2.1.trans (hb.mono h.2.2),Nat.le_trans h.2.2 hb.size⟩
  cases hv:v.ownBlock with
  | none=>exact .inl rfl
  | some k=>exact .inr (by simp)
theorem Own.form {B:Nat} {w0 w:World} {v:Value} {xs:List Int} (h:Own B w0 w v xs) :
    ∃ A c,v=.slice A xs.length c∧Src w w.heap.size A xs∧xs.length≤c∧c≤9223372036854775807:=own_form h.1
theorem own_cast {B:Nat} {w0 w:World} {v:Value} {xs ys:List Int} (h:Own B w0 w v xs) (e:xs=ys):Own B w0 w v ys:=e ▸ h
theorem Src.own {B:Nat} {w0 w:World} {v:Value} {xs ys:List Int} {A:Option Addr} (h:Src w0 B A ys) (hO:Own B w0 w v xs):Src w w.heap.size A ys:=(h.below hO.2.1 (Nat.le_refl _)).wider hO.2.2
def Went (w:World) (v v':Value) (w':World):Prop:=w.grownBy w' v.ownBlock∧(v'.ownBlock=v.ownBlock∨v'.ownBlock=some w.heap.size)
theorem Went.other {w w':World} {v v':Value} {k:Nat} (h:Went w v v' w') (hk:k<w.heap.size) (hne:v.ownBlock≠some k):w'.heap[k]?=w.heap[k]?∧v'.ownBlock≠some k∧k<w'.heap.size:=by
  refine ⟨h.1.block k hk (fun e=>hne e.symm),fun e=>?_,Nat.lt_of_lt_of_le hk h.1.size⟩
  rcases h.2 with h2 | h2
  · exact hne (h2.symm.trans e)
  · rw [h2] at e;injection e with e;omega
theorem Went.size {w w':World} {v v':Value} (h:Went w v v' w'):w.heap.size≤w'.heap.size:=h.1.size
def Held (w:World) (v:Value) (g:Nat) (cs:Array Value) (t:TypeId):Prop:=w.heap[g]?=some (.cells cs t (0,0))∧v.ownBlock≠some g
theorem Held.new {B:Nat} {w0 w:World} {v:Value} {xs:List Int} (h:Own B w0 w v xs) (cs:Array Value) (t:TypeId):Held (w.alloc (.cells cs t)) v w.heap.size cs t :=
  ⟨heap_alloc_new w _,fun e=>by have:=(h.lt e).2;omega⟩
theorem Held.alloc {w:World} {v:Value} {g:Nat} {cs:Array Value} {t:TypeId} (h:Held w v g cs t) (o:Obj):Held (w.alloc o) v g cs t :=
  ⟨(Below.heap_alloc w o g (lt_of_row h.1)).trans h.1,h.2⟩
theorem Held.went {w w':World} {v v':Value} {g:Nat} {cs:Array Value} {t:TypeId} (h:Held w v g cs t) (hW:Went w v v' w'):Held w' v' g cs t:=by
  obtain ⟨h1,h2,_⟩:=hW.other (lt_of_row h.1) h.2
  exact ⟨h1.trans h.1,h2⟩
theorem Held.cell {w:World} {v u:Value} {g j:Nat} {cs:Array Value} {t:TypeId} (h:Held w v g cs t) (hj:cs[j]?=some u):w.cell? ⟨g,j,none⟩=some u:=by
  rw [cell_of_row w g j cs t (0,0) h.1]
  exact hj
variable {ops:Array Oper} {rest:List Oper} {o:Oper} {act:Act} {Q:Exit→Act→World→Prop}
theorem wpl_app {w w0:World} {B:Nat} {v:Value} {xs:List Int} (hgd:o.guard=none) (s x:Operand) (ho:o.op=.call { callee:=.builtin .append,args:=#[s,x],argTypes:=#[22,22] })
    (hs:act.eval s=v) (hown:Own B w0 w v xs) {A:Option Addr} {m c:Nat} {ys:List Int} (hx:act.eval x=.slice A m c) (hm:ys.length=m) (hsrc:Src w w.heap.size A ys) (hb1:xs.length≤1000000) (hb2:m≤1000000)
    (h:∀ v' w',Own B w0 w' v' (xs++ys)→Went w v v' w'→wpList Tryz.prog ops Q rest (act.put o.dst v') w'):wpList Tryz.prog ops Q (o::rest) act w:=by
  obtain ⟨i0,hi,hz0,hz1,hz2⟩:=info_parts int_info
  refine wpList_plain hgd fun K hK=>?_
  obtain ⟨v',w',hr,h2,h3,h4⟩:=run_app (P:=Tryz.prog) w B 22 o.type 3 i0 Tryz.underlying22 hi hz0 hz1 hz2 v xs.length xs hown.1 w.heap.size A m c ys hm hsrc (by omega) hown.2.2
  unfold Oper.wp execOp
  simp only [ho,resolve,invoke,builtin,Sem.run_bind,Sem.run_pure,Result.andThen_ok,List.map_toArray,List.map_cons,List.map_nil,hs,hx,hr]
  refine hK _ _ (h v' w' ⟨by rw [List.length_append,hm];exact h2,hown.2.1.grown h3 hown.2.2 (fun k hk=>(hown.1.lt k hk).1),Nat.le_trans hown.2.2 h3.size⟩ ⟨h3,h4⟩)
theorem step_own {w w0:World} {B:Nat} {v:Value} {xs:List Int} {K:Act→World→Prop} {E:Prop} (hgd:o.guard=none) (s x:Operand) (ho:o.op=.call { callee:=.builtin .append,args:=#[s,x],argTypes:=#[22,22] })
    (hs:act.eval s=v) (hown:Own B w0 w v xs) {A:Option Addr} {m c:Nat} {ys:List Int} (hx:act.eval x=.slice A m c) (hm:ys.length=m) (hsrc:Src w w.heap.size A ys) (hb1:xs.length≤1000000) (hb2:m≤1000000)
    (h:∀ v' w',Own B w0 w' v' (xs++ys)→Went w v v' w'→K (act.put o.dst v') w'):if Region.wanted o (yielded ops act.tmps)=true then Oper.wp Tryz.prog o act w K Q else E:=by
  obtain ⟨i0,hi,hz0,hz1,hz2⟩:=info_parts int_info
  have hw:Region.wanted o (yielded ops act.tmps)=true:=by simp [Region.wanted,hgd]
  rw [if_pos hw]
  obtain ⟨v',w',hr,h2,h3,h4⟩:=run_app (P:=Tryz.prog) w B 22 o.type 3 i0 Tryz.underlying22 hi hz0 hz1 hz2 v xs.length xs hown.1 w.heap.size A m c ys hm hsrc (by omega) hown.2.2
  unfold Oper.wp execOp
  simp only [ho,resolve,invoke,builtin,Sem.run_bind,Sem.run_pure,Result.andThen_ok,List.map_toArray,List.map_cons,List.map_nil,hs,hx,hr]
  exact h v' w' ⟨by rw [List.length_append,hm];exact h2,hown.2.1.grown h3 hown.2.2 (fun k hk=>(hown.1.lt k hk).1),Nat.le_trans hown.2.2 h3.size⟩ ⟨h3,h4⟩
theorem wpl_one {w w0:World} {B:Nat} {v:Value} {xs:List Int} {y:Int} (hgd:o.guard=none) (s x:Operand) (ho:o.op=.call { callee:=.builtin .append,args:=#[s,x],argTypes:=#[22,22] })
    (hs:act.eval s=v) (hown:Own B w0 w v xs) (hx:act.eval x=.slice (some ⟨w.heap.size,0,none⟩) 1 1) (hb1:xs.length≤1000000)
    (h:∀ v' w',Own B w0 w' v' (xs++[y])→Went (w.alloc (.cells #[.int .i64 y] 3)) v v' w'→wpList Tryz.prog ops Q rest (act.put o.dst v') w') :
    wpList Tryz.prog ops Q (o::rest) act (w.alloc (.cells #[.int .i64 y] 3)) :=
  wpl_app hgd s x ho hs (hown.alloc _) hx rfl (Src.one (t:=3) (fr:=(0,0)) (heap_alloc_new w _) (by simp)) hb1 (by omega) h
theorem wpl_one_at {w w0:World} {B g:Nat} {v:Value} {xs:List Int} {y:Int} (hgd:o.guard=none) (s x:Operand) (ho:o.op=.call { callee:=.builtin .append,args:=#[s,x],argTypes:=#[22,22] })
    (hs:act.eval s=v) (hown:Own B w0 w v xs) (hx:act.eval x=.slice (some ⟨g,0,none⟩) 1 1) (hg:g=w.heap.size) (hb1:xs.length≤1000000)
    (h:∀ v' w',Own B w0 w' v' (xs++[y])→Went (w.alloc (.cells #[.int .i64 y] 3)) v v' w'→wpList Tryz.prog ops Q rest (act.put o.dst v') w') :
    wpList Tryz.prog ops Q (o::rest) act (w.alloc (.cells #[.int .i64 y] 3)) :=
  wpl_one hgd s x ho hs hown (hg ▸ hx) hb1 h
theorem wordBits_any (x:PMem) (a:Option Addr) (c:Nat) (a2:Option Addr) (c2:Nat) (w:World) (h:0≤x.mw∧x.mw≤64) :
    Calls Tryz.prog 201 #[.agg #[.int .i64 x.ma,.int .i64 x.mw,.bool x.mn,.slice a x.mr.length c,.slice a2 x.mx.length c2]] w fun e w'=>e=.returned (.int .i64 x.mw)∧Below w.heap.size w w':=by
  obtain ⟨h1,h2⟩:=h
  go_enter Tryz.func201,Tryz.ntmps201
  go_wp2
  go_ret
  exact ⟨ret_int (by omega),below_box _ _ _⟩
set_option maxHeartbeats 1000000 in
theorem data_any (x:PMem) (a:Option Addr) (c:Nat) (a2:Option Addr) (c2:Nat) (k:Nat) (r:PRead) (w:World) (h:Ports w w.heap.size a c a2 c2 x) (hk:x.mr[k]?=some r) (hn:x.mr.length≤1000000)
    (hw:0≤x.mw∧x.mw≤64) (hv:-2305843009213693952≤r.rv∧r.rv≤2305843009213693952) :
    Calls Tryz.prog 145 #[.agg #[.int .i64 x.ma,.int .i64 x.mw,.bool x.mn,.slice a x.mr.length c,.slice a2 x.mx.length c2],.int .i64 (k:Int)] w (Left w (dataL r.rv x.mw)):=by
  obtain ⟨hv1,hv2⟩:=hv
  have hbx:=below_box w #[.int .i64 x.ma,.int .i64 x.mw,.bool x.mn,.slice a x.mr.length c,.slice a2 x.mx.length c2] 54
  have hM:=memBox_new w x a c a2 c2 54
  have hP:=Ports.below hbx (Nat.le_refl _) h
  have hlt:=lt_of_some hk
  obtain ⟨b,o,rfl,hbB,hcell⟩:=hP.1.at hk
  obtain ⟨ra,rc,r0,r1,_⟩:=hcell k r hk
  have hwb:=wordBits_any x (some ⟨b,o,none⟩) c a2 c2 (w.alloc (.cells #[.int .i64 x.ma,.int .i64 x.mw,.bool x.mn,.slice (some ⟨b,o,none⟩) x.mr.length c,.slice a2 x.mx.length c2] 54)) hw
  obtain ⟨hw1,hw2⟩:=hw
  have HB:=Lib.hid (And.intro hbx hM)
  have HWB:=Lib.hid hwb
  have hkI:(0:Int)≤(k:Int)∧(k:Int)≤(x.mr.length:Int) - 1:=by omega
  have hkl:(k:Int)<(x.mr.length:Int):=by omega
  clear hbx hM hP h hcell hk hwb
  go_enter Tryz.func145,Tryz.ntmps145
  go_wp2_with (first | (go_at_call 110;refine (within_yes _ _ _ _ hkI).mono ?_;rintro e w' ⟨rfl,rfl⟩) | (go_at_call 201;refine HWB.out.mono ?_;rintro e w2 ⟨rfl,hb2⟩))
  have HB2:=Lib.hid (below_on HB.out.1 hb2)
  clear hb2 hkI hkl r0 r1
  go_loopg [6,23] x.mw.toNat (fun m s6 s23 wx=>∃ j:Nat,j+m=x.mw.toNat∧s23=.int .i64 j∧Own w2.heap.size w2 wx s6 (dataL r.rv (j:Int)))
  case atStart=>exact ⟨0,by omega,rfl,by rw [dataL_nil _ _ (by omega)];exact Own.nil _ _ (Nat.le_refl _)⟩
  case round =>
    obtain ⟨j,hj,rfl,hO⟩:=hrel
    generalize gk=m at *
    by_cases hjl:(j:Int)<x.mw
    · have hj1:decide (9223372036854775807 - (j:Int)<r.rv)=false:=by simp;omega
      have hj0:(j:Int)≤1000:=by omega
      have hl:(dataL r.rv (j:Int)).length≤1000000:=by rw [dataL_len];omega
      have HS:=Lib.hid (dataL_snoc r.rv j)
      go_wp2_with (at_builtin;refine wpl_one rfl _ _ rfl rfl hO rfl hl ?_;intro v' w' hO2 hW)
      go_roundg (m - 1)
      case measure=>omega
      case rel=>exact ⟨j+1,by omega,by first | rfl | simp,by rw [HS.out];exact hO2⟩
    · have HJ:=Lib.hid (show (j:Int)=x.mw by omega)
      have hjn:¬ ((j:Int)<x.mw):=hjl
      go_wp2
      go_ret
      exact ⟨_,rfl,own_cast (hO.down HB2.out HB2.out.size) (by rw [HJ.out])⟩
set_option maxHeartbeats 1000000 in
theorem rdata_any (x:PMem) (a:Option Addr) (c:Nat) (a2:Option Addr) (c2:Nat) (k:Nat) (r:PRead) (w:World) (h:Ports w w.heap.size a c a2 c2 x) (hk:x.mr[k]?=some r) (hn:x.mr.length≤1000000)
    (hw:0≤x.mw∧x.mw≤1000) (hv:-2305843009213693952≤r.rv∧r.rv≤2305843009213693952) :
    Calls Tryz.prog 99 #[.agg #[.int .i64 x.ma,.int .i64 x.mw,.bool x.mn,.slice a x.mr.length c,.slice a2 x.mx.length c2],.int .i64 (k:Int)] w (Left w (dataL r.rv x.mw)):=by
  obtain ⟨hv1,hv2⟩:=hv
  have hbx:=below_box w #[.int .i64 x.ma,.int .i64 x.mw,.bool x.mn,.slice a x.mr.length c,.slice a2 x.mx.length c2] 54
  have hM:=memBox_new w x a c a2 c2 54
  have hP:=Ports.below hbx (Nat.le_refl _) h
  have hlt:=lt_of_some hk
  have hkI:(k:Int)<(x.mr.length:Int):=by omega
  have hk1:decide (x.mr.length≤k)=false:=by simp;omega
  have hk2:decide ((k:Int)<0)=false:=by simp
  obtain ⟨hw1,hw2⟩:=hw
  go_enter Tryz.func99,Tryz.ntmps99
  go_wp2
  generalize w.alloc (.cells #[.int .i64 x.ma,.int .i64 x.mw,.bool x.mn,.slice a x.mr.length c,.slice a2 x.mx.length c2] 54)=w2 at hbx hM hP ⊢
  have HB2:=Lib.hid (And.intro hbx (And.intro hM (And.intro hP hk)))
  clear hbx hM hP h hk
  go_loopg [5,6] x.mw.toNat (fun m s5 s6 wx=>∃ j:Nat,j+m=x.mw.toNat∧s6=.int .i64 j∧Own w2.heap.size w2 wx s5 (dataL r.rv (j:Int)))
  case atStart=>exact ⟨0,by omega,rfl,by rw [dataL_nil _ _ (by omega)];exact Own.nil _ _ (Nat.le_refl _)⟩
  case round =>
    obtain ⟨j,hj,rfl,hO⟩:=hrel
    generalize gk=m at *
    obtain ⟨e0,e1,e2,e3,e4,e5⟩:=HB2.out.2.1.below hO.2.1 HB2.out.2.1.lt
    have hP:=Ports.below hO.2.1 (by have:=HB2.out.1.size;omega) HB2.out.2.2.1
    obtain ⟨b,o,hS,hbB,hcell⟩:=hP.1.at HB2.out.2.2.2
    obtain ⟨ra,rc,r0,r1,_⟩:=hcell k r HB2.out.2.2.2
    rw [hS] at e3
    clear hS hcell hP
    by_cases hjl:(j:Int)<x.mw
    · have hj0:(j:Int)≤1000:=by omega
      have hl:(dataL r.rv (j:Int)).length≤1000000:=by rw [dataL_len];omega
      have HS:=Lib.hid (dataL_snoc r.rv j)
      go_wp2_with (at_builtin;refine wpl_one rfl _ _ rfl rfl hO rfl hl ?_;intro v' w' hO2 hW)
      go_roundg (m - 1)
      case measure=>omega
      case rel=>exact ⟨j+1,by omega,by first | rfl | simp,by rw [HS.out];exact hO2⟩
    · have HJ:=Lib.hid (show (j:Int)=x.mw by omega)
      have hjn:¬ ((j:Int)<x.mw):=hjl
      go_wp2
      go_ret
      exact ⟨_,rfl,own_cast (hO.down HB2.out.1 HB2.out.1.size) (by rw [HJ.out])⟩
theorem below_drewN {B:Nat} {w w':World} (h:Below B w w') (n:Nat):Below B w (w'.drewN n):=⟨h.os,h.tape,h.output,h.size,h.block⟩
set_option maxRecDepth 100000 in
set_option maxHeartbeats 1000000 in
theorem rlimits_any (n:PNet) (S:NetS) (w:World) (h:NetAt w w.heap.size S n) (hl:n.outs.length≤1000000∧n.bads.length≤1000000∧n.cons.length≤1000000∧n.mems.length≤1000000) :
    Calls Tryz.prog 53 #[.agg #[.int .i64 n.vars,.slice S.i n.inputs.length S.ic,.slice S.l n.latches.length S.lc,.slice S.o n.outs.length S.oc,.slice S.b n.bads.length S.bc,.slice S.c n.cons.length S.cc,.slice S.m n.mems.length S.mc,.slice S.a n.ands.length S.ac]] w fun e w'=>e=.returned (.bool n.lim)∧Below w.heap.size w w':=by
  obtain ⟨hl1,hl2,hl3,hl4⟩:=hl
  by_cases hA:0≤n.vars∧n.vars≤2000∧n.outs.length+n.bads.length+n.cons.length≤1000∧n.mems.length≤4
  · obtain ⟨hA1,hA2,hA3,hA4⟩:=hA
    have hbx:=below_box w #[.int .i64 n.vars,.slice S.i n.inputs.length S.ic,.slice S.l n.latches.length S.lc,.slice S.o n.outs.length S.oc,.slice S.b n.bads.length S.bc,.slice S.c n.cons.length S.cc,.slice S.m n.mems.length S.mc,.slice S.a n.ands.length S.ac] 27
    have hM:=netBox_new w n S 27
    have hN:=NetAt.below hbx (Nat.le_refl _) h
    have p1:decide (n.vars<0)=false:=by simp;omega
    have p2:decide (2000<n.vars)=false:=by simp;omega
    have p3:decide (1000<(n.outs.length:Int)+(n.bads.length:Int)+(n.cons.length:Int))=false:=by simp;omega
    have p4:decide (4<(n.mems.length:Int))=false:=by simp;omega
    go_enter Tryz.func53,Tryz.ntmps53
    go_wp2
    clear p1 p2 p3 p4
    generalize w.alloc (.cells #[.int .i64 n.vars,.slice S.i n.inputs.length S.ic,.slice S.l n.latches.length S.lc,.slice S.o n.outs.length S.oc,.slice S.b n.bads.length S.bc,.slice S.c n.cons.length S.cc,.slice S.m n.mems.length S.mc,.slice S.a n.ands.length S.ac] 27)=w2 at hbx hM hN ⊢
    have HB:=Lib.hid (And.intro hbx hN)
    obtain ⟨e0,e1,e2,e3,e4,e5,e6,e7,e8⟩:=hM
    clear hbx hN h
    go_loopg [3] n.mems.length (fun m s3 wx=>∃ k:Nat,k+m=n.mems.length∧s3=.int .i64 k∧Aside ((n.mems.take k).any PMem.many=false)∧w2=wx)
    case atStart=>exact ⟨0,by omega,rfl,by simp [Aside],rfl⟩
    case round =>
      obtain ⟨k,hk,rfl,HI,rfl⟩:=hrel
      generalize gk=m at *
      by_cases hlt:k<n.mems.length
      · obtain ⟨x,hx⟩:=some_of_lt hlt
        have HX:=Lib.hid hx
        clear hx
        have hltI:(k:Int)<(n.mems.length:Int):=by omega
        obtain ⟨b,o,hS,hbg,hcell⟩:=HB.out.2.mems.at HX.out
        obtain ⟨a1,c1,a2,c2,m0,m1,m2,m3,m4,hP⟩:=hcell k x HX.out
        rw [hS] at e6
        clear hS hcell hP
        by_cases hq:x.mr.length≤4∧x.mx.length≤4
        · have q1:decide (4<(x.mr.length:Int))=false:=by simp;omega
          have q2:decide (4<(x.mx.length:Int))=false:=by simp;omega
          have hno:x.many=false:=by unfold PMem.many;simp;omega
          have HN:=Lib.hid (any_take HX.out HI.out hno)
          clear hno hq
          go_wp2
          go_roundg (m - 1)
          case measure=>omega
          case rel=>exact ⟨k+1,by omega,by first | rfl | simp,HN.out,rfl⟩
        · have hno:n.lim=true:=by
            unfold PNet.lim
            rw [any_yes HX.out (by unfold PMem.many;simp;omega)]
            simp
          have HN:=Lib.hid (And.intro hno hq)
          clear hno hq
          go_wp2
          rotate_left
          · have:=HN.out.2
            omega
          all_goals
            go_ret
            exact ⟨ret_bool HN.out.1.symm,HB.out.1⟩
      · have hltn:¬ ((k:Int)<(n.mems.length:Int)):=by omega
        have HN:=Lib.hid (any_done hlt HI.out)
        clear HI
        go_wp2
        all_goals
          go_ret
          refine ⟨ret_bool ?_,HB.out.1⟩
          unfold PNet.lim
          rw [HN.out]
          rw [Bool.eq_iff_iff];simp;omega
  · have hno:n.lim=true:=by
      unfold PNet.lim
      simp
      omega
    have HN:=Lib.hid (And.intro hno hA)
    clear hno hA
    go_enter Tryz.func53,Tryz.ntmps53
    go_wp2
    rotate_left
    · have:=HN.out.2
      omega
    all_goals
      go_ret
      exact ⟨ret_bool HN.out.1.symm,below_box _ _ _⟩
set_option maxHeartbeats 1000000 in
theorem rwide_any (x:PMem) (a:Option Addr) (c:Nat) (a2:Option Addr) (c2:Nat) (w:World) (h:Ports w w.heap.size a c a2 c2 x) (hl:x.mr.length≤1000000∧x.mx.length≤1000000) :
    Calls Tryz.prog 54 #[.agg #[.int .i64 x.ma,.int .i64 x.mw,.bool x.mn,.slice a x.mr.length c,.slice a2 x.mx.length c2]] w fun e w'=>e=.returned (.bool x.wide)∧Below w.heap.size w w':=by
  obtain ⟨hl1,hl2⟩:=hl
  by_cases hA:1≤x.ma∧x.ma≤62∧1≤x.mw∧x.mw≤64
  · have HA:=Lib.hid hA
    obtain ⟨hA1,hA2,hA3,hA4⟩:=hA
    have hbx:=below_box w #[.int .i64 x.ma,.int .i64 x.mw,.bool x.mn,.slice a x.mr.length c,.slice a2 x.mx.length c2] 54
    have hM:=memBox_new w x a c a2 c2 54
    have hP:=Ports.below hbx (Nat.le_refl _) h
    have p1:decide (x.ma<1)=false:=by simp;omega
    have p2:decide (62<x.ma)=false:=by simp;omega
    have p3:decide (x.mw<1)=false:=by simp;omega
    have p4:decide (64<x.mw)=false:=by simp;omega
    go_enter Tryz.func54,Tryz.ntmps54
    go_wp2
    clear p1 p2 p3 p4
    generalize w.alloc (.cells #[.int .i64 x.ma,.int .i64 x.mw,.bool x.mn,.slice a x.mr.length c,.slice a2 x.mx.length c2] 54)=w2 at hbx hM hP ⊢
    have HB:=Lib.hid (And.intro hbx (And.intro hP hM))
    clear hbx hP h hM
    go_loopg [3] x.mr.length (fun m s3 wx=>∃ k q:Nat,k+m=x.mr.length∧s3=.int .i64 k∧Aside ((x.mr.take k).any (PRead.wide x.ma)=false)∧wx=w2.drewN q)
    case atStart=>exact ⟨0,0,by omega,rfl,by simp [Aside],rfl⟩
    case round =>
      obtain ⟨k,q,hk,rfl,HI,rfl⟩:=hrel
      generalize gk=m at *
      obtain ⟨e0,e1,e2,e3,e4,e5⟩:=HB.out.2.2
      by_cases hlt:k<x.mr.length
      · obtain ⟨r,hr⟩:=some_of_lt hlt
        have HX:=Lib.hid hr
        clear hr
        have hltI:(k:Int)<(x.mr.length:Int):=by omega
        obtain ⟨b,o,hS,hbg,hcell⟩:=HB.out.2.1.1.at HX.out
        obtain ⟨ra,rc,m0,m1,hsrc,hcap,_⟩:=hcell k r HX.out
        rw [hS] at e3
        clear hS hcell hsrc hcap
        have hk0:(0:Int)≤(k:Int):=by omega
        by_cases hq:(r.ra.length:Int)=x.ma
        · have q1:((r.ra.length:Int) != x.ma)=false:=by rw [bne_eq_false_iff_eq];exact hq
          have HN:=Lib.hid (any_take HX.out HI.out (show PRead.wide x.ma r=false by unfold PRead.wide;simp [hq]))
          clear hq
          go_wp2
          go_quiet (fail)
          go_wp2
          go_roundg (m - 1)
          case measure=>omega
          case rel=>exact ⟨k+1,_,by omega,by first | rfl | simp,HN.out,rfl⟩
        · have q1:((r.ra.length:Int) != x.ma)=true:=by rw [bne_iff_ne];exact hq
          have hno:x.wide=true:=by
            unfold PMem.wide
            rw [any_yes HX.out (show PRead.wide x.ma r=true by unfold PRead.wide;simp [hq])]
            simp
          have HN:=Lib.hid hno
          clear hq hno
          go_wp2
          go_quiet (fail)
          go_wp2
          go_ret
          exact ⟨ret_bool HN.out.symm,by repeat (first | exact HB.out.1 | refine below_drewN ?_ _)⟩
      · have hltn:¬ ((k:Int)<(x.mr.length:Int)):=by omega
        have HR:=Lib.hid (any_done hlt HI.out)
        clear HI
        go_wp2
        go_loopg [4] x.mx.length (fun m s4 wx=>∃ i p:Nat,i+m=x.mx.length∧s4=.int .i64 i∧Aside ((x.mx.take i).any (PWrite.wide x.ma x.mw)=false)∧wx=w2.drewN p)
        case atStart=>exact ⟨0,q,by omega,rfl,by simp [Aside],rfl⟩
        case round =>
          obtain ⟨i,p,hi,rfl,HJ,rfl⟩:=hrel
          generalize gk=m2 at *
          by_cases hil:i<x.mx.length
          · obtain ⟨r,hr⟩:=some_of_lt hil
            have HX:=Lib.hid hr
            clear hr
            have hltI:(i:Int)<(x.mx.length:Int):=by omega
            obtain ⟨b,o,hS,hbg,hcell⟩:=HB.out.2.1.2.1.at HX.out
            obtain ⟨wa,wc,wa2,wc2,m0,m1,m3,hs1,hs2,hc1,hc2,hc3,hc4⟩:=hcell i r HX.out
            rw [hS] at e4
            clear hS hcell hs1 hs2 hc1 hc2 hc3 hc4
            have hi0:(0:Int)≤(i:Int):=by omega
            by_cases hq:(r.wa.length:Int)=x.ma
            · have q1:((r.wa.length:Int) != x.ma)=false:=by rw [bne_eq_false_iff_eq];exact hq
              by_cases hd:(r.wd.length:Int)=x.mw
              · have q2:((r.wd.length:Int) != x.mw)=false:=by rw [bne_eq_false_iff_eq];exact hd
                have HN:=Lib.hid (any_take HX.out HJ.out (show PWrite.wide x.ma x.mw r=false by unfold PWrite.wide;simp [hq,hd]))
                clear hq hd
                go_wp2
                go_quiet (fail)
                go_wp2
                go_roundg (m2 - 1)
                case measure=>omega
                case rel=>exact ⟨i+1,_,by omega,by first | rfl | simp,HN.out,rfl⟩
              · have q2:((r.wd.length:Int) != x.mw)=true:=by rw [bne_iff_ne];exact hd
                have hno:x.wide=true:=by
                  unfold PMem.wide
                  rw [any_yes HX.out (show PWrite.wide x.ma x.mw r=true by unfold PWrite.wide;simp [hd])]
                  simp
                have HN:=Lib.hid hno
                clear hq hd hno
                go_wp2
                go_quiet (fail)
                go_wp2
                go_ret
                exact ⟨ret_bool HN.out.symm,by repeat (first | exact HB.out.1 | refine below_drewN ?_ _)⟩
            · have q1:((r.wa.length:Int) != x.ma)=true:=by rw [bne_iff_ne];exact hq
              have hno:x.wide=true:=by
                unfold PMem.wide
                rw [any_yes HX.out (show PWrite.wide x.ma x.mw r=true by unfold PWrite.wide;simp [hq])]
                simp
              have HN:=Lib.hid hno
              clear hq hno
              go_wp2
              go_quiet (fail)
              go_wp2
              go_ret
              exact ⟨ret_bool HN.out.symm,by repeat (first | exact HB.out.1 | refine below_drewN ?_ _)⟩
          · have hiln:¬ ((i:Int)<(x.mx.length:Int)):=by omega
            have HW:=Lib.hid (any_done hil HJ.out)
            clear HJ
            go_wp2
            go_ret
            refine ⟨ret_bool ?_,by repeat (first | exact HB.out.1 | refine below_drewN ?_ _)⟩
            have hA1:=HA.out.1
            have hA2:=HA.out.2.1
            have hA3:=HA.out.2.2.1
            have hA4:=HA.out.2.2.2
            unfold PMem.wide
            rw [HR.out,HW.out]
            simp;omega
  · have hno:x.wide=true:=by
      unfold PMem.wide
      simp
      omega
    have HN:=Lib.hid (And.intro hno hA)
    clear hno hA
    go_enter Tryz.func54,Tryz.ntmps54
    go_wp2
    rotate_left
    · have:=HN.out.2
      omega
    all_goals
      go_ret
      exact ⟨ret_bool HN.out.1.symm,below_box _ _ _⟩
def PMem.told (m:PMem):Prop:=0≤m.mw∧m.mw≤64∧∀ r∈m.mr,-2305843009213693952≤r.rv∧r.rv≤2305843009213693952
structure PNet.modest (n:PNet):Prop where
  inputs:n.inputs.length≤1000000
  latches:n.latches.length≤1000000
  outs:n.outs.length≤1000000
  bads:n.bads.length≤1000000
  cons:n.cons.length≤1000000
  mems:n.mems.length≤1000000
  ands:n.ands.length≤1000000
  ports:∀ m∈n.mems,m.mr.length≤1000000∧m.mx.length≤1000000
theorem len_of {L T D:List Int} (h:L++T=D):L.length≤D.length:=by
  have:=congrArg List.length h
  simp at this
  omega
theorem Own.empty (w:World) (B:Nat) (hB:B≤w.heap.size) (g:Nat) (hg:g=w.heap.size):Own B w (w.alloc (.cells #[] 3)) (.slice (some ⟨g,0,none⟩) 0 0) []:=by
  subst hg
  exact ⟨World.ownsRow_made w #[] 0 hB (Nat.zero_le _) rfl,(Below.refl _ _).alloc hB _,by simp;omega⟩
set_option maxRecDepth 100000 in
set_option maxHeartbeats 2000000 in
theorem rdefined_any (n:PNet) (S:NetS) (w:World) (h:NetAt w w.heap.size S n) (hm:n.modest) (ht:∀ m∈n.mems,m.told) (hd:n.defs.length≤1000000) :
    Calls Tryz.prog 62 #[.agg #[.int .i64 n.vars,.slice S.i n.inputs.length S.ic,.slice S.l n.latches.length S.lc,.slice S.o n.outs.length S.oc,.slice S.b n.bads.length S.bc,.slice S.c n.cons.length S.cc,.slice S.m n.mems.length S.mc,.slice S.a n.ands.length S.ac]] w (Left w n.defs):=by
  have hbx:=below_box w #[.int .i64 n.vars,.slice S.i n.inputs.length S.ic,.slice S.l n.latches.length S.lc,.slice S.o n.outs.length S.oc,.slice S.b n.bads.length S.bc,.slice S.c n.cons.length S.cc,.slice S.m n.mems.length S.mc,.slice S.a n.ands.length S.ac] 27
  have hM:=netBox_new w n S 27
  have hN:=NetAt.later h hbx (by simp)
  have hi1:=hm.inputs
  have hl1:=hm.latches
  have hm1:=hm.mems
  have ha1:=hm.ands
  have hp1:=Lib.hid hm.ports
  have HT:=Lib.hid ht
  clear h hm ht
  have hO0:=Own.empty (w.alloc (.cells #[.int .i64 n.vars,.slice S.i n.inputs.length S.ic,.slice S.l n.latches.length S.lc,.slice S.o n.outs.length S.oc,.slice S.b n.bads.length S.bc,.slice S.c n.cons.length S.cc,.slice S.m n.mems.length S.mc,.slice S.a n.ands.length S.ac] 27)) _ (Nat.le_refl _) (w.heap.size+1) (by simp)
  have hS0:Src ((w.alloc (.cells #[.int .i64 n.vars,.slice S.i n.inputs.length S.ic,.slice S.l n.latches.length S.lc,.slice S.o n.outs.length S.oc,.slice S.b n.bads.length S.bc,.slice S.c n.cons.length S.cc,.slice S.m n.mems.length S.mc,.slice S.a n.ands.length S.ac] 27)).alloc (.cells #[] 3)) ((w.alloc (.cells #[.int .i64 n.vars,.slice S.i n.inputs.length S.ic,.slice S.l n.latches.length S.lc,.slice S.o n.outs.length S.oc,.slice S.b n.bads.length S.bc,.slice S.c n.cons.length S.cc,.slice S.m n.mems.length S.mc,.slice S.a n.ands.length S.ac] 27)).alloc (.cells #[] 3)).heap.size S.i n.inputs:=(hN.inputs.below ((Below.refl _ _).alloc (Nat.le_refl _) _) (Nat.le_refl _)).wider (by simp)
  have hz:([]:List Int).length≤1000000:=Nat.zero_le _
  have HN:=Lib.hid (And.intro hN (And.intro hM hbx))
  clear hbx hM hN
  go_enter Tryz.func62,Tryz.ntmps62
  go_wp2_with (at_builtin;refine wpl_app rfl _ _ rfl rfl hO0 rfl rfl hS0 hz hi1 ?_;intro v1 w1 hO1 hW1)
  clear hO0 hS0 hW1 hz
  generalize w.alloc (.cells #[.int .i64 n.vars,.slice S.i n.inputs.length S.ic,.slice S.l n.latches.length S.lc,.slice S.o n.outs.length S.oc,.slice S.b n.bads.length S.bc,.slice S.c n.cons.length S.cc,.slice S.m n.mems.length S.mc,.slice S.a n.ands.length S.ac] 27)=w2 at HN hO1 ⊢
  simp only [List.nil_append] at hO1
  have HB:=Lib.hid HN.out.2.2
  go_loopg [3,4] n.latches.length (fun m s3 s4 wx=>∃ (k:Nat) (L:List Int),k+m=n.latches.length∧s4=.int .i64 k∧Own w2.heap.size w2 wx s3 L∧Aside (L++((n.latches.drop k).map PLatch.lv++(n.mems.flatMap PMem.data++n.ands.map PAnd.av))=n.defs))
  case atStart=>exact ⟨0,n.inputs,by omega,rfl,hO1,by simp [Aside,PNet.defs]⟩
  case round =>
    obtain ⟨k,L,hk,rfl,hO,HL⟩:=hrel
    generalize gk=m at *
    have hL:L.length≤1000000:=Nat.le_trans (len_of HL.out) hd
    obtain ⟨e0,e1,e2,e3,e4,e5,e6,e7,e8⟩:=HN.out.2.1.below hO.2.1 HN.out.2.1.lt
    have hNw:=NetAt.below hO.2.1 (Nat.le_refl _) HN.out.1
    by_cases hlt:k<n.latches.length
    · obtain ⟨x,hx⟩:=some_of_lt hlt
      have hltI:(k:Int)<(n.latches.length:Int):=by omega
      obtain ⟨b,o,hS,hbg,hcell⟩:=hNw.latches.at hx
      obtain ⟨m0,m1,m2⟩:=hcell k x hx
      rw [hS] at e2
      have HX:=Lib.hid (show L++[x.lv]++((n.latches.drop (k+1)).map PLatch.lv++(n.mems.flatMap PMem.data++n.ands.map PAnd.av))=n.defs by
        rw [← HL.out,drop_some hx];simp)
      clear hS hcell hNw hx HL
      go_wp2_with (at_builtin;refine wpl_one rfl _ _ rfl rfl hO rfl hL ?_;intro v2 w3 hO2 hW2)
      go_roundg (m - 1)
      case measure=>omega
      case rel=>exact ⟨k+1,_,by omega,by first | rfl | simp,hO2,HX.out⟩
    · have hltn:¬ ((k:Int)<(n.latches.length:Int)):=by omega
      have HL2:=Lib.hid (show L++(n.mems.flatMap PMem.data++n.ands.map PAnd.av)=n.defs by
        rw [← HL.out,List.drop_eq_nil_of_le (by omega)];simp)
      clear HL hNw
      go_wp2
      go_loopg [3,5] n.mems.length (fun m s3 s5 wx=>∃ (k:Nat) (L:List Int),k+m=n.mems.length∧s5=.int .i64 k∧Own w2.heap.size w2 wx s3 L∧Aside (L++((n.mems.drop k).flatMap PMem.data++n.ands.map PAnd.av)=n.defs))
      case atStart=>exact ⟨0,L,by omega,rfl,hO,HL2.out⟩
      case round =>
        clear hO HL2 hL e0 e1 e2 e3 e4 e5 e6 e7 e8 hltn hk hlt
        obtain ⟨i,L,hi,rfl,hO,HL⟩:=hrel
        generalize gk=m2 at *
        have hL:L.length≤1000000:=Nat.le_trans (len_of HL.out) hd
        obtain ⟨e0,e1,e2,e3,e4,e5,e6,e7,e8⟩:=HN.out.2.1.below hO.2.1 HN.out.2.1.lt
        have hNw:=NetAt.below hO.2.1 (Nat.le_refl _) HN.out.1
        by_cases hlt:i<n.mems.length
        · obtain ⟨x,hx⟩:=some_of_lt hlt
          have hltI:(i:Int)<(n.mems.length:Int):=by omega
          have HX:=Lib.hid hx
          have HL2:=Lib.hid (show L++(x.mr.flatMap (fun r=>dataL r.rv x.mw)++((n.mems.drop (i+1)).flatMap PMem.data++n.ands.map PAnd.av))=n.defs by
            rw [← HL.out,drop_some hx];simp [PMem.data])
          have hxt:=HT.out x (mem_of_some hx)
          have hxl:=(hp1.out x (mem_of_some hx)).1
          obtain ⟨b,o,hS,hbg,hcell⟩:=hNw.mems.at hx
          obtain ⟨a1,c1,a2,c2,m0,m1,m2',m3,m4,hP⟩:=hcell i x hx
          rw [hS] at e6
          clear hS hcell hNw hx HL hP m0 m1 m2' m3 m4
          go_wp2
          go_loopg [3,6] x.mr.length (fun m s3 s6 wx=>∃ (j:Nat) (L:List Int),j+m=x.mr.length∧s6=.int .i64 j∧Own w2.heap.size w2 wx s3 L∧Aside (L++((x.mr.drop j).flatMap (fun r=>dataL r.rv x.mw)++((n.mems.drop (i+1)).flatMap PMem.data++n.ands.map PAnd.av))=n.defs))
          case atStart=>exact ⟨0,L,by omega,rfl,hO,HL2.out⟩
          case round =>
            clear hO HL2 hL e0 e1 e2 e3 e4 e5 e6 e7 e8
            obtain ⟨j,L,hj,rfl,hO,HL⟩:=hrel
            generalize gk=m3 at *
            have hL:L.length≤1000000:=Nat.le_trans (len_of HL.out) hd
            obtain ⟨e0,e1,e2,e3,e4,e5,e6,e7,e8⟩:=HN.out.2.1.below hO.2.1 HN.out.2.1.lt
            have hNw:=NetAt.below hO.2.1 (Nat.le_refl _) HN.out.1
            obtain ⟨b,o,hS,hbg,hcell⟩:=hNw.mems.at HX.out
            obtain ⟨a1,c1,a2,c2,q0,q1,q2,q3,q4,hP⟩:=hcell i x HX.out
            rw [hS] at e6
            clear hS hcell hNw
            by_cases hjl:j<x.mr.length
            · obtain ⟨r,hr⟩:=some_of_lt hjl
              have hjlI:(j:Int)<(x.mr.length:Int):=by omega
              have hrt:=hxt.2.2 r (mem_of_some hr)
              have HC:=Lib.hid (rdata_any x a1 c1 a2 c2 j r wr (Ports.wider hO.2.2 hP) hr hxl (by have:=hxt.1;have:=hxt.2.1;omega) hrt)
              have hLr:(dataL r.rv x.mw).length≤1000000:=by rw [dataL_len];have:=hxt.2.1;omega
              have HX2:=Lib.hid (show L++dataL r.rv x.mw++((x.mr.drop (j+1)).flatMap (fun r=>dataL r.rv x.mw)++((n.mems.drop (i+1)).flatMap PMem.data++n.ands.map PAnd.av))=n.defs by
                rw [← HL.out,drop_some hr];simp)
              have HXT:=Lib.hid hxt
              clear hP hr hrt HL hxt
              go_wp2_with (first | (go_at_call 99;refine HC.out.mono ?_;rintro e w3 ⟨v3,rfl,hO3⟩;obtain ⟨A3,c3,rfl,hs3,hc3,hd3⟩:=hO3.form) | (at_builtin;refine wpl_app rfl _ _ rfl rfl (hO.call hO3.2.1) rfl rfl hs3 hL hLr ?_;intro v4 w4 hO4 hW4))
              go_roundg (m3 - 1)
              case measure=>omega
              case rel=>exact ⟨j+1,_,by omega,by first | rfl | simp,hO4,HX2.out⟩
            · have hjn:¬ ((j:Int)<(x.mr.length:Int)):=by omega
              have HX2:=Lib.hid (show L++((n.mems.drop (i+1)).flatMap PMem.data++n.ands.map PAnd.av)=n.defs by
                rw [← HL.out,List.drop_eq_nil_of_le (show x.mr.length≤j by omega)];simp)
              clear HL hP
              go_wp2
              go_roundg (m2 - 1)
              case measure=>omega
              case rel=>exact ⟨i+1,_,by omega,by first | rfl | simp,hO,HX2.out⟩
        · have hltn:¬ ((i:Int)<(n.mems.length:Int)):=by omega
          have HL2:=Lib.hid (show L++n.ands.map PAnd.av=n.defs by
            rw [← HL.out,List.drop_eq_nil_of_le (show n.mems.length≤i by omega)];simp)
          clear HL hNw
          go_wp2
          go_loopg [3,7] n.ands.length (fun m s3 s7 wx=>∃ (k:Nat) (L:List Int),k+m=n.ands.length∧s7=.int .i64 k∧Own w2.heap.size w2 wx s3 L∧Aside (L++(n.ands.drop k).map PAnd.av=n.defs))
          case atStart=>exact ⟨0,L,by omega,rfl,hO,HL2.out⟩
          case round =>
            clear hO HL2 hL e0 e1 e2 e3 e4 e5 e6 e7 e8 hltn hi hlt
            obtain ⟨k,L,hk,rfl,hO,HL⟩:=hrel
            generalize gk=m at *
            have hL:L.length≤1000000:=Nat.le_trans (len_of HL.out) hd
            obtain ⟨e0,e1,e2,e3,e4,e5,e6,e7,e8⟩:=HN.out.2.1.below hO.2.1 HN.out.2.1.lt
            have hNw:=NetAt.below hO.2.1 (Nat.le_refl _) HN.out.1
            by_cases hlt:k<n.ands.length
            · obtain ⟨x,hx⟩:=some_of_lt hlt
              have hltI:(k:Int)<(n.ands.length:Int):=by omega
              obtain ⟨b,o,hS,hbg,hcell⟩:=hNw.ands.at hx
              obtain ⟨m0,m1,m2⟩:=hcell k x hx
              rw [hS] at e7
              have HX:=Lib.hid (show L++[x.av]++(n.ands.drop (k+1)).map PAnd.av=n.defs by
                rw [← HL.out,drop_some hx];simp)
              clear hS hcell hNw hx HL
              go_wp2_with (at_builtin;refine wpl_one rfl _ _ rfl rfl hO rfl hL ?_;intro v2 w3 hO2 hW2)
              go_roundg (m - 1)
              case measure=>omega
              case rel=>exact ⟨k+1,_,by omega,by first | rfl | simp,hO2,HX.out⟩
            · have hltn:¬ ((k:Int)<(n.ands.length:Int)):=by omega
              have HL2:=Lib.hid (show L=n.defs by
                rw [← HL.out,List.drop_eq_nil_of_le (show n.ands.length≤k by omega)];simp)
              clear HL hNw
              go_wp2
              go_ret
              exact ⟨_,rfl,own_cast (hO.down HB.out HB.out.size) HL2.out⟩
set_option maxRecDepth 100000 in
set_option maxHeartbeats 4000000 in
theorem rliterals_any (n:PNet) (S:NetS) (w:World) (h:NetAt w w.heap.size S n) (hm:n.modest) (hd:n.lits.length≤1000000) :
    Calls Tryz.prog 56 #[.agg #[.int .i64 n.vars,.slice S.i n.inputs.length S.ic,.slice S.l n.latches.length S.lc,.slice S.o n.outs.length S.oc,.slice S.b n.bads.length S.bc,.slice S.c n.cons.length S.cc,.slice S.m n.mems.length S.mc,.slice S.a n.ands.length S.ac]] w (Left w n.lits):=by
  have hbx:=below_box w #[.int .i64 n.vars,.slice S.i n.inputs.length S.ic,.slice S.l n.latches.length S.lc,.slice S.o n.outs.length S.oc,.slice S.b n.bads.length S.bc,.slice S.c n.cons.length S.cc,.slice S.m n.mems.length S.mc,.slice S.a n.ands.length S.ac] 27
  have hM:=netBox_new w n S 27
  have hN:=NetAt.later h hbx (by simp)
  have ho1:=hm.outs
  have hb1:=hm.bads
  have hc1:=hm.cons
  have hl1:=hm.latches
  have hm1:=hm.mems
  have ha1:=hm.ands
  have hp1:=Lib.hid hm.ports
  clear h hm
  go_enter Tryz.func56,Tryz.ntmps56
  go_wp2
  generalize w.alloc (.cells #[.int .i64 n.vars,.slice S.i n.inputs.length S.ic,.slice S.l n.latches.length S.lc,.slice S.o n.outs.length S.oc,.slice S.b n.bads.length S.bc,.slice S.c n.cons.length S.cc,.slice S.m n.mems.length S.mc,.slice S.a n.ands.length S.ac] 27)=w2 at hN hM hbx ⊢
  have HN:=Lib.hid (And.intro hN (And.intro hM hbx))
  clear hbx hM hN
  have HB:=Lib.hid HN.out.2.2
  go_loopg [3,4] n.latches.length (fun m s3 s4 wx=>∃ (k:Nat) (L:List Int),k+m=n.latches.length∧s4=.int .i64 k∧Own w2.heap.size w2 wx s3 L∧Aside (L++((n.latches.drop k).map PLatch.ln++(n.outs++(n.bads++(n.cons++(n.mems.flatMap PMem.lits++n.ands.flatMap PAnd.lits)))))=n.lits))
  case atStart=>exact ⟨0,[],by omega,rfl,Own.nil _ _ (Nat.le_refl _),by simp [Aside,PNet.lits]⟩
  case round =>
    obtain ⟨k,L,hk,rfl,hO,HL⟩:=hrel
    generalize gk=m at *
    have hL:L.length≤1000000:=Nat.le_trans (len_of HL.out) hd
    obtain ⟨e0,e1,e2,e3,e4,e5,e6,e7,e8⟩:=HN.out.2.1.below hO.2.1 HN.out.2.1.lt
    have hNw:=NetAt.below hO.2.1 (Nat.le_refl _) HN.out.1
    by_cases hlt:k<n.latches.length
    · obtain ⟨x,hx⟩:=some_of_lt hlt
      have hltI:(k:Int)<(n.latches.length:Int):=by omega
      obtain ⟨b,o,hS,hbg,hcell⟩:=hNw.latches.at hx
      obtain ⟨m0,m1,m2⟩:=hcell k x hx
      rw [hS] at e2
      have HX:=Lib.hid (show L++[x.ln]++((n.latches.drop (k+1)).map PLatch.ln++(n.outs++(n.bads++(n.cons++(n.mems.flatMap PMem.lits++n.ands.flatMap PAnd.lits)))))=n.lits by
        rw [← HL.out,drop_some hx];simp)
      clear hS hcell hNw hx HL
      go_wp2_with (at_builtin;refine wpl_one rfl _ _ rfl rfl hO rfl hL ?_;intro v2 w3 hO2 hW2)
      go_roundg (m - 1)
      case measure=>omega
      case rel=>exact ⟨k+1,_,by omega,by first | rfl | simp,hO2,HX.out⟩
    · have hltn:¬ ((k:Int)<(n.latches.length:Int)):=by omega
      have HL2:=Lib.hid (show L++n.outs++n.bads++n.cons++(n.mems.flatMap PMem.lits++n.ands.flatMap PAnd.lits)=n.lits by
        rw [← HL.out,List.drop_eq_nil_of_le (by omega)];simp)
      have hL2:(L++n.outs).length≤1000000:=by have:=len_of HL2.out;simp at this ⊢;omega
      have hL3:(L++n.outs++n.bads).length≤1000000:=by have:=len_of HL2.out;simp at this ⊢;omega
      have hs1:=hNw.outs.wider hO.2.2
      clear HL hNw
      go_wp2_with (first | (at_builtin;refine wpl_app rfl (.tmp 27) (.tmp 29) rfl rfl hO rfl rfl hs1 hL ho1 ?_;intro v3 w3 hO3 hW3;obtain ⟨g0,g1,g2,g3,g4,g5,g6,g7,g8⟩:=HN.out.2.1.below hO3.2.1 HN.out.2.1.lt;have hs2:=(NetAt.below hO3.2.1 (Nat.le_refl _) HN.out.1).bads.wider hO3.2.2) | (at_builtin;refine wpl_app rfl (.tmp 31) (.tmp 33) rfl rfl hO3 rfl rfl hs2 hL2 hb1 ?_;intro v4 w4 hO4 hW4;obtain ⟨p0,p1,p2,p3,p4,p5,p6,p7,p8⟩:=HN.out.2.1.below hO4.2.1 HN.out.2.1.lt;have hs3:=(NetAt.below hO4.2.1 (Nat.le_refl _) HN.out.1).cons.wider hO4.2.2) | (at_builtin;refine wpl_app rfl (.tmp 35) (.tmp 37) rfl rfl hO4 rfl rfl hs3 hL3 hc1 ?_;intro v5 w5 hO5 hW5))
      clear hO hO3 hO4 hW3 hW4 hW5 hs1 hs2 hs3 e0 e1 e2 e3 e4 e5 e6 e7 e8 g0 g1 g2 g3 g4 g5 g6 g7 g8 p0 p1 p2 p3 p4 p5 p6 p7 p8 hL hL2 hL3
      go_loopg [3,5] n.mems.length (fun m s3 s5 wx=>∃ (k:Nat) (L:List Int),k+m=n.mems.length∧s5=.int .i64 k∧Own w2.heap.size w2 wx s3 L∧Aside (L++((n.mems.drop k).flatMap PMem.lits++n.ands.flatMap PAnd.lits)=n.lits))
      case atStart=>exact ⟨0,_,by omega,rfl,hO5,HL2.out⟩
      case round =>
        clear hO5 HL2 hltn hk hlt
        obtain ⟨i,L,hi,rfl,hO,HL⟩:=hrel
        generalize gk=m2 at *
        have hL:L.length≤1000000:=Nat.le_trans (len_of HL.out) hd
        obtain ⟨e0,e1,e2,e3,e4,e5,e6,e7,e8⟩:=HN.out.2.1.below hO.2.1 HN.out.2.1.lt
        have hNw:=NetAt.below hO.2.1 (Nat.le_refl _) HN.out.1
        by_cases hlt:i<n.mems.length
        · obtain ⟨x,hx⟩:=some_of_lt hlt
          have hltI:(i:Int)<(n.mems.length:Int):=by omega
          have HX:=Lib.hid hx
          have HL2:=Lib.hid (show L++(x.mr.flatMap PRead.ra++(x.mx.flatMap PWrite.lits++((n.mems.drop (i+1)).flatMap PMem.lits++n.ands.flatMap PAnd.lits)))=n.lits by
            rw [← HL.out,drop_some hx];simp [PMem.lits])
          have hxl1:=(hp1.out x (mem_of_some hx)).1
          have hxl2:=(hp1.out x (mem_of_some hx)).2
          obtain ⟨b,o,hS,hbg,hcell⟩:=HN.out.1.mems.at hx
          obtain ⟨a,c,a2,c2,m0',m1',m2',m3',m4',hP⟩:=hcell i x hx
          have m0:=(hO.2.1.cell (p:=⟨b,o+i*5,none⟩) hbg).trans m0'
          have m1:=(hO.2.1.cell (p:=⟨b,o+i*5+1,none⟩) hbg).trans m1'
          have m2:=(hO.2.1.cell (p:=⟨b,o+i*5+2,none⟩) hbg).trans m2'
          have m3:=(hO.2.1.cell (p:=⟨b,o+i*5+3,none⟩) hbg).trans m3'
          have m4:=(hO.2.1.cell (p:=⟨b,o+i*5+4,none⟩) hbg).trans m4'
          rw [hS] at e6
          have hH:=Held.new hO #[.int .i64 x.ma,.int .i64 x.mw,.bool x.mn,.slice a x.mr.length c,.slice a2 x.mx.length c2] 54
          have hOa:=hO.alloc (.cells #[.int .i64 x.ma,.int .i64 x.mw,.bool x.mn,.slice a x.mr.length c,.slice a2 x.mx.length c2] 54)
          have HP:=Lib.hid hP
          clear hS hcell hNw hx HL hP m0' m1' m2' m3' m4'
          go_wp2
          clear m0 m1 m2 m3 m4 e0 e1 e2 e3 e4 e5 e6 e7 e8
          generalize wr.alloc (.cells #[.int .i64 x.ma,.int .i64 x.mw,.bool x.mn,.slice a x.mr.length c,.slice a2 x.mx.length c2] 54)=w3 at hH hOa ⊢
          generalize wr.heap.size=gx at hH ⊢
          clear hO
          go_loopg [3,7] x.mr.length (fun m s3 s7 wx=>∃ (j:Nat) (L:List Int),j+m=x.mr.length∧s7=.int .i64 j∧Own w2.heap.size w2 wx s3 L∧Held wx s3 gx #[.int .i64 x.ma,.int .i64 x.mw,.bool x.mn,.slice a x.mr.length c,.slice a2 x.mx.length c2] 54∧Aside (L++((x.mr.drop j).flatMap PRead.ra++(x.mx.flatMap PWrite.lits++((n.mems.drop (i+1)).flatMap PMem.lits++n.ands.flatMap PAnd.lits)))=n.lits))
          case atStart=>exact ⟨0,L,by omega,rfl,hOa,hH,HL2.out⟩
          case round =>
            clear hOa hH HL2 hL
            obtain ⟨j,L,hj,rfl,hO,hH,HL⟩:=hrel
            generalize gk=m3 at *
            have hL:L.length≤1000000:=Nat.le_trans (len_of HL.out) hd
            have e3:wr.cell? ⟨gx,3,none⟩=some (.slice a x.mr.length c):=hH.cell rfl
            have hPw:=Ports.below hO.2.1 (Nat.le_refl _) HP.out
            by_cases hjl:j<x.mr.length
            · obtain ⟨r,hr⟩:=some_of_lt hjl
              have hjlI:(j:Int)<(x.mr.length:Int):=by omega
              obtain ⟨br,orr,hSr,hbr,hcr⟩:=hPw.1.at hr
              obtain ⟨ar,cr,r0,r1,hsr,hr1,hr2⟩:=hcr j r hr
              have hsr2:=hsr.wider hO.2.2
              have HX2:=Lib.hid (show L++r.ra++((x.mr.drop (j+1)).flatMap PRead.ra++(x.mx.flatMap PWrite.lits++((n.mems.drop (i+1)).flatMap PMem.lits++n.ands.flatMap PAnd.lits)))=n.lits by
                rw [← HL.out,drop_some hr];simp)
              have hLr:r.ra.length≤1000000:=by have:=len_of HX2.out;simp at this;omega
              rw [hSr] at e3
              clear hSr hcr hPw hr HL hsr hr1 hr2
              go_wp2_with (at_builtin;refine wpl_app rfl _ _ rfl rfl hO rfl rfl hsr2 hL hLr ?_;intro v4 w4 hO4 hW4)
              have hH4:=hH.went hW4
              clear hO hH hW4 r0 r1 e3 hsr2
              go_roundg (m3 - 1)
              case measure=>omega
              case rel=>exact ⟨j+1,_,by omega,by first | rfl | simp,hO4,hH4,HX2.out⟩
            · have hjn:¬ ((j:Int)<(x.mr.length:Int)):=by omega
              have HX2:=Lib.hid (show L++(x.mx.flatMap PWrite.lits++((n.mems.drop (i+1)).flatMap PMem.lits++n.ands.flatMap PAnd.lits))=n.lits by
                rw [← HL.out,List.drop_eq_nil_of_le (show x.mr.length≤j by omega)];simp)
              clear HL hPw
              go_wp2
              clear e3
              go_loopg [3,8] x.mx.length (fun m s3 s8 wx=>∃ (j:Nat) (L:List Int),j+m=x.mx.length∧s8=.int .i64 j∧Own w2.heap.size w2 wx s3 L∧Held wx s3 gx #[.int .i64 x.ma,.int .i64 x.mw,.bool x.mn,.slice a x.mr.length c,.slice a2 x.mx.length c2] 54∧Aside (L++((x.mx.drop j).flatMap PWrite.lits++((n.mems.drop (i+1)).flatMap PMem.lits++n.ands.flatMap PAnd.lits))=n.lits))
              case atStart=>exact ⟨0,L,by omega,rfl,hO,hH,HX2.out⟩
              case round =>
                clear hO hH HX2 hL hjn hj hjl
                obtain ⟨q,L,hq,rfl,hO,hH,HL⟩:=hrel
                generalize gk=m4 at *
                have hL:L.length≤1000000:=Nat.le_trans (len_of HL.out) hd
                have e4:wr.cell? ⟨gx,4,none⟩=some (.slice a2 x.mx.length c2):=hH.cell rfl
                have hPw:=Ports.below hO.2.1 (Nat.le_refl _) HP.out
                by_cases hql:q<x.mx.length
                · obtain ⟨z,hz⟩:=some_of_lt hql
                  have hqlI:(q:Int)<(x.mx.length:Int):=by omega
                  obtain ⟨bz,oz,hSz,hbz,hcz⟩:=HP.out.2.1.at hz
                  obtain ⟨az,cz,az2,cz2,z0',z1',z2',hsz,hsz2,_⟩:=hcz q z hz
                  have z0:=(hO.2.1.cell (p:=⟨bz,oz+q*3,none⟩) hbz).trans z0'
                  have z1:=(hO.2.1.cell (p:=⟨bz,oz+q*3+1,none⟩) hbz).trans z1'
                  have z2:=(hO.2.1.cell (p:=⟨bz,oz+q*3+2,none⟩) hbz).trans z2'
                  have HX2:=Lib.hid (show L++[z.wo]++z.wa++z.wd++((x.mx.drop (q+1)).flatMap PWrite.lits++((n.mems.drop (i+1)).flatMap PMem.lits++n.ands.flatMap PAnd.lits))=n.lits by
                    rw [← HL.out,drop_some hz];simp [PWrite.lits])
                  have hLa:z.wa.length≤1000000:=by have:=len_of HX2.out;simp at this;omega
                  have hLd:z.wd.length≤1000000:=by have:=len_of HX2.out;simp at this;omega
                  have hL2:(L++[z.wo]).length≤1000000:=by have:=len_of HX2.out;simp at this ⊢;omega
                  have hL3:(L++[z.wo]++z.wa).length≤1000000:=by have:=len_of HX2.out;simp at this ⊢;omega
                  rw [hSz] at e4
                  have HHz:=Lib.hid (Held.new hO #[.int .i64 z.wo,.slice az z.wa.length cz,.slice az2 z.wd.length cz2] 99)
                  have HHm:=Lib.hid (hH.alloc (.cells #[.int .i64 z.wo,.slice az z.wa.length cz,.slice az2 z.wd.length cz2] 99))
                  have hOz:=hO.alloc (.cells #[.int .i64 z.wo,.slice az z.wa.length cz,.slice az2 z.wd.length cz2] 99)
                  have HSz:=Lib.hid (And.intro hsz hsz2)
                  clear hSz hcz hPw hz HL hsz hsz2 hH hO z0' z1' z2'
                  go_wp2_with (first | (at_builtin;refine wpl_one_at rfl (.tmp 78) (.tmp 81) rfl rfl hOz rfl (by simp) hL ?_;intro v5 w5 hO5 hW5;have hz5:=(HHz.out.alloc _).went hW5;have hm5:=(HHm.out.alloc _).went hW5;have k1:=hz5.cell (j:=1) rfl;have k2:=hz5.cell (j:=2) rfl;have hs5:=HSz.out.1.own hO5) | (at_builtin;refine wpl_app rfl (.tmp 83) (.tmp 85) rfl rfl hO5 rfl rfl hs5 hL2 hLa ?_;intro v6 w6 hO6 hW6;have hz6:=hz5.went hW6;have hm6:=hm5.went hW6;have k3:=hz6.cell (j:=2) rfl;have hs6:=HSz.out.2.own hO6) | (at_builtin;refine wpl_app rfl (.tmp 87) (.tmp 89) rfl rfl hO6 rfl rfl hs6 hL3 hLd ?_;intro v7 w7 hO7 hW7;have hm7:=hm6.went hW7))
                  clear hO5 hO6 hW5 hW6 hW7 hz5 hz6 hm5 hm6 k1 k2 k3 hs5 hs6 hOz z0 z1 z2 e4
                  go_roundg (m4 - 1)
                  case measure=>omega
                  case rel=>exact ⟨q+1,_,by omega,by first | rfl | simp,hO7,hm7,HX2.out⟩
                · have hqn:¬ ((q:Int)<(x.mx.length:Int)):=by omega
                  have HX2:=Lib.hid (show L++((n.mems.drop (i+1)).flatMap PMem.lits++n.ands.flatMap PAnd.lits)=n.lits by
                    rw [← HL.out,List.drop_eq_nil_of_le (show x.mx.length≤q by omega)];simp)
                  clear HL hPw hH
                  go_wp2
                  go_roundg (m2 - 1)
                  case measure=>omega
                  case rel=>exact ⟨i+1,_,by omega,by first | rfl | simp,hO,HX2.out⟩
        · have hltn:¬ ((i:Int)<(n.mems.length:Int)):=by omega
          have HL2:=Lib.hid (show L++n.ands.flatMap PAnd.lits=n.lits by
            rw [← HL.out,List.drop_eq_nil_of_le (show n.mems.length≤i by omega)];simp)
          clear HL hNw
          go_wp2
          go_loopg [3,10] n.ands.length (fun m s3 s10 wx=>∃ (k:Nat) (L:List Int),k+m=n.ands.length∧s10=.int .i64 k∧Own w2.heap.size w2 wx s3 L∧Aside (L++(n.ands.drop k).flatMap PAnd.lits=n.lits))
          case atStart=>exact ⟨0,L,by omega,rfl,hO,HL2.out⟩
          case round =>
            clear hO HL2 hL e0 e1 e2 e3 e4 e5 e6 e7 e8 hltn hi hlt
            obtain ⟨k,L,hk,rfl,hO,HL⟩:=hrel
            generalize gk=m at *
            have hL:L.length≤1000000:=Nat.le_trans (len_of HL.out) hd
            obtain ⟨e0,e1,e2,e3,e4,e5,e6,e7,e8⟩:=HN.out.2.1.below hO.2.1 HN.out.2.1.lt
            have hNw:=NetAt.below hO.2.1 (Nat.le_refl _) HN.out.1
            by_cases hlt:k<n.ands.length
            · obtain ⟨x,hx⟩:=some_of_lt hlt
              have hltI:(k:Int)<(n.ands.length:Int):=by omega
              have hk0:(0:Int)≤(k:Int):=by omega
              obtain ⟨b,o,hS,hbg,hcell⟩:=hNw.ands.at hx
              obtain ⟨m0,m1,m2⟩:=hcell k x hx
              rw [hS] at e7
              have HX:=Lib.hid (show L++[x.aa,x.ab]++(n.ands.drop (k+1)).flatMap PAnd.lits=n.lits by
                rw [← HL.out,drop_some hx];simp [PAnd.lits])
              have HO:=Lib.hid hO
              have HK:=Lib.hid fun (W:World) (v:Value) (ys:List Int) (hW:Own w2.heap.size w2 W v ys) =>
                And.intro ((HN.out.2.1.below hW.2.1 HN.out.2.1.lt).n7.trans (by rw [hS])) (And.intro ((hW.2.1.cell (p:=⟨b,o+k*3+1,none⟩) hbg).trans ((hO.2.1.cell (p:=⟨b,o+k*3+1,none⟩) hbg).symm.trans m1)) ((hW.2.1.cell (p:=⟨b,o+k*3+2,none⟩) hbg).trans ((hO.2.1.cell (p:=⟨b,o+k*3+2,none⟩) hbg).symm.trans m2)))
              clear hS hcell hNw hx HL hO
              go_wp2
              go_region_held3 (fun w'=>w'.cell? ⟨w.heap.size,7,none⟩=some (.slice (some ⟨b,o,none⟩) n.ands.length S.ac)∧w'.cell? ⟨b,o+k*3+1,none⟩=some (.int .i64 x.aa)∧w'.cell? ⟨b,o+k*3+2,none⟩=some (.int .i64 x.ab)) (first | go_keep | (exact HK.out _ _ _ (by assumption)))
                (first
                  | (refine step_own (w0:=w2) (B:=w2.heap.size) (v:=u3) (xs:=L) (A:=some ⟨wr.heap.size,0,none⟩) (m:=2) (c:=2) (ys:=[x.aa,x.ab]) ?_ (.tmp 98) (.tmp 111) ?_ ?_ ?_ ?_ ?_ ?_ ?_ ?_ ?_
                     · rfl
                     · rfl
                     · rfl
                     · exact (HO.out.alloc _).drew
                     · rfl
                     · rfl
                     · exact Src.two (t:=3) (fr:=(0,0)) (heap_alloc_new wr _) (show wr.heap.size<(wr.alloc _).heap.size by simp)
                     · exact hL
                     · decide
                     intro v5 w5 hO5 hW5)
                  | fail)
              all_goals
                go_wp2_with fail
                go_roundg (m - 1)
                case measure=>omega
                case rel=>exact ⟨k+1,_,by omega,by first | rfl | simp,hO5,HX.out⟩
            · have hltn:¬ ((k:Int)<(n.ands.length:Int)):=by omega
              have HL2:=Lib.hid (show L=n.lits by
                rw [← HL.out,List.drop_eq_nil_of_le (show n.ands.length≤k by omega)];simp)
              clear HL hNw
              go_wp2
              go_ret
              exact ⟨_,rfl,own_cast (hO.down HB.out HB.out.size) HL2.out⟩
open Go.RowKit
theorem once_le (V:Nat):∀ l:List Int,l.Nodup→(∀ x∈l,1≤x∧x≤(V:Int))→l.length≤V:=by
  induction V with
  | zero =>
    intro l _ h
    cases l with
    | nil=>simp
    | cons x l=>have:=h x (by simp);omega
  | succ V ih =>
    intro l hn h
    have h1:=ih (l.erase ((V+1:Nat):Int)) (hn.erase _) fun x hx=>by
      have hm:=hn.mem_erase_iff.1 hx
      have:=h x hm.2
      have:=hm.1
      omega
    have h2:=List.length_erase (a:=((V+1:Nat):Int)) (l:=l)
    split at h2 <;> omega
theorem once_lt (V:Nat) (l:List Int) (v:Int) (hn:l.Nodup) (h:∀ x∈l,1≤x∧x≤(V:Int)) (h1:1≤v) (h2:v≤(V:Int)) (hv:v ∉ l):l.length<V:=by
  have:=once_le V (v::l) (List.nodup_cons.2 ⟨hv,hn⟩) fun x hx=>by
    rcases List.mem_cons.1 hx with rfl | hx
    · exact ⟨h1,h2⟩
    · exact h x hx
  simp at this
  omega
theorem once_ge (V:Nat):∀ l:List Int,(∀ v:Int,1≤v→v≤(V:Int)→v∈l)→V≤l.length:=by
  induction V with
  | zero=>intro l _;simp
  | succ V ih =>
    intro l h
    have hm:=h ((V+1:Nat):Int) (by omega) (by omega)
    have h1:=ih (l.erase ((V+1:Nat):Int)) fun v hv1 hv2=>by
      rw [List.mem_erase_of_ne (by omega)]
      exact h v hv1 (by omega)
    have h2:=List.length_erase_of_mem hm
    have h3:0<l.length:=List.length_pos_of_mem hm
    omega
structure Sofar (n:PNet) (k:Nat):Prop where
  go:defsGo n.vars (n.defs.drop k) (n.defs.take k)=n.once
  inside:∀ x∈n.defs.take k,1≤x∧x≤n.vars
  nodup:(n.defs.take k).Nodup
theorem Sofar.zero (n:PNet):Sofar n 0:=⟨rfl,by simp,by simp⟩
theorem Sofar.dangling {n:PNet} {k:Nat} {x:Int} (h:Sofar n k) (hx:n.defs[k]?=some x) (hb:x<1∨n.vars<x):n.once=5:=by
  rw [← h.go,drop_some hx]
  unfold defsGo
  rw [if_pos hb]
theorem Sofar.twice {n:PNet} {k:Nat} {x:Int} (h:Sofar n k) (hx:n.defs[k]?=some x) (h1:1≤x) (h2:x≤n.vars) (hm:x∈n.defs.take k):n.once=6:=by
  rw [← h.go,drop_some hx]
  unfold defsGo
  rw [if_neg (by omega),if_pos hm]
theorem Sofar.next {n:PNet} {k:Nat} {x:Int} (h:Sofar n k) (hx:n.defs[k]?=some x) (h1:1≤x) (h2:x≤n.vars) (hm:x ∉ n.defs.take k):Sofar n (k+1):=by
  refine ⟨?_,?_,?_⟩
  · rw [← h.go,drop_some hx,take_some hx]
    conv=>rhs;unfold defsGo
    rw [if_neg (by omega),if_neg hm]
  · rw [take_some hx]
    intro y hy
    rcases List.mem_append.1 hy with hy | hy
    · exact h.inside y hy
    · simp at hy;subst hy;exact ⟨h1,h2⟩
  · rw [take_some hx,List.nodup_append]
    refine ⟨h.nodup,by simp,fun a ha b hb e=>?_⟩
    simp at hb
    subst hb
    subst e
    exact hm ha
theorem Sofar.done {n:PNet} {k:Nat} (h:Sofar n k) (hk:¬ k<n.defs.length):n.once=(if (n.defs.length:Int)<n.vars then 7 else 0)∧n.defs.Nodup∧∀ x∈n.defs,1≤x∧x≤n.vars:=by
  have h1:=h.go
  have h2:=h.inside
  have h3:=h.nodup
  rw [List.take_of_length_le (by omega)] at h1 h2 h3
  rw [List.drop_eq_nil_of_le (by omega)] at h1
  exact ⟨h1.symm,h3,h2⟩
theorem missing_yes {n:PNet} {v:Int} (hn:n.defs.Nodup) (h:∀ x∈n.defs,1≤x∧x≤n.vars) (h1:1≤v) (h2:v≤n.vars) (hv:v ∉ n.defs):(n.defs.length:Int)<n.vars:=by
  have:=once_lt n.vars.toNat n.defs v hn (fun x hx=>by have:=h x hx;omega) h1 (by omega) hv
  omega
theorem missing_no {n:PNet} (h:∀ v:Int,1≤v→v≤n.vars→v∈n.defs):¬ (n.defs.length:Int)<n.vars:=by
  have:=once_ge n.vars.toNat n.defs fun v h1 h2=>h v h1 (by omega)
  omega
theorem sofar_of {n:PNet}:∀ k,k≤n.defs.length→(n.defs.take k).Nodup→(∀ x∈n.defs.take k,1≤x∧x≤n.vars)→Sofar n k:=by
  intro k
  induction k with
  | zero=>intro _ _ _;exact Sofar.zero n
  | succ k ih =>
    intro hk h1 h2
    obtain ⟨x,hx⟩:=some_of_lt (show k<n.defs.length by omega)
    rw [take_some hx] at h1 h2
    rw [List.nodup_append] at h1
    have hr:=h2 x (by simp)
    exact (ih (by omega) h1.1 fun y hy=>h2 y (by simp [hy])).next hx hr.1 hr.2 fun hm=>h1.2.2 x hm x (by simp) rfl
def Good (V:Int) (l:List Int):Prop:=l.Nodup∧∀ x∈l,1≤x∧x≤V
theorem Good.snoc {V x:Int} {l:List Int} (h:Good V l) (h1:1≤x) (h2:x≤V) (hx:x ∉ l):Good V (l++[x]):=by
  refine ⟨?_,fun y hy=>?_⟩
  · rw [List.nodup_append]
    refine ⟨h.1,by simp,fun a ha b hb e=>?_⟩
    simp at hb
    subst hb
    subst e
    exact hx ha
  · rcases List.mem_append.1 hy with hy | hy
    · exact h.2 y hy
    · simp at hy;subst hy;exact ⟨h1,h2⟩
theorem Good.len {V:Int} {l:List Int} (h:Good V l) (hV:0≤V):(l.length:Int)≤V:=by
  have:=once_le V.toNat l h.1 fun x hx=>by have:=h.2 x hx;omega
  omega
theorem good_all {n:PNet} (h:Good n.vars n.defs):n.once=if (n.defs.length:Int)<n.vars then 7 else 0:=by
  have h3:=(sofar_of n.defs.length (Nat.le_refl _) (by rw [List.take_length];exact h.1) (by rw [List.take_length];exact h.2)).done (by omega)
  exact h3.1
theorem good_part {n:PNet} {ini:List Int} {x:Int} (h:Good n.vars ini) (hp:ini++[x] <+: n.defs) :
    ((x<1∨n.vars<x)→n.once=5)∧(1≤x→x≤n.vars→x∈ini→n.once=6):=by
  obtain ⟨T,hT⟩:=hp
  have ht:n.defs.take ini.length=ini:=by rw [← hT];simp
  have hx:n.defs[ini.length]?=some x:=by rw [← hT];simp
  have hl:=lt_of_some hx
  have hS:=sofar_of (n:=n) ini.length (by omega) (by rw [ht];exact h.1) (by rw [ht];exact h.2)
  exact ⟨fun hb=>hS.dangling hx hb,fun h1 h2 hm=>hS.twice hx h1 h2 (by rw [ht];exact hm)⟩
def Marked (w:World) (g N:Nat) (seen:List Int):Prop :=
  ∃ C:Array Value,w.heap[g]?=some (.cells C 4 (0,0))∧C.size=N∧∀ i,i<N→C[i]?=some (.bool (decide ((i:Int)∈seen)))
theorem Marked.cell {w:World} {g N i:Nat} {seen:List Int} (h:Marked w g N seen) (hi:i<N):w.cell? ⟨g,i,none⟩=some (.bool (decide ((i:Int)∈seen))):=by
  obtain ⟨C,h1,_,h3⟩:=h
  rw [cell_of_row w g i C 4 (0,0) h1]
  exact h3 i hi
theorem Marked.free {w:World} {g N:Nat} {seen:List Int} (h:Marked w g N seen) (i:Nat):w.frozen? ⟨g,i,none⟩=false:=by
  obtain ⟨C,h1,_,h3⟩:=h
  exact frozen_of_row w g i C 4 h1
theorem Marked.lt {w:World} {g N:Nat} {seen:List Int} (h:Marked w g N seen):g<w.heap.size:=by
  obtain ⟨C,h1,_⟩:=h
  exact lt_of_row h1
theorem Marked.same {w w':World} {g N:Nat} {seen:List Int} (h:Marked w g N seen) (hg:w'.heap[g]?=w.heap[g]?):Marked w' g N seen:=by
  obtain ⟨C,h1,h2⟩:=h
  exact ⟨C,hg.trans h1,h2⟩
theorem Marked.set {w:World} {g N x:Nat} {seen:List Int} (h:Marked w g N seen) (hx:x<N):Marked (w.setCell ⟨g,x,none⟩ (.bool true)) g N (seen++[(x:Int)]):=by
  obtain ⟨C,h1,h2,h3⟩:=h
  refine ⟨C.setIfInBounds x (.bool true),heap_setCell_same w g x C 4 _ h1,by simp [h2],fun i hi=>?_⟩
  rw [Array.getElem?_setIfInBounds]
  by_cases e:x=i
  · subst e
    rw [if_pos rfl,if_pos (by omega)]
    simp
  · rw [if_neg e,h3 i hi]
    have:¬ (i:Int)=(x:Int):=by omega
    simp [this]
theorem Marked.new (w:World) (N:Nat):Marked (w.alloc (.cells (madeCells #[.bool false] N) 4)) w.heap.size N []:=by
  refine ⟨_,heap_alloc_new w _,size_madeCells _ _,fun i hi=>?_⟩
  simp [madeCells,hi,Nat.mod_one]
theorem bool_info:(Tryz.prog.info? 4).map (fun i=>(i.zero,i.size,i.bytes))=some (some (.bool false),1,1):=by kernel_rfl
theorem run_marks (v:Int) (h0:0≤v) (h1:v≤1000000) (w:World) :
    (Instr.makeSlice 64 (.int .i64 (v+1)) (.int .i64 (v+1))).run Tryz.prog w=.ok (.slice (some ⟨w.heap.size,0,none⟩) (v.toNat+1) (v.toNat+1)) (w.alloc (.cells (madeCells #[.bool false] (v.toNat+1)) 4)):=by
  obtain ⟨i,hi,hz,hs,hb⟩:=info_parts bool_info
  have:=run_make (P:=Tryz.prog) w 64 4 i (.bool false) Tryz.underlying64 hi hz .i64 .i64 (v+1) (v+1) (by omega) (Int.le_refl _) (by rw [hb];omega) (by omega)
  rw [this,hs,show (v+1).toNat=v.toNat+1 from by omega,Nat.mul_one]
  rfl
theorem flat_len {α:Type} (l:List α) (f:α→List Int) (K:Nat) (h:∀ x∈l,(f x).length≤K):(l.flatMap f).length≤l.length*K:=by
  induction l with
  | nil=>simp
  | cons x l ih =>
    have h1:=h x (by simp)
    have h2:=ih fun y hy=>h y (by simp [hy])
    simp only [List.flatMap_cons,List.length_append,List.length_cons,Nat.add_mul,Nat.one_mul]
    omega
theorem any_no {α:Type} {l:List α} {p:α→Bool} (h:l.any p=false):∀ x∈l,p x=false:=fun x hx=>by
  rw [List.any_eq_false] at h
  simpa using h x hx
structure PNet.Within (n:PNet):Prop where
  vars:0≤n.vars∧n.vars≤2000
  lits:n.outs.length+n.bads.length+n.cons.length≤1000
  mems:n.mems.length≤4
  ports:∀ m∈n.mems,m.mr.length≤4∧m.mx.length≤4
  inputs:n.inputs.length≤2000
  latches:n.latches.length≤2000
  ands:n.ands.length≤2000
theorem within_of {n:PNet} (h:n.lim=false):n.Within:=by
  unfold PNet.lim at h
  simp only [Bool.or_eq_false_iff,decide_eq_false_iff_not] at h
  obtain ⟨⟨⟨⟨⟨⟨⟨h1,h2⟩,h3⟩,h4⟩,h5⟩,h6⟩,h7⟩,h8⟩:=h
  refine ⟨by omega,by omega,by omega,fun m hm=>?_,by omega,by omega,by omega⟩
  have:=any_no h5 m hm
  simp [PMem.many] at this
  omega
structure PMem.Fit (m:PMem):Prop where
  addr:1≤m.ma∧m.ma≤62
  word:1≤m.mw∧m.mw≤64
  reads:∀ r∈m.mr,(r.ra.length:Int)=m.ma
  writes:∀ x∈m.mx,(x.wa.length:Int)=m.ma∧(x.wd.length:Int)=m.mw
theorem fit_of {m:PMem} (h:m.wide=false):m.Fit:=by
  unfold PMem.wide at h
  simp only [Bool.or_eq_false_iff,decide_eq_false_iff_not] at h
  obtain ⟨⟨⟨⟨⟨h1,h2⟩,h3⟩,h4⟩,h5⟩,h6⟩:=h
  refine ⟨by omega,by omega,fun r hr=>?_,fun x hx=>?_⟩
  · have:=any_no h5 r hr
    simpa [PRead.wide] using this
  · have:=any_no h6 x hx
    simpa [PWrite.wide] using this
theorem defs_small {n:PNet} (h:n.Within) (hf:∀ m∈n.mems,m.Fit):n.defs.length≤10000:=by
  have h1:=flat_len n.mems PMem.data 256 fun m hm=>by
    have h2:=flat_len m.mr (fun r=>dataL r.rv m.mw) 64 fun r hr=>by rw [dataL_len];have:=(hf m hm).word;omega
    have h3:=(h.ports m hm).1
    unfold PMem.data
    omega
  have:=h.mems
  have:=h.inputs
  have:=h.latches
  have:=h.ands
  unfold PNet.defs
  simp only [List.length_append,List.length_map]
  omega
theorem lits_small {n:PNet} (h:n.Within) (hf:∀ m∈n.mems,m.Fit):n.lits.length≤20000:=by
  have h1:=flat_len n.mems PMem.lits 1000 fun m hm=>by
    have h2:=flat_len m.mr PRead.ra 62 fun r hr=>by have:=(hf m hm).reads r hr;have:=(hf m hm).addr;omega
    have h4:=flat_len m.mx PWrite.lits 127 fun x hx=>by
      have:=(hf m hm).writes x hx
      have:=(hf m hm).addr
      have:=(hf m hm).word
      simp [PWrite.lits]
      omega
    have h3:=h.ports m hm
    unfold PMem.lits
    simp only [List.length_append]
    omega
  have h2:=flat_len n.ands PAnd.lits 2 fun x hx=>by simp [PAnd.lits]
  have:=h.mems
  have:=h.lits
  have:=h.latches
  have:=h.ands
  unfold PNet.lits
  simp only [List.length_append,List.length_map]
  omega
def PNet.near (n:PNet):Prop:=∀ m∈n.mems,∀ r∈m.mr,-2305843009213693952≤r.rv∧r.rv≤2305843009213693952
theorem told_of {n:PNet} (hn:n.near) (hf:∀ m∈n.mems,m.Fit):∀ m∈n.mems,m.told:=fun m hm=>⟨by have:=(hf m hm).word;omega,(hf m hm).word.2,hn m hm⟩
set_option maxHeartbeats 4000000 in
theorem rdefines_any (n:PNet) (S:NetS) (w:World) (h:NetAt w w.heap.size S n) (hm:n.modest) (ht:∀ m∈n.mems,m.told) (hd:n.defs.length≤1000000) (hv:0≤n.vars∧n.vars≤2000) :
    Calls Tryz.prog 55 #[.agg #[.int .i64 n.vars,.slice S.i n.inputs.length S.ic,.slice S.l n.latches.length S.lc,.slice S.o n.outs.length S.oc,.slice S.b n.bads.length S.bc,.slice S.c n.cons.length S.cc,.slice S.m n.mems.length S.mc,.slice S.a n.ands.length S.ac]] w fun e w'=>e=.returned (.int .i64 n.once)∧Below w.heap.size w w':=by
  obtain ⟨hv0,hv1⟩:=hv
  have hbx:=below_box w #[.int .i64 n.vars,.slice S.i n.inputs.length S.ic,.slice S.l n.latches.length S.lc,.slice S.o n.outs.length S.oc,.slice S.b n.bads.length S.bc,.slice S.c n.cons.length S.cc,.slice S.m n.mems.length S.mc,.slice S.a n.ands.length S.ac] 27
  have hM:=netBox_new w n S 27
  have hN:=NetAt.later h hbx (by simp)
  have hD:=Lib.hid (rdefined_any n S _ hN hm ht hd)
  have hmk:=run_marks n.vars hv0 (by omega)
  have HB:=Lib.hid (And.intro hbx hM)
  clear h hm ht hbx hN hM
  go_enter Tryz.func55,Tryz.ntmps55
  go_wp2_with (go_at_call 62;refine hD.out.mono ?_;rintro e w3 ⟨v3,rfl,hO3⟩;obtain ⟨A3,c3,rfl,hs3,hc3,hd3⟩:=hO3.form;obtain ⟨e0,e1,e2,e3,e4,e5,e6,e7,e8⟩:=HB.out.2.below hO3.2.1 HB.out.2.lt)
  have HM:=Marked.new w3 (n.vars.toNat+1)
  have H3:=Lib.hid (And.intro (below_on HB.out.1 hO3.2.1) (And.intro hs3 (HB.out.2.below hO3.2.1 HB.out.2.lt)))
  have hb4:=below_box w3 (madeCells #[.bool false] (n.vars.toNat+1)) 4
  generalize w3.alloc (.cells (madeCells #[.bool false] (n.vars.toNat+1)) 4)=w4 at HM hb4 ⊢
  clear hmk hD HB hO3 hs3 hc3 hd3 e0 e1 e2 e3 e4 e5 e6 e7 e8
  generalize hg4:w3.heap.size=g4 at *
  have HG:=Lib.hid hg4
  clear hg4
  go_loopg [5] n.defs.length (fun m s5 wx=>∃ k:Nat,k+m=n.defs.length∧s5=.int .i64 k∧Aside (Sofar n k)∧Marked wx g4 (n.vars.toNat+1) (n.defs.take k)∧Below g4 w3 wx)
  case atStart=>exact ⟨0,by omega,rfl,Sofar.zero n,HM,hb4⟩
  case round =>
    clear HM hb4
    obtain ⟨k,hk,rfl,HI,hM,hB⟩:=hrel
    generalize gk=m at *
    have hglt:=hM.lt
    have e0:=(H3.out.2.2.below hB (by rw [← HG.out];exact H3.out.2.2.lt)).n0
    by_cases hlt:k<n.defs.length
    · obtain ⟨x,hx⟩:=some_of_lt hlt
      have hltI:(k:Int)<(n.defs.length:Int):=by omega
      have hk0:(0:Int)≤(k:Int):=by omega
      obtain ⟨b,o,rfl,hb3,hcell⟩:=H3.out.2.1.at hx
      have hx0:=(hB.cell (p:=⟨b,o+k,none⟩) hb3).trans (hcell k x hx)
      have HX:=Lib.hid hx
      clear hcell hx
      by_cases h1:x<1
      · have hd1:decide (x<1)=true:=by simp;omega
        have HN:=Lib.hid (HI.out.dangling HX.out (.inl h1))
        clear h1 hM
        go_wp2
        go_quiet (fail)
        go_wp2
        go_ret
        exact ⟨ret_int HN.out.symm,by rw [HG.out.symm] at hB;exact below_drewN (below_on H3.out.1 hB) _⟩
      · have hd1:decide (x<1)=false:=by simp;omega
        by_cases h2:n.vars<x
        · have hd2:decide (n.vars<x)=true:=by simp;omega
          have HN:=Lib.hid (HI.out.dangling HX.out (.inr h2))
          clear h1 h2 hM
          go_wp2
          go_quiet (fail)
          go_wp2
          go_ret
          exact ⟨ret_int HN.out.symm,by rw [HG.out.symm] at hB;exact below_drewN (below_on H3.out.1 hB) _⟩
        · have hd2:decide (n.vars<x)=false:=by simp;omega
          obtain ⟨y,rfl⟩:=Int.eq_ofNat_of_zero_le (show 0≤x by omega)
          have hy:y<n.vars.toNat+1:=by omega
          have hyI:(y:Int)<((n.vars.toNat+1:Nat):Int):=by omega
          have hy0:(0:Int)≤(y:Int):=by omega
          have hc:=hM.cell hy
          have hfz:=hM.free y
          by_cases hs:(y:Int)∈n.defs.take k
          · have HN:=Lib.hid (HI.out.twice HX.out (by omega) (by omega) hs)
            rw [decide_eq_true hs] at hc
            clear h1 h2 hM hs
            go_wp2
            go_quiet (fail)
            go_wp2
            go_ret
            exact ⟨ret_int HN.out.symm,by rw [HG.out.symm] at hB;exact below_drewN (below_on H3.out.1 hB) _⟩
          · have HN:=Lib.hid (HI.out.next HX.out (by omega) (by omega) hs)
            have HMN:=Lib.hid (show n.defs.take (k+1)=n.defs.take k++[(y:Int)] from take_some HX.out)
            rw [decide_eq_false hs] at hc
            have HMM:=Lib.hid hM
            clear h1 h2 hM hs
            go_wp2
            go_quiet (fail)
            go_wp2
            go_roundg (m - 1)
            case measure=>omega
            case rel =>
              refine ⟨k+1,by omega,by first | rfl | simp,HN.out,?_,?_⟩
              · rw [HMN.out]
                exact (HMM.out.same (w':=wr.drewN _) rfl).set hy
              · exact (below_drewN hB _).setCell (Nat.le_refl _) _
    · have hltn:¬ ((k:Int)<(n.defs.length:Int)):=by omega
      have HDn:=Lib.hid (HI.out.done hlt)
      have hMd:Marked wr g4 (n.vars.toNat+1) n.defs:=by rwa [List.take_of_length_le (by omega)] at hM
      clear HI hM
      go_wp2
      go_loopg [6] n.vars.toNat (fun m s6 wx=>∃ v:Nat,v+m=n.vars.toNat+1∧1≤v∧s6=.int .i64 v∧Aside (∀ u:Int,1≤u→u<(v:Int)→u∈n.defs)∧wr=wx)
      case atStart=>exact ⟨1,by omega,by omega,rfl,fun u h1 h2=>by omega,rfl⟩
      case round =>
        obtain ⟨v,hvm,hv1',rfl,HV,rfl⟩:=hrel
        generalize gk=m2 at *
        by_cases hvl:(v:Int)≤n.vars
        · have hvN:v<n.vars.toNat+1:=by omega
          have hvI:(v:Int)<((n.vars.toNat+1:Nat):Int):=by omega
          have hc:=hMd.cell hvN
          by_cases hs:(v:Int)∈n.defs
          · rw [decide_eq_true hs] at hc
            have HV2:=Lib.hid (show ∀ u:Int,1≤u→u<((v+1:Nat):Int)→u∈n.defs from fun u h1 h2=>by
              by_cases e:u=(v:Int)
              · subst e;exact hs
              · exact HV.out u h1 (by omega))
            clear hs
            go_wp2
            go_roundg (m2 - 1)
            case measure=>omega
            case rel=>exact ⟨v+1,by omega,by omega,by first | rfl | simp,HV2.out,rfl⟩
          · rw [decide_eq_false hs] at hc
            have HN:=Lib.hid (show n.once=7 by rw [HDn.out.1,if_pos (missing_yes HDn.out.2.1 HDn.out.2.2 (by omega) hvl hs)])
            clear hs
            go_wp2
            go_ret
            exact ⟨ret_int HN.out.symm,by rw [HG.out.symm] at hB;exact below_on H3.out.1 hB⟩
        · have HN:=Lib.hid (show n.once=0 by rw [HDn.out.1,if_neg (missing_no fun u h1 h2=>HV.out u h1 (by omega))])
          clear hMd
          go_wp2
          go_ret
          exact ⟨ret_int HN.out.symm,by rw [HG.out.symm] at hB;exact below_on H3.out.1 hB⟩
theorem sound_lim {n:PNet} (h:n.lim=true):n.sound=10:=by unfold PNet.sound;rw [if_pos h]
theorem sound_wide {n:PNet} (h:n.lim=false) (hw:n.mems.any PMem.wide=true):n.sound=9:=by unfold PNet.sound;rw [if_neg (by simp [h]),if_pos hw]
theorem sound_wrong {n:PNet} (h:n.lim=false) (hw:n.mems.any PMem.wide=false) (hl:n.latches.any PLatch.wrong=true):n.sound=1:=by
  unfold PNet.sound;rw [if_neg (by simp [h]),if_neg (by simp [hw]),if_pos hl]
theorem sound_once {n:PNet} (h:n.lim=false) (hw:n.mems.any PMem.wide=false) (hl:n.latches.any PLatch.wrong=false) (ho:n.once≠0):n.sound=n.once:=by
  unfold PNet.sound;rw [if_neg (by simp [h]),if_neg (by simp [hw]),if_neg (by simp [hl]),if_pos ho]
theorem sound_loose {n:PNet} (h:n.lim=false) (hw:n.mems.any PMem.wide=false) (hl:n.latches.any PLatch.wrong=false) (ho:n.once=0) (hs:n.loose=true):n.sound=5:=by
  unfold PNet.sound;rw [if_neg (by simp [h]),if_neg (by simp [hw]),if_neg (by simp [hl]),if_neg (by simp [ho]),if_pos hs]
theorem sound_ok {n:PNet} (h:n.lim=false) (hw:n.mems.any PMem.wide=false) (hl:n.latches.any PLatch.wrong=false) (ho:n.once=0) (hs:n.loose=false):n.sound=0:=by
  unfold PNet.sound;rw [if_neg (by simp [h]),if_neg (by simp [hw]),if_neg (by simp [hl]),if_neg (by simp [ho]),if_neg (by simp [hs])]
set_option maxHeartbeats 4000000 in
theorem rsound_any (n:PNet) (S:NetS) (w:World) (h:NetAt w w.heap.size S n) (hf:n.fits) (hm:n.modest) (hr:n.near) :
    Calls Tryz.prog 17 #[.agg #[.int .i64 n.vars,.slice S.i n.inputs.length S.ic,.slice S.l n.latches.length S.lc,.slice S.o n.outs.length S.oc,.slice S.b n.bads.length S.bc,.slice S.c n.cons.length S.cc,.slice S.m n.mems.length S.mc,.slice S.a n.ands.length S.ac]] w fun e w'=>e=.returned (.int .i64 n.sound)∧Below w.heap.size w w':=by
  have hbx:=below_box w #[.int .i64 n.vars,.slice S.i n.inputs.length S.ic,.slice S.l n.latches.length S.lc,.slice S.o n.outs.length S.oc,.slice S.b n.bads.length S.bc,.slice S.c n.cons.length S.cc,.slice S.m n.mems.length S.mc,.slice S.a n.ands.length S.ac] 27
  have hM:=netBox_new w n S 27
  have hN:=NetAt.later h hbx (by simp)
  have hlim:=rlimits_any n S _ hN ⟨hm.outs,hm.bads,hm.cons,hm.mems⟩
  have HB:=Lib.hid (And.intro hbx hM)
  have hb2:=hbx.size
  cases hL:n.lim with
  | true =>
    rw [hL] at hlim
    have HQ:=Lib.hid hlim
    have HS:=Lib.hid (sound_lim hL)
    clear hlim hL hN h hbx hM hb2
    go_enter Tryz.func17,Tryz.ntmps17
    go_wp2_with (go_at_call 53;refine HQ.out.mono ?_;rintro e w3 ⟨rfl,hb3⟩)
    go_ret
    exact ⟨ret_int HS.out.symm,below_on HB.out.1 hb3⟩
  | false =>
    rw [hL] at hlim
    have hW:=within_of hL
    have HQ:=Lib.hid hlim
    have HL:=Lib.hid hL
    have HW:=Lib.hid hW
    have HF:=Lib.hid hf
    have HR:=Lib.hid hr
    have hm4:=hW.mems
    have hl2:=hW.latches
    have hv0:=hW.vars.1
    have hv1:=hW.vars.2
    have HP:=Lib.hid hm.ports
    clear hlim hL h hbx hM hW hf hr hb2
    go_enter Tryz.func17,Tryz.ntmps17
    go_wp2_with (go_at_call 53;refine HQ.out.mono ?_;rintro e w3 ⟨rfl,hb3⟩)
    have HN:=Lib.hid (And.intro (NetAt.later hN hb3 hb3.size) (And.intro (HB.out.2.below hb3 HB.out.2.lt) (below_on HB.out.1 hb3)))
    clear hN hb3 HQ HB
    go_loopg [3] n.mems.length (fun m s3 wx=>∃ k:Nat,k+m=n.mems.length∧s3=.int .i64 k∧Aside ((n.mems.take k).any PMem.wide=false)∧Below w3.heap.size w3 wx)
    case atStart=>exact ⟨0,by omega,rfl,by simp [Aside],Below.refl _ _⟩
    case round =>
      obtain ⟨k,hk,rfl,HI,hB⟩:=hrel
      generalize gk=m at *
      obtain ⟨e0,e1,e2,e3,e4,e5,e6,e7,e8⟩:=HN.out.2.1.below hB HN.out.2.1.lt
      have hNw:=NetAt.later HN.out.1 hB hB.size
      by_cases hlt:k<n.mems.length
      · obtain ⟨x,hx⟩:=some_of_lt hlt
        have hltI:(k:Int)<(n.mems.length:Int):=by omega
        obtain ⟨b,o,hS,hbg,hcell⟩:=hNw.mems.at hx
        obtain ⟨a,c,a2,c2,m0,m1,m2,m3,m4,hP⟩:=hcell k x hx
        rw [hS] at e6
        have hwd:=rwide_any x a c a2 c2 wr hP (HP.out x (mem_of_some hx))
        cases hq:x.wide with
        | true =>
          rw [hq] at hwd
          have HN2:=Lib.hid (sound_wide HL.out (any_yes hx hq))
          have HWD:=Lib.hid hwd
          clear hS hcell hNw hx hP hwd hq
          go_wp2_with (go_at_call 54;refine HWD.out.mono ?_;rintro e w4 ⟨rfl,hb4⟩)
          go_ret
          exact ⟨ret_int HN2.out.symm,below_on HN.out.2.2 (below_on hB hb4)⟩
        | false =>
          rw [hq] at hwd
          have HN2:=Lib.hid (any_take hx HI.out hq)
          have HWD:=Lib.hid hwd
          clear hS hcell hNw hx hP hwd hq
          go_wp2_with (go_at_call 54;refine HWD.out.mono ?_;rintro e w4 ⟨rfl,hb4⟩)
          go_roundg (m - 1)
          case measure=>omega
          case rel=>exact ⟨k+1,by omega,by first | rfl | simp,HN2.out,below_on hB hb4⟩
      · have hltn:¬ ((k:Int)<(n.mems.length:Int)):=by omega
        have HWA:=Lib.hid (any_done hlt HI.out)
        clear HI hNw
        go_wp2
        go_loopg [4] n.latches.length (fun m s4 wx=>∃ k:Nat,k+m=n.latches.length∧s4=.int .i64 k∧Aside ((n.latches.take k).any PLatch.wrong=false)∧wr=wx)
        case atStart=>exact ⟨0,by omega,rfl,by simp [Aside],rfl⟩
        case round =>
          obtain ⟨j,hj,rfl,HJ,rfl⟩:=hrel
          generalize gk=m2 at *
          have hNw:=NetAt.later HN.out.1 hB hB.size
          by_cases hjl:j<n.latches.length
          · obtain ⟨x,hx⟩:=some_of_lt hjl
            have hjI:(j:Int)<(n.latches.length:Int):=by omega
            obtain ⟨b,o,hS,hbg,hcell⟩:=hNw.latches.at hx
            obtain ⟨f0,f1,f2⟩:=hcell j x hx
            rw [hS] at e2
            by_cases hq:0≤x.li∧x.li≤2
            · have q1:decide (x.li<0)=false:=by simp;omega
              have q2:decide (2<x.li)=false:=by simp;omega
              have HN2:=Lib.hid (any_take hx HJ.out (show PLatch.wrong x=false by unfold PLatch.wrong;simp;omega))
              clear hS hcell hNw hx hq
              go_wp2
              go_roundg (m2 - 1)
              case measure=>omega
              case rel=>exact ⟨j+1,by omega,by first | rfl | simp,HN2.out,rfl⟩
            · have HN2:=Lib.hid (And.intro (sound_wrong HL.out HWA.out (any_yes hx (show PLatch.wrong x=true by unfold PLatch.wrong;simp;omega))) hq)
              clear hS hcell hNw hx hq
              go_wp2
              rotate_left
              · have:=HN2.out.2
                omega
              all_goals
                go_ret
                exact ⟨ret_int HN2.out.1.symm,below_on HN.out.2.2 hB⟩
          · have hjn:¬ ((j:Int)<(n.latches.length:Int)):=by omega
            have HLA:=Lib.hid (any_done hjl HJ.out)
            have hfit:∀ m∈n.mems,m.Fit:=fun m hm=>fit_of (any_no HWA.out m hm)
            have hdf:=rdefines_any n S wr hNw hm (told_of HR.out hfit) (by have:=defs_small HW.out hfit;omega) HW.out.vars
            have HLT:=Lib.hid fun (W:World) (hb:Below wr.heap.size wr W)=>rliterals_any n S W (NetAt.later hNw hb hb.size) hm (by have:=lits_small HW.out hfit;omega)
            have HLS:=Lib.hid (lits_small HW.out hfit)
            clear HJ hNw hfit
            by_cases ho:n.once=0
            · rw [ho] at hdf
              have HDF:=Lib.hid hdf
              have HO:=Lib.hid ho
              clear hdf ho
              go_wp2_with (first | (go_at_call 55;refine HDF.out.mono ?_;rintro e w4 ⟨rfl,hb4⟩;obtain ⟨g0,g1,g2,g3,g4,g5,g6,g7,g8⟩:=HN.out.2.1.below (below_on hB hb4) HN.out.2.1.lt) | (go_at_call 56;refine (HLT.out _ hb4).mono ?_;rintro e w5 ⟨v5,rfl,hO5⟩;obtain ⟨A5,c5,rfl,hs5,hc5,hd5⟩:=hO5.form))
              have HB5:=Lib.hid (below_on hB (below_on hb4 hO5.2.1))
              have hz5:=(HN.out.2.1.below HB5.out HN.out.2.1.lt).n0
              have HS5:=Lib.hid hs5
              have hl5:=HLS.out
              clear hO5 hs5 hc5 hd5 g0 g1 g2 g3 g4 g5 g6 g7 g8
              go_loopg [7] n.lits.length (fun m s7 wx=>∃ k p:Nat,k+m=n.lits.length∧s7=.int .i64 k∧Aside ((n.lits.take k).any (outB n.vars)=false)∧wx=w5.drewN p)
              case atStart=>exact ⟨0,0,by omega,rfl,by simp [Aside],rfl⟩
              case round =>
                obtain ⟨i,p,hi,rfl,HK,rfl⟩:=hrel
                generalize gk=m3 at *
                by_cases hil:i<n.lits.length
                · obtain ⟨x,hx⟩:=some_of_lt hil
                  have hiI:(i:Int)<(n.lits.length:Int):=by omega
                  have hi0:(0:Int)≤(i:Int):=by omega
                  obtain ⟨b,o,rfl,hbg,hcell⟩:=HS5.out.at hx
                  have hx0:=hcell i x hx
                  have hmul:IntKind.i64.wrap (2*n.vars)=2*n.vars:=by rw [IntKind.wrap_i64];omega
                  have hmul2:IntKind.i64.wrap (2*n.vars+1)=2*n.vars+1:=by rw [IntKind.wrap_i64];omega
                  by_cases h1:x<0
                  · have q1:decide (x<0)=true:=by simp;omega
                    have HN2:=Lib.hid (sound_loose HL.out HWA.out HLA.out HO.out (any_yes hx (show outB n.vars x=true by unfold outB;simp;omega)))
                    clear hcell hx h1
                    go_wp2
                    go_quiet (fail)
                    go_wp2
                    go_ret
                    exact ⟨ret_int HN2.out.symm,by repeat (first | exact below_on HN.out.2.2 HB5.out | refine below_drewN ?_ _)⟩
                  · have q1:decide (x<0)=false:=by simp;omega
                    by_cases h2:2*n.vars+1<x
                    · have q2:decide (2*n.vars+1<x)=true:=by simp;omega
                      have HN2:=Lib.hid (sound_loose HL.out HWA.out HLA.out HO.out (any_yes hx (show outB n.vars x=true by unfold outB;simp;omega)))
                      clear hcell hx h1 h2
                      go_wp2
                      go_quiet (fail)
                      go_wp2
                      go_ret
                      exact ⟨ret_int HN2.out.symm,by repeat (first | exact below_on HN.out.2.2 HB5.out | refine below_drewN ?_ _)⟩
                    · have q2:decide (2*n.vars+1<x)=false:=by simp;omega
                      have HN2:=Lib.hid (any_take hx HK.out (show outB n.vars x=false by unfold outB;simp;omega))
                      clear hcell hx h1 h2
                      go_wp2
                      go_quiet (fail)
                      go_wp2
                      go_roundg (m3 - 1)
                      case measure=>omega
                      case rel=>exact ⟨i+1,_,by omega,by first | rfl | simp,HN2.out,rfl⟩
                · have hin:¬ ((i:Int)<(n.lits.length:Int)):=by omega
                  have HN2:=Lib.hid (sound_ok HL.out HWA.out HLA.out HO.out (show n.loose=false from any_done hil HK.out))
                  clear HK
                  go_wp2
                  go_ret
                  exact ⟨ret_int HN2.out.symm,below_drewN (below_on HN.out.2.2 HB5.out) _⟩
            · have hne:(n.once != 0)=true:=by rw [bne_iff_ne];exact ho
              have HN2:=Lib.hid (sound_once HL.out HWA.out HLA.out ho)
              have HDF:=Lib.hid hdf
              clear hdf ho
              go_wp2_with (go_at_call 55;refine HDF.out.mono ?_;rintro e w4 ⟨rfl,hb4⟩)
              go_ret
              exact ⟨ret_int HN2.out.symm,below_on HN.out.2.2 (below_on hB hb4)⟩
end Go.Proofs.YtldnepogjnahfaaGreatDoor
