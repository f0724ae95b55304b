/-
  DERIVED. GIVEN WITH THE SEED: THE CARDS: each row of YtldnepogjnahfaaGreatDoorRows.lean that lists a variable, with what it lists TIED to the program's text (the seventh form; the later family's looks); each row that meets fmt, with fmt's text TOLD by the authors' own Lean function (tested against real Go, not proved from fmt's source: count such statements apart). THE CARD IS WHAT COUNTS. Prove the row's statement (the work); the ties are given (YtldnepogjnahfaaGreatDoorTie.lean); close each card by the builder's one call (the guide's Derived/Test/ToyasCard.lean, 'card_holds'). Laid BY PROGRAM, IN A SANDBOX (cutbox-door.mjs). By AI agents, Wed Nov 11 2026. No macro, syntax, notation, axiom, sorry.
-/
import Derived.Test.YtldnepogjnahfaaGreatDoorRows
import GoSem.ClaimSeven
namespace Go.Proofs.YtldnepogjnahfaaGreatDoor
namespace Rows

/-- THE TIED CARD OF 'astrariumlaw07.AsciiPrints'. -/
def asciiPrintsCard : Claim7 := { stood := { row := asciiPrintsRow, standIns := [], harness := (true, "ebd98ae6154d592a2bcdfa2df608fca6c97a1d0fe822dbaaaccb61a3df51c1a6"), looks := true }, kinds := [], alts := [], laidByText := true, laidKinds := [.data, .data, .data, .handle], laidTests := true, laidLooks := .later }
def AsciiPrintsCardSaid : Prop := Claim7.holds Tryz.pinned (.plain (OpenSpec.ofChange asciiPrintsSpec)) asciiPrintsCard

/-- THE TIED CARD OF 'astrariumlaw07.AsciiParses'. -/
def asciiParsesCard : Claim7 := { stood := { row := asciiParsesRow, standIns := [], harness := (true, "ebd98ae6154d592a2bcdfa2df608fca6c97a1d0fe822dbaaaccb61a3df51c1a6"), looks := true }, kinds := [], alts := [], laidByText := true, laidKinds := [.handle], laidTests := true, laidLooks := .later }
def AsciiParsesCardSaid : Prop := Claim7.holds Tryz.pinned (.plain (OpenSpec.ofChange asciiParsesSpec)) asciiParsesCard

/-- THE TIED CARD OF 'astrariumlaw07.AsciiBack'. -/
def asciiBackCard : Claim7 := { stood := { row := asciiBackRow, standIns := [], harness := (true, "ebd98ae6154d592a2bcdfa2df608fca6c97a1d0fe822dbaaaccb61a3df51c1a6"), looks := true }, kinds := [], alts := [], laidByText := true, laidKinds := [.data, .data, .data, .handle], laidTests := true, laidLooks := .later }
def AsciiBackCardSaid : Prop := Claim7.holds Tryz.pinned (.plain (OpenSpec.ofChange asciiBackSpec)) asciiBackCard

/-- THE TIED CARD OF 'astrariumlaw08.BinaryPrints'. -/
def binaryPrintsCard : Claim7 := { stood := { row := binaryPrintsRow, standIns := [], harness := (true, "ebd98ae6154d592a2bcdfa2df608fca6c97a1d0fe822dbaaaccb61a3df51c1a6"), looks := true }, kinds := [], alts := [], laidByText := true, laidKinds := [.data, .data, .data, .data, .handle, .pinned], laidTests := true, laidLooks := .later }
def BinaryPrintsCardSaid : Prop := Claim7.holds Tryz.pinned (.plain (OpenSpec.ofChange binaryPrintsSpec)) binaryPrintsCard

/-- THE TIED CARD OF 'astrariumlaw08.BinaryParses'. -/
def binaryParsesCard : Claim7 := { stood := { row := binaryParsesRow, standIns := [], harness := (true, "ebd98ae6154d592a2bcdfa2df608fca6c97a1d0fe822dbaaaccb61a3df51c1a6"), looks := true }, kinds := [], alts := [], laidByText := true, laidKinds := [.handle], laidTests := true, laidLooks := .later }
def BinaryParsesCardSaid : Prop := Claim7.holds Tryz.pinned (.plain (OpenSpec.ofChange binaryParsesSpec)) binaryParsesCard

/-- THE TIED CARD OF 'astrariumlaw08.BinaryBack'. -/
def binaryBackCard : Claim7 := { stood := { row := binaryBackRow, standIns := [], harness := (true, "ebd98ae6154d592a2bcdfa2df608fca6c97a1d0fe822dbaaaccb61a3df51c1a6"), looks := true }, kinds := [], alts := [], laidByText := true, laidKinds := [.data, .data, .data, .data, .handle, .pinned], laidTests := true, laidLooks := .later }
def BinaryBackCardSaid : Prop := Claim7.holds Tryz.pinned (.plain (OpenSpec.ofChange binaryBackSpec)) binaryBackCard

/-- THE SECOND FORM's CARD OF 'astrariumlaw07.AsciiPrints'. -/
def asciiPrintsUptoCard : Claim7 := { stood := { row := asciiPrintsUptoRow, standIns := [], harness := (true, "ebd98ae6154d592a2bcdfa2df608fca6c97a1d0fe822dbaaaccb61a3df51c1a6"), looks := true }, kinds := [], alts := [], laidByText := true, laidKinds := [.data, .data, .data, .handle], laidTests := true, laidLooks := .later }
def AsciiPrintsUptoCardSaid : Prop := Claim7.holds Tryz.pinned (.plain (OpenSpec.upto asciiPrintsSpec)) asciiPrintsUptoCard

/-- THE SECOND FORM's CARD OF 'astrariumlaw07.AsciiParses'. -/
def asciiParsesUptoCard : Claim7 := { stood := { row := asciiParsesUptoRow, standIns := [], harness := (true, "ebd98ae6154d592a2bcdfa2df608fca6c97a1d0fe822dbaaaccb61a3df51c1a6"), looks := true }, kinds := [], alts := [], laidByText := true, laidKinds := [.handle], laidTests := true, laidLooks := .later }
def AsciiParsesUptoCardSaid : Prop := Claim7.holds Tryz.pinned (.plain (OpenSpec.upto asciiParsesSpec)) asciiParsesUptoCard

/-- THE SECOND FORM's CARD OF 'astrariumlaw07.AsciiBack'. -/
def asciiBackUptoCard : Claim7 := { stood := { row := asciiBackUptoRow, standIns := [], harness := (true, "ebd98ae6154d592a2bcdfa2df608fca6c97a1d0fe822dbaaaccb61a3df51c1a6"), looks := true }, kinds := [], alts := [], laidByText := true, laidKinds := [.data, .data, .data, .handle], laidTests := true, laidLooks := .later }
def AsciiBackUptoCardSaid : Prop := Claim7.holds Tryz.pinned (.plain (OpenSpec.upto asciiBackSpec)) asciiBackUptoCard

/-- THE SECOND FORM's CARD OF 'astrariumlaw08.BinaryPrints'. -/
def binaryPrintsUptoCard : Claim7 := { stood := { row := binaryPrintsUptoRow, standIns := [], harness := (true, "ebd98ae6154d592a2bcdfa2df608fca6c97a1d0fe822dbaaaccb61a3df51c1a6"), looks := true }, kinds := [], alts := [], laidByText := true, laidKinds := [.data, .data, .data, .data, .handle, .pinned], laidTests := true, laidLooks := .later }
def BinaryPrintsUptoCardSaid : Prop := Claim7.holds Tryz.pinned (.plain (OpenSpec.upto binaryPrintsSpec)) binaryPrintsUptoCard

/-- THE SECOND FORM's CARD OF 'astrariumlaw08.BinaryParses'. -/
def binaryParsesUptoCard : Claim7 := { stood := { row := binaryParsesUptoRow, standIns := [], harness := (true, "ebd98ae6154d592a2bcdfa2df608fca6c97a1d0fe822dbaaaccb61a3df51c1a6"), looks := true }, kinds := [], alts := [], laidByText := true, laidKinds := [.handle], laidTests := true, laidLooks := .later }
def BinaryParsesUptoCardSaid : Prop := Claim7.holds Tryz.pinned (.plain (OpenSpec.upto binaryParsesSpec)) binaryParsesUptoCard

/-- THE SECOND FORM's CARD OF 'astrariumlaw08.BinaryBack'. -/
def binaryBackUptoCard : Claim7 := { stood := { row := binaryBackUptoRow, standIns := [], harness := (true, "ebd98ae6154d592a2bcdfa2df608fca6c97a1d0fe822dbaaaccb61a3df51c1a6"), looks := true }, kinds := [], alts := [], laidByText := true, laidKinds := [.data, .data, .data, .data, .handle, .pinned], laidTests := true, laidLooks := .later }
def BinaryBackUptoCardSaid : Prop := Claim7.holds Tryz.pinned (.plain (OpenSpec.upto binaryBackSpec)) binaryBackUptoCard
end Rows
end Go.Proofs.YtldnepogjnahfaaGreatDoor
