/-
  DERIVED. GIVEN WITH THE SEED: THE CARDS: each row of YtllkackipdcekaaDoorRows.lean that lists a variable, with what it lists TIED to the program's text (the seventh form; the later family's looks); each row that meets fmt, with fmt's text TOLD by the authors' own Lean function (tested against real Go, not proved from fmt's source: count such statements apart). THE CARD IS WHAT COUNTS. Prove the row's statement (the work); the ties are given (YtllkackipdcekaaDoorTie.lean); close each card by the builder's one call (the guide's Derived/Test/ToyasCard.lean, 'card_holds'). Laid BY PROGRAM, IN A SANDBOX (cutbox-door.mjs). By AI agents, Wed Nov 11 2026. No macro, syntax, notation, axiom, sorry.
-/
import Derived.Test.YtllkackipdcekaaDoorRows
import GoSem.ClaimSeven
namespace Go.Proofs.YtllkackipdcekaaDoor
namespace Rows

/-- THE TIED CARD OF 'transhiplaw09.ReadExact'. -/
def readExactCard : Claim7 := { stood := { row := readExactRow, standIns := [], harness := (true, "8a0aa5d39fed82c119a2e2a9a6b0e5b3291d2c8402c6f6ee362b1c0d8e8917fe"), looks := true }, kinds := [], alts := [], laidByText := true, laidKinds := [.data, .data], laidTests := true, laidLooks := .later }
def ReadExactCardSaid : Prop := Claim7.holds Tryd.pinned (.plain (OpenSpec.ofChange readExactSpec)) readExactCard

/-- THE TIED CARD OF 'transhiplaw09.ReadRight'. -/
def readRightCard : Claim7 := { stood := { row := readRightRow, standIns := [], harness := (true, "8a0aa5d39fed82c119a2e2a9a6b0e5b3291d2c8402c6f6ee362b1c0d8e8917fe"), looks := true }, kinds := [], alts := [], laidByText := true, laidKinds := [.data, .data], laidTests := true, laidLooks := .later }
def ReadRightCardSaid : Prop := Claim7.holds Tryd.pinned (.plain (OpenSpec.ofChange readRightSpec)) readRightCard

/-- THE TIED CARD OF 'transhiplaw09.ReadBehind'. -/
def readBehindCard : Claim7 := { stood := { row := readBehindRow, standIns := [], harness := (true, "8a0aa5d39fed82c119a2e2a9a6b0e5b3291d2c8402c6f6ee362b1c0d8e8917fe"), looks := true }, kinds := [], alts := [], laidByText := true, laidKinds := [.data, .data], laidTests := true, laidLooks := .later }
def ReadBehindCardSaid : Prop := Claim7.holds Tryd.pinned (.plain (OpenSpec.ofChange readBehindSpec)) readBehindCard

/-- THE TIED CARD OF 'transhiplaw09.ReadInner'. -/
def readInnerCard : Claim7 := { stood := { row := readInnerRow, standIns := [], harness := (true, "8a0aa5d39fed82c119a2e2a9a6b0e5b3291d2c8402c6f6ee362b1c0d8e8917fe"), looks := true }, kinds := [], alts := [], laidByText := true, laidKinds := [.data, .data], laidTests := true, laidLooks := .later }
def ReadInnerCardSaid : Prop := Claim7.holds Tryd.pinned (.plain (OpenSpec.ofChange readInnerSpec)) readInnerCard

/-- THE TIED CARD OF 'transhiplaw09.ReadLevels'. -/
def readLevelsCard : Claim7 := { stood := { row := readLevelsRow, standIns := [], harness := (true, "8a0aa5d39fed82c119a2e2a9a6b0e5b3291d2c8402c6f6ee362b1c0d8e8917fe"), looks := true }, kinds := [], alts := [], laidByText := true, laidKinds := [.data, .data], laidTests := true, laidLooks := .later }
def ReadLevelsCardSaid : Prop := Claim7.holds Tryd.pinned (.plain (OpenSpec.ofChange readLevelsSpec)) readLevelsCard

/-- THE TIED CARD OF 'transhiplaw09.ReadSymbols'. -/
def readSymbolsCard : Claim7 := { stood := { row := readSymbolsRow, standIns := [], harness := (true, "8a0aa5d39fed82c119a2e2a9a6b0e5b3291d2c8402c6f6ee362b1c0d8e8917fe"), looks := true }, kinds := [], alts := [], laidByText := true, laidKinds := [.data, .data], laidTests := true, laidLooks := .later }
def ReadSymbolsCardSaid : Prop := Claim7.holds Tryd.pinned (.plain (OpenSpec.ofChange readSymbolsSpec)) readSymbolsCard

/-- THE TIED CARD OF 'transhiplaw10.WriteBack'. -/
def writeBackCard : Claim7 := { stood := { row := writeBackRow, standIns := [], harness := (true, "8a0aa5d39fed82c119a2e2a9a6b0e5b3291d2c8402c6f6ee362b1c0d8e8917fe"), looks := true }, kinds := [], alts := [], laidByText := true, laidKinds := [.data, .data, .data, .data, .data, .data], laidTests := true, laidLooks := .later }
def WriteBackCardSaid : Prop := Claim7.holds Tryd.pinned (.plain (OpenSpec.ofChange writeBackSpec)) writeBackCard

/-- THE TIED CARD OF 'transhiplaw10.WriteFixed'. -/
def writeFixedCard : Claim7 := { stood := { row := writeFixedRow, standIns := [], harness := (true, "8a0aa5d39fed82c119a2e2a9a6b0e5b3291d2c8402c6f6ee362b1c0d8e8917fe"), looks := true }, kinds := [], alts := [], laidByText := true, laidKinds := [.data, .data, .data, .data, .data, .data], laidTests := true, laidLooks := .later }
def WriteFixedCardSaid : Prop := Claim7.holds Tryd.pinned (.plain (OpenSpec.ofChange writeFixedSpec)) writeFixedCard

/-- THE SECOND FORM's CARD OF 'transhiplaw09.ReadExact'. -/
def readExactUptoCard : Claim7 := { stood := { row := readExactUptoRow, standIns := [], harness := (true, "8a0aa5d39fed82c119a2e2a9a6b0e5b3291d2c8402c6f6ee362b1c0d8e8917fe"), looks := true }, kinds := [], alts := [], laidByText := true, laidKinds := [.data, .data], laidTests := true, laidLooks := .later }
def ReadExactUptoCardSaid : Prop := Claim7.holds Tryd.pinned (.plain (OpenSpec.upto readExactSpec)) readExactUptoCard

/-- THE SECOND FORM's CARD OF 'transhiplaw09.ReadRight'. -/
def readRightUptoCard : Claim7 := { stood := { row := readRightUptoRow, standIns := [], harness := (true, "8a0aa5d39fed82c119a2e2a9a6b0e5b3291d2c8402c6f6ee362b1c0d8e8917fe"), looks := true }, kinds := [], alts := [], laidByText := true, laidKinds := [.data, .data], laidTests := true, laidLooks := .later }
def ReadRightUptoCardSaid : Prop := Claim7.holds Tryd.pinned (.plain (OpenSpec.upto readRightSpec)) readRightUptoCard

/-- THE SECOND FORM's CARD OF 'transhiplaw09.ReadBehind'. -/
def readBehindUptoCard : Claim7 := { stood := { row := readBehindUptoRow, standIns := [], harness := (true, "8a0aa5d39fed82c119a2e2a9a6b0e5b3291d2c8402c6f6ee362b1c0d8e8917fe"), looks := true }, kinds := [], alts := [], laidByText := true, laidKinds := [.data, .data], laidTests := true, laidLooks := .later }
def ReadBehindUptoCardSaid : Prop := Claim7.holds Tryd.pinned (.plain (OpenSpec.upto readBehindSpec)) readBehindUptoCard

/-- THE SECOND FORM's CARD OF 'transhiplaw09.ReadInner'. -/
def readInnerUptoCard : Claim7 := { stood := { row := readInnerUptoRow, standIns := [], harness := (true, "8a0aa5d39fed82c119a2e2a9a6b0e5b3291d2c8402c6f6ee362b1c0d8e8917fe"), looks := true }, kinds := [], alts := [], laidByText := true, laidKinds := [.data, .data], laidTests := true, laidLooks := .later }
def ReadInnerUptoCardSaid : Prop := Claim7.holds Tryd.pinned (.plain (OpenSpec.upto readInnerSpec)) readInnerUptoCard

/-- THE SECOND FORM's CARD OF 'transhiplaw09.ReadLevels'. -/
def readLevelsUptoCard : Claim7 := { stood := { row := readLevelsUptoRow, standIns := [], harness := (true, "8a0aa5d39fed82c119a2e2a9a6b0e5b3291d2c8402c6f6ee362b1c0d8e8917fe"), looks := true }, kinds := [], alts := [], laidByText := true, laidKinds := [.data, .data], laidTests := true, laidLooks := .later }
def ReadLevelsUptoCardSaid : Prop := Claim7.holds Tryd.pinned (.plain (OpenSpec.upto readLevelsSpec)) readLevelsUptoCard

/-- THE SECOND FORM's CARD OF 'transhiplaw09.ReadSymbols'. -/
def readSymbolsUptoCard : Claim7 := { stood := { row := readSymbolsUptoRow, standIns := [], harness := (true, "8a0aa5d39fed82c119a2e2a9a6b0e5b3291d2c8402c6f6ee362b1c0d8e8917fe"), looks := true }, kinds := [], alts := [], laidByText := true, laidKinds := [.data, .data], laidTests := true, laidLooks := .later }
def ReadSymbolsUptoCardSaid : Prop := Claim7.holds Tryd.pinned (.plain (OpenSpec.upto readSymbolsSpec)) readSymbolsUptoCard

/-- THE SECOND FORM's CARD OF 'transhiplaw10.WriteBack'. -/
def writeBackUptoCard : Claim7 := { stood := { row := writeBackUptoRow, standIns := [], harness := (true, "8a0aa5d39fed82c119a2e2a9a6b0e5b3291d2c8402c6f6ee362b1c0d8e8917fe"), looks := true }, kinds := [], alts := [], laidByText := true, laidKinds := [.data, .data, .data, .data, .data, .data], laidTests := true, laidLooks := .later }
def WriteBackUptoCardSaid : Prop := Claim7.holds Tryd.pinned (.plain (OpenSpec.upto writeBackSpec)) writeBackUptoCard

/-- THE SECOND FORM's CARD OF 'transhiplaw10.WriteFixed'. -/
def writeFixedUptoCard : Claim7 := { stood := { row := writeFixedUptoRow, standIns := [], harness := (true, "8a0aa5d39fed82c119a2e2a9a6b0e5b3291d2c8402c6f6ee362b1c0d8e8917fe"), looks := true }, kinds := [], alts := [], laidByText := true, laidKinds := [.data, .data, .data, .data, .data, .data], laidTests := true, laidLooks := .later }
def WriteFixedUptoCardSaid : Prop := Claim7.holds Tryd.pinned (.plain (OpenSpec.upto writeFixedSpec)) writeFixedUptoCard
end Rows
end Go.Proofs.YtllkackipdcekaaDoor
