/-
  DERIVED. GIVEN WITH THE SEED: THE CARDS: each row of YtficmfiekibjgaaDoorRows.lean that lists a variable, with what it lists TIED to the program's text (the seventh form; the later family's looks); each row that meets fmt, with fmt's text TOLD by the authors' own Lean function (tested against real Go, not proved from fmt's source: count such statements apart). THE CARD IS WHAT COUNTS. Prove the row's statement (the work); the ties are given (YtficmfiekibjgaaDoorTie.lean); close each card by the builder's one call (the guide's Derived/Test/ToyasCard.lean, 'card_holds'). Laid BY PROGRAM, IN A SANDBOX (cutbox-door.mjs). By AI agents, Wed Nov 11 2026. No macro, syntax, notation, axiom, sorry.
-/
import Derived.Test.YtficmfiekibjgaaDoorRows
import GoSem.ClaimSeven
namespace Go.Proofs.YtficmfiekibjgaaDoor
namespace Rows

/-- THE TIED CARD OF 'transhiplaw10.WriteExact'. -/
def writeExactCard : Claim7 := { stood := { row := writeExactRow, standIns := [], harness := (true, "b69780d5d1a4d560b6cb3f1746adfdee8a96d7b01b78249d8fea0af6de6d7b12"), looks := false }, kinds := [], alts := [], laidByText := true, laidKinds := [.data, .data, .data, .data, .data], laidTests := true, laidLooks := .later }
def WriteExactCardSaid : Prop := Claim7.holds Tryd.pinned (.plain (OpenSpec.ofChange writeExactSpec)) writeExactCard

/-- THE TIED CARD OF 'transhiplaw10.WriteUnlike'. -/
def writeUnlikeCard : Claim7 := { stood := { row := writeUnlikeRow, standIns := [], harness := (true, "b69780d5d1a4d560b6cb3f1746adfdee8a96d7b01b78249d8fea0af6de6d7b12"), looks := false }, kinds := [], alts := [], laidByText := true, laidKinds := [.data, .data, .data, .data, .data], laidTests := true, laidLooks := .later }
def WriteUnlikeCardSaid : Prop := Claim7.holds Tryd.pinned (.plain (OpenSpec.ofChange writeUnlikeSpec)) writeUnlikeCard

/-- THE TIED CARD OF 'transhiplaw10.WriteNames'. -/
def writeNamesCard : Claim7 := { stood := { row := writeNamesRow, standIns := [], harness := (true, "b69780d5d1a4d560b6cb3f1746adfdee8a96d7b01b78249d8fea0af6de6d7b12"), looks := false }, kinds := [], alts := [], laidByText := true, laidKinds := [.data, .data, .data, .data, .data], laidTests := true, laidLooks := .later }
def WriteNamesCardSaid : Prop := Claim7.holds Tryd.pinned (.plain (OpenSpec.ofChange writeNamesSpec)) writeNamesCard

/-- THE SECOND FORM's CARD OF 'transhiplaw10.WriteExact'. -/
def writeExactUptoCard : Claim7 := { stood := { row := writeExactUptoRow, standIns := [], harness := (true, "b69780d5d1a4d560b6cb3f1746adfdee8a96d7b01b78249d8fea0af6de6d7b12"), looks := false }, kinds := [], alts := [], laidByText := true, laidKinds := [.data, .data, .data, .data, .data], laidTests := true, laidLooks := .later }
def WriteExactUptoCardSaid : Prop := Claim7.holds Tryd.pinned (.plain (OpenSpec.upto writeExactSpec)) writeExactUptoCard

/-- THE SECOND FORM's CARD OF 'transhiplaw10.WriteUnlike'. -/
def writeUnlikeUptoCard : Claim7 := { stood := { row := writeUnlikeUptoRow, standIns := [], harness := (true, "b69780d5d1a4d560b6cb3f1746adfdee8a96d7b01b78249d8fea0af6de6d7b12"), looks := false }, kinds := [], alts := [], laidByText := true, laidKinds := [.data, .data, .data, .data, .data], laidTests := true, laidLooks := .later }
def WriteUnlikeUptoCardSaid : Prop := Claim7.holds Tryd.pinned (.plain (OpenSpec.upto writeUnlikeSpec)) writeUnlikeUptoCard

/-- THE SECOND FORM's CARD OF 'transhiplaw10.WriteNames'. -/
def writeNamesUptoCard : Claim7 := { stood := { row := writeNamesUptoRow, standIns := [], harness := (true, "b69780d5d1a4d560b6cb3f1746adfdee8a96d7b01b78249d8fea0af6de6d7b12"), looks := false }, kinds := [], alts := [], laidByText := true, laidKinds := [.data, .data, .data, .data, .data], laidTests := true, laidLooks := .later }
def WriteNamesUptoCardSaid : Prop := Claim7.holds Tryd.pinned (.plain (OpenSpec.upto writeNamesSpec)) writeNamesUptoCard
end Rows
end Go.Proofs.YtficmfiekibjgaaDoor
