/-
  DERIVED. GIVEN WITH THE SEED: THE CARDS: each row of YtpekceadjcbphaaDoorRows.lean that lists a variable, with what it lists TIED to the program's text (the seventh form; the later family's looks); each row that meets fmt, with fmt's text TOLD by the authors' own Lean function (tested against real Go, not proved from fmt's source: count such statements apart). THE CARD IS WHAT COUNTS. Prove the row's statement (the work); the ties are given (YtpekceadjcbphaaDoorTie.lean); close each card by the builder's one call (the guide's Derived/Test/ToyasCard.lean, 'card_holds'). Laid BY PROGRAM, IN A SANDBOX (cutbox-door.mjs). By AI agents, Wed Nov 11 2026. No macro, syntax, notation, axiom, sorry.
-/
import Derived.Test.YtpekceadjcbphaaDoorRows
import GoSem.ClaimSeven
namespace Go.Proofs.YtpekceadjcbphaaDoor
namespace Rows

/-- THE TIED CARD OF 'transhiplaw09.ReadExact'. -/
def readExactCard : Claim7 := { stood := { row := readExactRow, standIns := [], harness := (true, "c7f737da6558762c5a45170537ec5f5b3ed2cd00c8f6ebd10082465cfd97ca2d"), looks := true }, kinds := [], alts := [], laidByText := true, laidKinds := [.data, .data], laidTests := true, laidLooks := .later }
def ReadExactCardSaid : Prop := Claim7.holds Tryd.pinned (.plain (OpenSpec.ofChange readExactSpec)) readExactCard

/-- THE TIED CARD OF 'transhiplaw17.SigExact'. -/
def sigExactCard : Claim7 := { stood := { row := sigExactRow, standIns := [], harness := (true, "c7f737da6558762c5a45170537ec5f5b3ed2cd00c8f6ebd10082465cfd97ca2d"), looks := true }, kinds := [], alts := [], laidByText := true, laidKinds := [.data, .data], laidTests := true, laidLooks := .later }
def SigExactCardSaid : Prop := Claim7.holds Tryd.pinned (.plain (OpenSpec.ofChange sigExactSpec)) sigExactCard

/-- THE TIED CARD OF 'transhiplaw17.SigShape'. -/
def sigShapeCard : Claim7 := { stood := { row := sigShapeRow, standIns := [], harness := (true, "c7f737da6558762c5a45170537ec5f5b3ed2cd00c8f6ebd10082465cfd97ca2d"), looks := true }, kinds := [], alts := [], laidByText := true, laidKinds := [.data, .data], laidTests := true, laidLooks := .later }
def SigShapeCardSaid : Prop := Claim7.holds Tryd.pinned (.plain (OpenSpec.ofChange sigShapeSpec)) sigShapeCard

/-- THE TIED CARD OF 'transhiplaw17.SigLevels'. -/
def sigLevelsCard : Claim7 := { stood := { row := sigLevelsRow, standIns := [], harness := (true, "c7f737da6558762c5a45170537ec5f5b3ed2cd00c8f6ebd10082465cfd97ca2d"), looks := true }, kinds := [], alts := [], laidByText := true, laidKinds := [.data, .data], laidTests := true, laidLooks := .later }
def SigLevelsCardSaid : Prop := Claim7.holds Tryd.pinned (.plain (OpenSpec.ofChange sigLevelsSpec)) sigLevelsCard

/-- THE SECOND FORM's CARD OF 'transhiplaw09.ReadExact'. -/
def readExactUptoCard : Claim7 := { stood := { row := readExactUptoRow, standIns := [], harness := (true, "c7f737da6558762c5a45170537ec5f5b3ed2cd00c8f6ebd10082465cfd97ca2d"), looks := true }, kinds := [], alts := [], laidByText := true, laidKinds := [.data, .data], laidTests := true, laidLooks := .later }
def ReadExactUptoCardSaid : Prop := Claim7.holds Tryd.pinned (.plain (OpenSpec.upto readExactSpec)) readExactUptoCard

/-- THE SECOND FORM's CARD OF 'transhiplaw17.SigExact'. -/
def sigExactUptoCard : Claim7 := { stood := { row := sigExactUptoRow, standIns := [], harness := (true, "c7f737da6558762c5a45170537ec5f5b3ed2cd00c8f6ebd10082465cfd97ca2d"), looks := true }, kinds := [], alts := [], laidByText := true, laidKinds := [.data, .data], laidTests := true, laidLooks := .later }
def SigExactUptoCardSaid : Prop := Claim7.holds Tryd.pinned (.plain (OpenSpec.upto sigExactSpec)) sigExactUptoCard

/-- THE SECOND FORM's CARD OF 'transhiplaw17.SigShape'. -/
def sigShapeUptoCard : Claim7 := { stood := { row := sigShapeUptoRow, standIns := [], harness := (true, "c7f737da6558762c5a45170537ec5f5b3ed2cd00c8f6ebd10082465cfd97ca2d"), looks := true }, kinds := [], alts := [], laidByText := true, laidKinds := [.data, .data], laidTests := true, laidLooks := .later }
def SigShapeUptoCardSaid : Prop := Claim7.holds Tryd.pinned (.plain (OpenSpec.upto sigShapeSpec)) sigShapeUptoCard

/-- THE SECOND FORM's CARD OF 'transhiplaw17.SigLevels'. -/
def sigLevelsUptoCard : Claim7 := { stood := { row := sigLevelsUptoRow, standIns := [], harness := (true, "c7f737da6558762c5a45170537ec5f5b3ed2cd00c8f6ebd10082465cfd97ca2d"), looks := true }, kinds := [], alts := [], laidByText := true, laidKinds := [.data, .data], laidTests := true, laidLooks := .later }
def SigLevelsUptoCardSaid : Prop := Claim7.holds Tryd.pinned (.plain (OpenSpec.upto sigLevelsSpec)) sigLevelsUptoCard
end Rows
end Go.Proofs.YtpekceadjcbphaaDoor
