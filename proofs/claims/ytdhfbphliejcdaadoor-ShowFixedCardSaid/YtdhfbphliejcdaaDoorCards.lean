/-
  DERIVED. GIVEN WITH THE SEED: THE CARDS: each row of YtdhfbphliejcdaaDoorRows.lean that lists a variable, with what it lists TIED to the program's text (the seventh form; the later family's looks); each row that meets fmt, with fmt's text TOLD by the authors' own Lean function (tested against real Go, not proved from fmt's source: count such statements apart). THE CARD IS WHAT COUNTS. Prove the row's statement (the work); the ties are given (YtdhfbphliejcdaaDoorTie.lean); close each card by the builder's one call (the guide's Derived/Test/ToyasCard.lean, 'card_holds'). Laid BY PROGRAM, IN A SANDBOX (cutbox-door.mjs). By AI agents, Wed Nov 11 2026. No macro, syntax, notation, axiom, sorry.
-/
import Derived.Test.YtdhfbphliejcdaaDoorRows
import GoSem.ClaimSeven
namespace Go.Proofs.YtdhfbphliejcdaaDoor
namespace Rows

/-- THE TIED CARD OF 'transhiplaw14.ShowExact'. -/
def showExactCard : Claim7 := { stood := { row := showExactRow, standIns := [], harness := (true, "f7d411996cc982db257cc4e37c6d640e0d0805811e8154717563090f824e325e"), looks := true }, kinds := [], alts := [], laidByText := true, laidKinds := [.data, .data, .data], laidTests := true, laidLooks := .later }
def ShowExactCardSaid : Prop := Claim7.holds Tryd.pinned (.plain (OpenSpec.ofChange showExactSpec)) showExactCard

/-- THE TIED CARD OF 'transhiplaw14.ShowBack'. -/
def showBackCard : Claim7 := { stood := { row := showBackRow, standIns := [], harness := (true, "f7d411996cc982db257cc4e37c6d640e0d0805811e8154717563090f824e325e"), looks := true }, kinds := [], alts := [], laidByText := true, laidKinds := [.data, .data, .data], laidTests := true, laidLooks := .later }
def ShowBackCardSaid : Prop := Claim7.holds Tryd.pinned (.plain (OpenSpec.ofChange showBackSpec)) showBackCard

/-- THE TIED CARD OF 'transhiplaw14.ShowFixed'. -/
def showFixedCard : Claim7 := { stood := { row := showFixedRow, standIns := [], harness := (true, "f7d411996cc982db257cc4e37c6d640e0d0805811e8154717563090f824e325e"), looks := true }, kinds := [], alts := [], laidByText := true, laidKinds := [.data, .data, .data], laidTests := true, laidLooks := .later }
def ShowFixedCardSaid : Prop := Claim7.holds Tryd.pinned (.plain (OpenSpec.ofChange showFixedSpec)) showFixedCard

/-- THE TIED CARD OF 'transhiplaw14.ShowUnlike'. -/
def showUnlikeCard : Claim7 := { stood := { row := showUnlikeRow, standIns := [], harness := (true, "f7d411996cc982db257cc4e37c6d640e0d0805811e8154717563090f824e325e"), looks := true }, kinds := [], alts := [], laidByText := true, laidKinds := [.data, .data, .data], laidTests := true, laidLooks := .later }
def ShowUnlikeCardSaid : Prop := Claim7.holds Tryd.pinned (.plain (OpenSpec.ofChange showUnlikeSpec)) showUnlikeCard

/-- THE SECOND FORM's CARD OF 'transhiplaw14.ShowExact'. -/
def showExactUptoCard : Claim7 := { stood := { row := showExactUptoRow, standIns := [], harness := (true, "f7d411996cc982db257cc4e37c6d640e0d0805811e8154717563090f824e325e"), looks := true }, kinds := [], alts := [], laidByText := true, laidKinds := [.data, .data, .data], laidTests := true, laidLooks := .later }
def ShowExactUptoCardSaid : Prop := Claim7.holds Tryd.pinned (.plain (OpenSpec.upto showExactSpec)) showExactUptoCard

/-- THE SECOND FORM's CARD OF 'transhiplaw14.ShowBack'. -/
def showBackUptoCard : Claim7 := { stood := { row := showBackUptoRow, standIns := [], harness := (true, "f7d411996cc982db257cc4e37c6d640e0d0805811e8154717563090f824e325e"), looks := true }, kinds := [], alts := [], laidByText := true, laidKinds := [.data, .data, .data], laidTests := true, laidLooks := .later }
def ShowBackUptoCardSaid : Prop := Claim7.holds Tryd.pinned (.plain (OpenSpec.upto showBackSpec)) showBackUptoCard

/-- THE SECOND FORM's CARD OF 'transhiplaw14.ShowFixed'. -/
def showFixedUptoCard : Claim7 := { stood := { row := showFixedUptoRow, standIns := [], harness := (true, "f7d411996cc982db257cc4e37c6d640e0d0805811e8154717563090f824e325e"), looks := true }, kinds := [], alts := [], laidByText := true, laidKinds := [.data, .data, .data], laidTests := true, laidLooks := .later }
def ShowFixedUptoCardSaid : Prop := Claim7.holds Tryd.pinned (.plain (OpenSpec.upto showFixedSpec)) showFixedUptoCard

/-- THE SECOND FORM's CARD OF 'transhiplaw14.ShowUnlike'. -/
def showUnlikeUptoCard : Claim7 := { stood := { row := showUnlikeUptoRow, standIns := [], harness := (true, "f7d411996cc982db257cc4e37c6d640e0d0805811e8154717563090f824e325e"), looks := true }, kinds := [], alts := [], laidByText := true, laidKinds := [.data, .data, .data], laidTests := true, laidLooks := .later }
def ShowUnlikeUptoCardSaid : Prop := Claim7.holds Tryd.pinned (.plain (OpenSpec.upto showUnlikeSpec)) showUnlikeUptoCard
end Rows
end Go.Proofs.YtdhfbphliejcdaaDoor
