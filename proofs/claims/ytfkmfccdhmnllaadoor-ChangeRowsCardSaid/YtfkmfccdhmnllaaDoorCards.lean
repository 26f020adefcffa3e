/-
  DERIVED. GIVEN WITH THE SEED: THE CARDS: each row of YtfkmfccdhmnllaaDoorRows.lean that lists a variable, with what it lists TIED to the program's text (the seventh form; the later family's looks); each row that meets fmt, with fmt's text TOLD by the authors' own Lean function (tested against real Go, not proved from fmt's source: count such statements apart). THE CARD IS WHAT COUNTS. Prove the row's statement (the work); the ties are given (YtfkmfccdhmnllaaDoorTie.lean); close each card by the builder's one call (the guide's Derived/Test/ToyasCard.lean, 'card_holds'). Laid BY PROGRAM, IN A SANDBOX (cutbox-door.mjs). By AI agents, Wed Nov 11 2026. No macro, syntax, notation, axiom, sorry.
-/
import Derived.Test.YtfkmfccdhmnllaaDoorRows
import GoSem.ClaimSeven
namespace Go.Proofs.YtfkmfccdhmnllaaDoor
namespace Rows

/-- THE TIED CARD OF 'gemellaw12.ChangeChecks'. -/
def changeChecksCard : Claim7 := { stood := { row := changeChecksRow, standIns := [], harness := (true, "9f2016d288c5c4983daf2d198f7969e5277b75d183d5ddc1d59cd5e5a53fe85f"), looks := false }, kinds := [], alts := [], laidByText := true, laidKinds := [.data, .data], laidTests := true, laidLooks := .later }
def ChangeChecksCardSaid : Prop := Claim7.holds Tryd.pinned (.plain (OpenSpec.ofChange changeChecksSpec)) changeChecksCard

/-- THE TIED CARD OF 'gemellaw12.ChangeCanon'. -/
def changeCanonCard : Claim7 := { stood := { row := changeCanonRow, standIns := [], harness := (true, "9f2016d288c5c4983daf2d198f7969e5277b75d183d5ddc1d59cd5e5a53fe85f"), looks := false }, kinds := [], alts := [], laidByText := true, laidKinds := [.data, .data], laidTests := true, laidLooks := .later }
def ChangeCanonCardSaid : Prop := Claim7.holds Tryd.pinned (.plain (OpenSpec.ofChange changeCanonSpec)) changeCanonCard

/-- THE TIED CARD OF 'gemellaw12.ChangeOrder'. -/
def changeOrderCard : Claim7 := { stood := { row := changeOrderRow, standIns := [], harness := (true, "9f2016d288c5c4983daf2d198f7969e5277b75d183d5ddc1d59cd5e5a53fe85f"), looks := false }, kinds := [], alts := [], laidByText := true, laidKinds := [.data, .data], laidTests := true, laidLooks := .later }
def ChangeOrderCardSaid : Prop := Claim7.holds Tryd.pinned (.plain (OpenSpec.ofChange changeOrderSpec)) changeOrderCard

/-- THE TIED CARD OF 'gemellaw12.ChangeBytes'. -/
def changeBytesCard : Claim7 := { stood := { row := changeBytesRow, standIns := [], harness := (true, "9f2016d288c5c4983daf2d198f7969e5277b75d183d5ddc1d59cd5e5a53fe85f"), looks := false }, kinds := [], alts := [], laidByText := true, laidKinds := [.data, .data], laidTests := true, laidLooks := .later }
def ChangeBytesCardSaid : Prop := Claim7.holds Tryd.pinned (.plain (OpenSpec.ofChange changeBytesSpec)) changeBytesCard

/-- THE TIED CARD OF 'gemellaw12.ChangeBack'. -/
def changeBackCard : Claim7 := { stood := { row := changeBackRow, standIns := [], harness := (true, "9f2016d288c5c4983daf2d198f7969e5277b75d183d5ddc1d59cd5e5a53fe85f"), looks := false }, kinds := [], alts := [], laidByText := true, laidKinds := [.data, .data], laidTests := true, laidLooks := .later }
def ChangeBackCardSaid : Prop := Claim7.holds Tryd.pinned (.plain (OpenSpec.ofChange changeBackSpec)) changeBackCard

/-- THE TIED CARD OF 'gemellaw12.ChangeRows'. -/
def changeRowsCard : Claim7 := { stood := { row := changeRowsRow, standIns := [], harness := (true, "9f2016d288c5c4983daf2d198f7969e5277b75d183d5ddc1d59cd5e5a53fe85f"), looks := false }, kinds := [], alts := [], laidByText := true, laidKinds := [.data, .data], laidTests := true, laidLooks := .later }
def ChangeRowsCardSaid : Prop := Claim7.holds Tryd.pinned (.plain (OpenSpec.ofChange changeRowsSpec)) changeRowsCard

/-- THE SECOND FORM's CARD OF 'gemellaw12.ChangeChecks'. -/
def changeChecksUptoCard : Claim7 := { stood := { row := changeChecksUptoRow, standIns := [], harness := (true, "9f2016d288c5c4983daf2d198f7969e5277b75d183d5ddc1d59cd5e5a53fe85f"), looks := false }, kinds := [], alts := [], laidByText := true, laidKinds := [.data, .data], laidTests := true, laidLooks := .later }
def ChangeChecksUptoCardSaid : Prop := Claim7.holds Tryd.pinned (.plain (OpenSpec.upto changeChecksSpec)) changeChecksUptoCard

/-- THE SECOND FORM's CARD OF 'gemellaw12.ChangeCanon'. -/
def changeCanonUptoCard : Claim7 := { stood := { row := changeCanonUptoRow, standIns := [], harness := (true, "9f2016d288c5c4983daf2d198f7969e5277b75d183d5ddc1d59cd5e5a53fe85f"), looks := false }, kinds := [], alts := [], laidByText := true, laidKinds := [.data, .data], laidTests := true, laidLooks := .later }
def ChangeCanonUptoCardSaid : Prop := Claim7.holds Tryd.pinned (.plain (OpenSpec.upto changeCanonSpec)) changeCanonUptoCard

/-- THE SECOND FORM's CARD OF 'gemellaw12.ChangeOrder'. -/
def changeOrderUptoCard : Claim7 := { stood := { row := changeOrderUptoRow, standIns := [], harness := (true, "9f2016d288c5c4983daf2d198f7969e5277b75d183d5ddc1d59cd5e5a53fe85f"), looks := false }, kinds := [], alts := [], laidByText := true, laidKinds := [.data, .data], laidTests := true, laidLooks := .later }
def ChangeOrderUptoCardSaid : Prop := Claim7.holds Tryd.pinned (.plain (OpenSpec.upto changeOrderSpec)) changeOrderUptoCard

/-- THE SECOND FORM's CARD OF 'gemellaw12.ChangeBytes'. -/
def changeBytesUptoCard : Claim7 := { stood := { row := changeBytesUptoRow, standIns := [], harness := (true, "9f2016d288c5c4983daf2d198f7969e5277b75d183d5ddc1d59cd5e5a53fe85f"), looks := false }, kinds := [], alts := [], laidByText := true, laidKinds := [.data, .data], laidTests := true, laidLooks := .later }
def ChangeBytesUptoCardSaid : Prop := Claim7.holds Tryd.pinned (.plain (OpenSpec.upto changeBytesSpec)) changeBytesUptoCard

/-- THE SECOND FORM's CARD OF 'gemellaw12.ChangeBack'. -/
def changeBackUptoCard : Claim7 := { stood := { row := changeBackUptoRow, standIns := [], harness := (true, "9f2016d288c5c4983daf2d198f7969e5277b75d183d5ddc1d59cd5e5a53fe85f"), looks := false }, kinds := [], alts := [], laidByText := true, laidKinds := [.data, .data], laidTests := true, laidLooks := .later }
def ChangeBackUptoCardSaid : Prop := Claim7.holds Tryd.pinned (.plain (OpenSpec.upto changeBackSpec)) changeBackUptoCard

/-- THE SECOND FORM's CARD OF 'gemellaw12.ChangeRows'. -/
def changeRowsUptoCard : Claim7 := { stood := { row := changeRowsUptoRow, standIns := [], harness := (true, "9f2016d288c5c4983daf2d198f7969e5277b75d183d5ddc1d59cd5e5a53fe85f"), looks := false }, kinds := [], alts := [], laidByText := true, laidKinds := [.data, .data], laidTests := true, laidLooks := .later }
def ChangeRowsUptoCardSaid : Prop := Claim7.holds Tryd.pinned (.plain (OpenSpec.upto changeRowsSpec)) changeRowsUptoCard
end Rows
end Go.Proofs.YtfkmfccdhmnllaaDoor
