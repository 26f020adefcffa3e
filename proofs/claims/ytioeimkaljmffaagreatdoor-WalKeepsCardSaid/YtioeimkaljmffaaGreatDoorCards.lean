/-
  DERIVED. GIVEN WITH THE SEED: THE CARDS: each row of YtioeimkaljmffaaGreatDoorRows.lean that lists a variable, with what it lists TIED to the program's text (the seventh form; the later family's looks); each row that meets fmt, with fmt's text TOLD by the authors' own Lean function (tested against real Go, not proved from fmt's source: count such statements apart). THE CARD IS WHAT COUNTS. Prove the row's statement (the work); the ties are given (YtioeimkaljmffaaGreatDoorTie.lean); close each card by the builder's one call (the guide's Derived/Test/ToyasCard.lean, 'card_holds'). Laid BY PROGRAM, IN A SANDBOX (cutbox-door.mjs). By AI agents, Wed Nov 11 2026. No macro, syntax, notation, axiom, sorry.
-/
import Derived.Test.YtioeimkaljmffaaGreatDoorRows
import GoSem.ClaimSeven
namespace Go.Proofs.YtioeimkaljmffaaGreatDoor
namespace Rows

/-- THE TIED CARD OF 'gemellaw16.WalPlays'. -/
def walPlaysCard : Claim7 := { stood := { row := walPlaysRow, standIns := [], harness := (true, "d90d27301e2a3bb7a9eaf0ba3bfcbeb8a04c1c5a0c9edb394c4e1ae01b5a0725"), looks := true }, kinds := [], alts := [], laidByText := true, laidKinds := [.data, .data, .data, .sentinel, .sentinel], laidTests := true, laidLooks := .later }
def WalPlaysCardSaid : Prop := Claim7.holds Tryz.pinned (.plain (OpenSpec.ofChange walPlaysSpec)) walPlaysCard

/-- THE TIED CARD OF 'gemellaw16.WalKeeps'. -/
def walKeepsCard : Claim7 := { stood := { row := walKeepsRow, standIns := [], harness := (true, "d90d27301e2a3bb7a9eaf0ba3bfcbeb8a04c1c5a0c9edb394c4e1ae01b5a0725"), looks := true }, kinds := [], alts := [], laidByText := true, laidKinds := [.data, .data, .data, .sentinel, .sentinel], laidTests := true, laidLooks := .later }
def WalKeepsCardSaid : Prop := Claim7.holds Tryz.pinned (.plain (OpenSpec.ofChange walKeepsSpec)) walKeepsCard

/-- THE TIED CARD OF 'gemellaw16.WalRetires'. -/
def walRetiresCard : Claim7 := { stood := { row := walRetiresRow, standIns := [], harness := (true, "d90d27301e2a3bb7a9eaf0ba3bfcbeb8a04c1c5a0c9edb394c4e1ae01b5a0725"), looks := true }, kinds := [], alts := [], laidByText := true, laidKinds := [.data, .data, .data, .sentinel, .sentinel], laidTests := true, laidLooks := .later }
def WalRetiresCardSaid : Prop := Claim7.holds Tryz.pinned (.plain (OpenSpec.ofChange walRetiresSpec)) walRetiresCard

/-- THE TIED CARD OF 'gemellaw16.WalTorn'. -/
def walTornCard : Claim7 := { stood := { row := walTornRow, standIns := [], harness := (true, "d90d27301e2a3bb7a9eaf0ba3bfcbeb8a04c1c5a0c9edb394c4e1ae01b5a0725"), looks := true }, kinds := [], alts := [], laidByText := true, laidKinds := [.data, .data, .data, .sentinel, .sentinel], laidTests := true, laidLooks := .later }
def WalTornCardSaid : Prop := Claim7.holds Tryz.pinned (.plain (OpenSpec.ofChange walTornSpec)) walTornCard

/-- THE SECOND FORM's CARD OF 'gemellaw16.WalPlays'. -/
def walPlaysUptoCard : Claim7 := { stood := { row := walPlaysUptoRow, standIns := [], harness := (true, "d90d27301e2a3bb7a9eaf0ba3bfcbeb8a04c1c5a0c9edb394c4e1ae01b5a0725"), looks := true }, kinds := [], alts := [], laidByText := true, laidKinds := [.data, .data, .data, .sentinel, .sentinel], laidTests := true, laidLooks := .later }
def WalPlaysUptoCardSaid : Prop := Claim7.holds Tryz.pinned (.plain (OpenSpec.upto walPlaysSpec)) walPlaysUptoCard

/-- THE SECOND FORM's CARD OF 'gemellaw16.WalKeeps'. -/
def walKeepsUptoCard : Claim7 := { stood := { row := walKeepsUptoRow, standIns := [], harness := (true, "d90d27301e2a3bb7a9eaf0ba3bfcbeb8a04c1c5a0c9edb394c4e1ae01b5a0725"), looks := true }, kinds := [], alts := [], laidByText := true, laidKinds := [.data, .data, .data, .sentinel, .sentinel], laidTests := true, laidLooks := .later }
def WalKeepsUptoCardSaid : Prop := Claim7.holds Tryz.pinned (.plain (OpenSpec.upto walKeepsSpec)) walKeepsUptoCard

/-- THE SECOND FORM's CARD OF 'gemellaw16.WalRetires'. -/
def walRetiresUptoCard : Claim7 := { stood := { row := walRetiresUptoRow, standIns := [], harness := (true, "d90d27301e2a3bb7a9eaf0ba3bfcbeb8a04c1c5a0c9edb394c4e1ae01b5a0725"), looks := true }, kinds := [], alts := [], laidByText := true, laidKinds := [.data, .data, .data, .sentinel, .sentinel], laidTests := true, laidLooks := .later }
def WalRetiresUptoCardSaid : Prop := Claim7.holds Tryz.pinned (.plain (OpenSpec.upto walRetiresSpec)) walRetiresUptoCard

/-- THE SECOND FORM's CARD OF 'gemellaw16.WalTorn'. -/
def walTornUptoCard : Claim7 := { stood := { row := walTornUptoRow, standIns := [], harness := (true, "d90d27301e2a3bb7a9eaf0ba3bfcbeb8a04c1c5a0c9edb394c4e1ae01b5a0725"), looks := true }, kinds := [], alts := [], laidByText := true, laidKinds := [.data, .data, .data, .sentinel, .sentinel], laidTests := true, laidLooks := .later }
def WalTornUptoCardSaid : Prop := Claim7.holds Tryz.pinned (.plain (OpenSpec.upto walTornSpec)) walTornUptoCard
end Rows
end Go.Proofs.YtioeimkaljmffaaGreatDoor
