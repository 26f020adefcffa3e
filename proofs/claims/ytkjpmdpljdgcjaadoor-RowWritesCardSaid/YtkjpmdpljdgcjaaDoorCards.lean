/-
  DERIVED. GIVEN WITH THE SEED: THE CARDS: each row of YtkjpmdpljdgcjaaDoorRows.lean that lists a variable, with what it lists TIED to the program's text (the seventh form; the later family's looks); each row that meets fmt, with fmt's text TOLD by the authors' own Lean function (tested against real Go, not proved from fmt's source: count such statements apart). THE CARD IS WHAT COUNTS. Prove the row's statement (the work); the ties are given (YtkjpmdpljdgcjaaDoorTie.lean); close each card by the builder's one call (the guide's Derived/Test/ToyasCard.lean, 'card_holds'). Laid BY PROGRAM, IN A SANDBOX (cutbox-door.mjs). By AI agents, Wed Nov 11 2026. No macro, syntax, notation, axiom, sorry.
-/
import Derived.Test.YtkjpmdpljdgcjaaDoorRows
import GoSem.ClaimSeven
namespace Go.Proofs.YtkjpmdpljdgcjaaDoor
namespace Rows

/-- THE TIED CARD OF 'gemellaw10.RowChecks'. -/
def rowChecksCard : Claim7 := { stood := { row := rowChecksRow, standIns := [], harness := (true, "53c4a74dca76c0d04ab1a0bb781d34fb52c76a65a8f2d715e5667c90acc3957a"), looks := false }, kinds := [], alts := [], laidByText := true, laidKinds := [.data, .data], laidTests := true, laidLooks := .later }
def RowChecksCardSaid : Prop := Claim7.holds Tryd.pinned (.plain (OpenSpec.ofChange rowChecksSpec)) rowChecksCard

/-- THE TIED CARD OF 'gemellaw10.RowWrites'. -/
def rowWritesCard : Claim7 := { stood := { row := rowWritesRow, standIns := [], harness := (true, "53c4a74dca76c0d04ab1a0bb781d34fb52c76a65a8f2d715e5667c90acc3957a"), looks := false }, kinds := [], alts := [], laidByText := true, laidKinds := [.data, .data], laidTests := true, laidLooks := .later }
def RowWritesCardSaid : Prop := Claim7.holds Tryd.pinned (.plain (OpenSpec.ofChange rowWritesSpec)) rowWritesCard

/-- THE TIED CARD OF 'gemellaw10.RowBytes'. -/
def rowBytesCard : Claim7 := { stood := { row := rowBytesRow, standIns := [], harness := (true, "53c4a74dca76c0d04ab1a0bb781d34fb52c76a65a8f2d715e5667c90acc3957a"), looks := false }, kinds := [], alts := [], laidByText := true, laidKinds := [.data, .data], laidTests := true, laidLooks := .later }
def RowBytesCardSaid : Prop := Claim7.holds Tryd.pinned (.plain (OpenSpec.ofChange rowBytesSpec)) rowBytesCard

/-- THE TIED CARD OF 'gemellaw10.RowLattice'. -/
def rowLatticeCard : Claim7 := { stood := { row := rowLatticeRow, standIns := [], harness := (true, "53c4a74dca76c0d04ab1a0bb781d34fb52c76a65a8f2d715e5667c90acc3957a"), looks := false }, kinds := [], alts := [], laidByText := true, laidKinds := [.data, .data], laidTests := true, laidLooks := .later }
def RowLatticeCardSaid : Prop := Claim7.holds Tryd.pinned (.plain (OpenSpec.ofChange rowLatticeSpec)) rowLatticeCard

/-- THE TIED CARD OF 'gemellaw10.RowApart'. -/
def rowApartCard : Claim7 := { stood := { row := rowApartRow, standIns := [], harness := (true, "53c4a74dca76c0d04ab1a0bb781d34fb52c76a65a8f2d715e5667c90acc3957a"), looks := false }, kinds := [], alts := [], laidByText := true, laidKinds := [.data, .data], laidTests := true, laidLooks := .later }
def RowApartCardSaid : Prop := Claim7.holds Tryd.pinned (.plain (OpenSpec.ofChange rowApartSpec)) rowApartCard

/-- THE SECOND FORM's CARD OF 'gemellaw10.RowChecks'. -/
def rowChecksUptoCard : Claim7 := { stood := { row := rowChecksUptoRow, standIns := [], harness := (true, "53c4a74dca76c0d04ab1a0bb781d34fb52c76a65a8f2d715e5667c90acc3957a"), looks := false }, kinds := [], alts := [], laidByText := true, laidKinds := [.data, .data], laidTests := true, laidLooks := .later }
def RowChecksUptoCardSaid : Prop := Claim7.holds Tryd.pinned (.plain (OpenSpec.upto rowChecksSpec)) rowChecksUptoCard

/-- THE SECOND FORM's CARD OF 'gemellaw10.RowWrites'. -/
def rowWritesUptoCard : Claim7 := { stood := { row := rowWritesUptoRow, standIns := [], harness := (true, "53c4a74dca76c0d04ab1a0bb781d34fb52c76a65a8f2d715e5667c90acc3957a"), looks := false }, kinds := [], alts := [], laidByText := true, laidKinds := [.data, .data], laidTests := true, laidLooks := .later }
def RowWritesUptoCardSaid : Prop := Claim7.holds Tryd.pinned (.plain (OpenSpec.upto rowWritesSpec)) rowWritesUptoCard

/-- THE SECOND FORM's CARD OF 'gemellaw10.RowBytes'. -/
def rowBytesUptoCard : Claim7 := { stood := { row := rowBytesUptoRow, standIns := [], harness := (true, "53c4a74dca76c0d04ab1a0bb781d34fb52c76a65a8f2d715e5667c90acc3957a"), looks := false }, kinds := [], alts := [], laidByText := true, laidKinds := [.data, .data], laidTests := true, laidLooks := .later }
def RowBytesUptoCardSaid : Prop := Claim7.holds Tryd.pinned (.plain (OpenSpec.upto rowBytesSpec)) rowBytesUptoCard

/-- THE SECOND FORM's CARD OF 'gemellaw10.RowLattice'. -/
def rowLatticeUptoCard : Claim7 := { stood := { row := rowLatticeUptoRow, standIns := [], harness := (true, "53c4a74dca76c0d04ab1a0bb781d34fb52c76a65a8f2d715e5667c90acc3957a"), looks := false }, kinds := [], alts := [], laidByText := true, laidKinds := [.data, .data], laidTests := true, laidLooks := .later }
def RowLatticeUptoCardSaid : Prop := Claim7.holds Tryd.pinned (.plain (OpenSpec.upto rowLatticeSpec)) rowLatticeUptoCard

/-- THE SECOND FORM's CARD OF 'gemellaw10.RowApart'. -/
def rowApartUptoCard : Claim7 := { stood := { row := rowApartUptoRow, standIns := [], harness := (true, "53c4a74dca76c0d04ab1a0bb781d34fb52c76a65a8f2d715e5667c90acc3957a"), looks := false }, kinds := [], alts := [], laidByText := true, laidKinds := [.data, .data], laidTests := true, laidLooks := .later }
def RowApartUptoCardSaid : Prop := Claim7.holds Tryd.pinned (.plain (OpenSpec.upto rowApartSpec)) rowApartUptoCard
end Rows
end Go.Proofs.YtkjpmdpljdgcjaaDoor
