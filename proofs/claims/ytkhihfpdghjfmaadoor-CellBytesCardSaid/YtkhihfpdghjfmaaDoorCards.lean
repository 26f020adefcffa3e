/-
  DERIVED. GIVEN WITH THE SEED: THE CARDS: each row of YtkhihfpdghjfmaaDoorRows.lean that lists a variable, with what it lists TIED to the program's text (the seventh form; the later family's looks); each row that meets fmt, with fmt's text TOLD by the authors' own Lean function (tested against real Go, not proved from fmt's source: count such statements apart). THE CARD IS WHAT COUNTS. Prove the row's statement (the work); the ties are given (YtkhihfpdghjfmaaDoorTie.lean); close each card by the builder's one call (the guide's Derived/Test/ToyasCard.lean, 'card_holds'). Laid BY PROGRAM, IN A SANDBOX (cutbox-door.mjs). By AI agents, Wed Nov 11 2026. No macro, syntax, notation, axiom, sorry.
-/
import Derived.Test.YtkhihfpdghjfmaaDoorRows
import GoSem.ClaimSeven
namespace Go.Proofs.YtkhihfpdghjfmaaDoor
namespace Rows

/-- THE TIED CARD OF 'gemellaw07.PolicyChecks'. -/
def policyChecksCard : Claim7 := { stood := { row := policyChecksRow, standIns := [], harness := (true, "31ed3a09a5905e55f7e0e330ffd3e3aaef5a447844df8303b9a0a79c5c236a7f"), looks := false }, kinds := [], alts := [], laidByText := true, laidKinds := [.data, .data], laidTests := true, laidLooks := .later }
def PolicyChecksCardSaid : Prop := Claim7.holds Tryd.pinned (.plain (OpenSpec.ofChange policyChecksSpec)) policyChecksCard

/-- THE TIED CARD OF 'gemellaw07.PolicyBytes'. -/
def policyBytesCard : Claim7 := { stood := { row := policyBytesRow, standIns := [], harness := (true, "31ed3a09a5905e55f7e0e330ffd3e3aaef5a447844df8303b9a0a79c5c236a7f"), looks := false }, kinds := [], alts := [], laidByText := true, laidKinds := [.data, .data], laidTests := true, laidLooks := .later }
def PolicyBytesCardSaid : Prop := Claim7.holds Tryd.pinned (.plain (OpenSpec.ofChange policyBytesSpec)) policyBytesCard

/-- THE TIED CARD OF 'gemellaw07.PolicyTexts'. -/
def policyTextsCard : Claim7 := { stood := { row := policyTextsRow, standIns := [], harness := (true, "31ed3a09a5905e55f7e0e330ffd3e3aaef5a447844df8303b9a0a79c5c236a7f"), looks := false }, kinds := [], alts := [], laidByText := true, laidKinds := [.data, .data], laidTests := true, laidLooks := .later }
def PolicyTextsCardSaid : Prop := Claim7.holds Tryd.pinned (.plain (OpenSpec.ofChange policyTextsSpec)) policyTextsCard

/-- THE TIED CARD OF 'gemellaw07.PolicyBack'. -/
def policyBackCard : Claim7 := { stood := { row := policyBackRow, standIns := [], harness := (true, "31ed3a09a5905e55f7e0e330ffd3e3aaef5a447844df8303b9a0a79c5c236a7f"), looks := false }, kinds := [], alts := [], laidByText := true, laidKinds := [.data, .data], laidTests := true, laidLooks := .later }
def PolicyBackCardSaid : Prop := Claim7.holds Tryd.pinned (.plain (OpenSpec.ofChange policyBackSpec)) policyBackCard

/-- THE TIED CARD OF 'gemellaw07.PolicyNames'. -/
def policyNamesCard : Claim7 := { stood := { row := policyNamesRow, standIns := [], harness := (true, "31ed3a09a5905e55f7e0e330ffd3e3aaef5a447844df8303b9a0a79c5c236a7f"), looks := false }, kinds := [], alts := [], laidByText := true, laidKinds := [.data, .data], laidTests := true, laidLooks := .later }
def PolicyNamesCardSaid : Prop := Claim7.holds Tryd.pinned (.plain (OpenSpec.ofChange policyNamesSpec)) policyNamesCard

/-- THE TIED CARD OF 'gemellaw08.CellChecks'. -/
def cellChecksCard : Claim7 := { stood := { row := cellChecksRow, standIns := [], harness := (true, "31ed3a09a5905e55f7e0e330ffd3e3aaef5a447844df8303b9a0a79c5c236a7f"), looks := false }, kinds := [], alts := [], laidByText := true, laidKinds := [.data, .data], laidTests := true, laidLooks := .later }
def CellChecksCardSaid : Prop := Claim7.holds Tryd.pinned (.plain (OpenSpec.ofChange cellChecksSpec)) cellChecksCard

/-- THE TIED CARD OF 'gemellaw08.CellWrites'. -/
def cellWritesCard : Claim7 := { stood := { row := cellWritesRow, standIns := [], harness := (true, "31ed3a09a5905e55f7e0e330ffd3e3aaef5a447844df8303b9a0a79c5c236a7f"), looks := false }, kinds := [], alts := [], laidByText := true, laidKinds := [.data, .data], laidTests := true, laidLooks := .later }
def CellWritesCardSaid : Prop := Claim7.holds Tryd.pinned (.plain (OpenSpec.ofChange cellWritesSpec)) cellWritesCard

/-- THE TIED CARD OF 'gemellaw08.CellBytes'. -/
def cellBytesCard : Claim7 := { stood := { row := cellBytesRow, standIns := [], harness := (true, "31ed3a09a5905e55f7e0e330ffd3e3aaef5a447844df8303b9a0a79c5c236a7f"), looks := false }, kinds := [], alts := [], laidByText := true, laidKinds := [.data, .data], laidTests := true, laidLooks := .later }
def CellBytesCardSaid : Prop := Claim7.holds Tryd.pinned (.plain (OpenSpec.ofChange cellBytesSpec)) cellBytesCard

/-- THE TIED CARD OF 'gemellaw08.CellBack'. -/
def cellBackCard : Claim7 := { stood := { row := cellBackRow, standIns := [], harness := (true, "31ed3a09a5905e55f7e0e330ffd3e3aaef5a447844df8303b9a0a79c5c236a7f"), looks := false }, kinds := [], alts := [], laidByText := true, laidKinds := [.data, .data], laidTests := true, laidLooks := .later }
def CellBackCardSaid : Prop := Claim7.holds Tryd.pinned (.plain (OpenSpec.ofChange cellBackSpec)) cellBackCard

/-- THE TIED CARD OF 'gemellaw08.CellSeen'. -/
def cellSeenCard : Claim7 := { stood := { row := cellSeenRow, standIns := [], harness := (true, "31ed3a09a5905e55f7e0e330ffd3e3aaef5a447844df8303b9a0a79c5c236a7f"), looks := false }, kinds := [], alts := [], laidByText := true, laidKinds := [.data, .data], laidTests := true, laidLooks := .later }
def CellSeenCardSaid : Prop := Claim7.holds Tryd.pinned (.plain (OpenSpec.ofChange cellSeenSpec)) cellSeenCard

/-- THE SECOND FORM's CARD OF 'gemellaw07.PolicyChecks'. -/
def policyChecksUptoCard : Claim7 := { stood := { row := policyChecksUptoRow, standIns := [], harness := (true, "31ed3a09a5905e55f7e0e330ffd3e3aaef5a447844df8303b9a0a79c5c236a7f"), looks := false }, kinds := [], alts := [], laidByText := true, laidKinds := [.data, .data], laidTests := true, laidLooks := .later }
def PolicyChecksUptoCardSaid : Prop := Claim7.holds Tryd.pinned (.plain (OpenSpec.upto policyChecksSpec)) policyChecksUptoCard

/-- THE SECOND FORM's CARD OF 'gemellaw07.PolicyBytes'. -/
def policyBytesUptoCard : Claim7 := { stood := { row := policyBytesUptoRow, standIns := [], harness := (true, "31ed3a09a5905e55f7e0e330ffd3e3aaef5a447844df8303b9a0a79c5c236a7f"), looks := false }, kinds := [], alts := [], laidByText := true, laidKinds := [.data, .data], laidTests := true, laidLooks := .later }
def PolicyBytesUptoCardSaid : Prop := Claim7.holds Tryd.pinned (.plain (OpenSpec.upto policyBytesSpec)) policyBytesUptoCard

/-- THE SECOND FORM's CARD OF 'gemellaw07.PolicyTexts'. -/
def policyTextsUptoCard : Claim7 := { stood := { row := policyTextsUptoRow, standIns := [], harness := (true, "31ed3a09a5905e55f7e0e330ffd3e3aaef5a447844df8303b9a0a79c5c236a7f"), looks := false }, kinds := [], alts := [], laidByText := true, laidKinds := [.data, .data], laidTests := true, laidLooks := .later }
def PolicyTextsUptoCardSaid : Prop := Claim7.holds Tryd.pinned (.plain (OpenSpec.upto policyTextsSpec)) policyTextsUptoCard

/-- THE SECOND FORM's CARD OF 'gemellaw07.PolicyBack'. -/
def policyBackUptoCard : Claim7 := { stood := { row := policyBackUptoRow, standIns := [], harness := (true, "31ed3a09a5905e55f7e0e330ffd3e3aaef5a447844df8303b9a0a79c5c236a7f"), looks := false }, kinds := [], alts := [], laidByText := true, laidKinds := [.data, .data], laidTests := true, laidLooks := .later }
def PolicyBackUptoCardSaid : Prop := Claim7.holds Tryd.pinned (.plain (OpenSpec.upto policyBackSpec)) policyBackUptoCard

/-- THE SECOND FORM's CARD OF 'gemellaw07.PolicyNames'. -/
def policyNamesUptoCard : Claim7 := { stood := { row := policyNamesUptoRow, standIns := [], harness := (true, "31ed3a09a5905e55f7e0e330ffd3e3aaef5a447844df8303b9a0a79c5c236a7f"), looks := false }, kinds := [], alts := [], laidByText := true, laidKinds := [.data, .data], laidTests := true, laidLooks := .later }
def PolicyNamesUptoCardSaid : Prop := Claim7.holds Tryd.pinned (.plain (OpenSpec.upto policyNamesSpec)) policyNamesUptoCard

/-- THE SECOND FORM's CARD OF 'gemellaw08.CellChecks'. -/
def cellChecksUptoCard : Claim7 := { stood := { row := cellChecksUptoRow, standIns := [], harness := (true, "31ed3a09a5905e55f7e0e330ffd3e3aaef5a447844df8303b9a0a79c5c236a7f"), looks := false }, kinds := [], alts := [], laidByText := true, laidKinds := [.data, .data], laidTests := true, laidLooks := .later }
def CellChecksUptoCardSaid : Prop := Claim7.holds Tryd.pinned (.plain (OpenSpec.upto cellChecksSpec)) cellChecksUptoCard

/-- THE SECOND FORM's CARD OF 'gemellaw08.CellWrites'. -/
def cellWritesUptoCard : Claim7 := { stood := { row := cellWritesUptoRow, standIns := [], harness := (true, "31ed3a09a5905e55f7e0e330ffd3e3aaef5a447844df8303b9a0a79c5c236a7f"), looks := false }, kinds := [], alts := [], laidByText := true, laidKinds := [.data, .data], laidTests := true, laidLooks := .later }
def CellWritesUptoCardSaid : Prop := Claim7.holds Tryd.pinned (.plain (OpenSpec.upto cellWritesSpec)) cellWritesUptoCard

/-- THE SECOND FORM's CARD OF 'gemellaw08.CellBytes'. -/
def cellBytesUptoCard : Claim7 := { stood := { row := cellBytesUptoRow, standIns := [], harness := (true, "31ed3a09a5905e55f7e0e330ffd3e3aaef5a447844df8303b9a0a79c5c236a7f"), looks := false }, kinds := [], alts := [], laidByText := true, laidKinds := [.data, .data], laidTests := true, laidLooks := .later }
def CellBytesUptoCardSaid : Prop := Claim7.holds Tryd.pinned (.plain (OpenSpec.upto cellBytesSpec)) cellBytesUptoCard

/-- THE SECOND FORM's CARD OF 'gemellaw08.CellBack'. -/
def cellBackUptoCard : Claim7 := { stood := { row := cellBackUptoRow, standIns := [], harness := (true, "31ed3a09a5905e55f7e0e330ffd3e3aaef5a447844df8303b9a0a79c5c236a7f"), looks := false }, kinds := [], alts := [], laidByText := true, laidKinds := [.data, .data], laidTests := true, laidLooks := .later }
def CellBackUptoCardSaid : Prop := Claim7.holds Tryd.pinned (.plain (OpenSpec.upto cellBackSpec)) cellBackUptoCard

/-- THE SECOND FORM's CARD OF 'gemellaw08.CellSeen'. -/
def cellSeenUptoCard : Claim7 := { stood := { row := cellSeenUptoRow, standIns := [], harness := (true, "31ed3a09a5905e55f7e0e330ffd3e3aaef5a447844df8303b9a0a79c5c236a7f"), looks := false }, kinds := [], alts := [], laidByText := true, laidKinds := [.data, .data], laidTests := true, laidLooks := .later }
def CellSeenUptoCardSaid : Prop := Claim7.holds Tryd.pinned (.plain (OpenSpec.upto cellSeenSpec)) cellSeenUptoCard
end Rows
end Go.Proofs.YtkhihfpdghjfmaaDoor
