/-
  DERIVED. GIVEN WITH THE SEED: THE CARDS: each row of YtjkifdjjcfempaaDoorRows.lean that lists a variable, with what it lists TIED to the program's text (the seventh form; the later family's looks); each row that meets fmt, with fmt's text TOLD by the authors' own Lean function (tested against real Go, not proved from fmt's source: count such statements apart). THE CARD IS WHAT COUNTS. Prove the row's statement (the work); the ties are given (YtjkifdjjcfempaaDoorTie.lean); close each card by the builder's one call (the guide's Derived/Test/ToyasCard.lean, 'card_holds'). Laid BY PROGRAM, IN A SANDBOX (cutbox-door.mjs). By AI agents, Wed Nov 11 2026. No macro, syntax, notation, axiom, sorry.
-/
import Derived.Test.YtjkifdjjcfempaaDoorRows
import GoSem.ClaimSeven
namespace Go.Proofs.YtjkifdjjcfempaaDoor
namespace Rows

/-- THE TIED CARD OF 'gemellaw12.ChangeCanon'. -/
def changeCanonCard : Claim7 := { stood := { row := changeCanonRow, standIns := [], harness := (true, "5b57188e4d30d610ef30f25f19888ce90610149b1484ff6838de73db52ddff3f"), looks := false }, kinds := [], alts := [], laidByText := true, laidKinds := [.data, .data], laidTests := true, laidLooks := .later }
def ChangeCanonCardSaid : Prop := Claim7.holds Tryd.pinned (.plain (OpenSpec.ofChange changeCanonSpec)) changeCanonCard

/-- THE TIED CARD OF 'gemellaw12.ChangeOrder'. -/
def changeOrderCard : Claim7 := { stood := { row := changeOrderRow, standIns := [], harness := (true, "5b57188e4d30d610ef30f25f19888ce90610149b1484ff6838de73db52ddff3f"), looks := false }, kinds := [], alts := [], laidByText := true, laidKinds := [.data, .data], laidTests := true, laidLooks := .later }
def ChangeOrderCardSaid : Prop := Claim7.holds Tryd.pinned (.plain (OpenSpec.ofChange changeOrderSpec)) changeOrderCard

/-- THE SECOND FORM's CARD OF 'gemellaw12.ChangeCanon'. -/
def changeCanonUptoCard : Claim7 := { stood := { row := changeCanonUptoRow, standIns := [], harness := (true, "5b57188e4d30d610ef30f25f19888ce90610149b1484ff6838de73db52ddff3f"), looks := false }, kinds := [], alts := [], laidByText := true, laidKinds := [.data, .data], laidTests := true, laidLooks := .later }
def ChangeCanonUptoCardSaid : Prop := Claim7.holds Tryd.pinned (.plain (OpenSpec.upto changeCanonSpec)) changeCanonUptoCard

/-- THE SECOND FORM's CARD OF 'gemellaw12.ChangeOrder'. -/
def changeOrderUptoCard : Claim7 := { stood := { row := changeOrderUptoRow, standIns := [], harness := (true, "5b57188e4d30d610ef30f25f19888ce90610149b1484ff6838de73db52ddff3f"), looks := false }, kinds := [], alts := [], laidByText := true, laidKinds := [.data, .data], laidTests := true, laidLooks := .later }
def ChangeOrderUptoCardSaid : Prop := Claim7.holds Tryd.pinned (.plain (OpenSpec.upto changeOrderSpec)) changeOrderUptoCard
end Rows
end Go.Proofs.YtjkifdjjcfempaaDoor
