/-
  No cell of these rows narrows 'for every input' (looked for: loops, veiled, ifaces, maps, wideKeys, modest, calm, conditions, laid).
  DERIVED. THE GIVEN ROWS OF THIS SEAT. 10 by the template 'for every input the law returns true; each argument reads behind the call as it read before'; 0 by the template 'total and deterministic' (their statements: YtbpgfmcnpifmdaaTotals.lean).
  GIVEN WITH THE SEED: the statements are not yours to turn. If you find one false, say at which input.
  Laid BY PROGRAM, IN A SANDBOX (cutbox-rows.mjs): the forced cells as the released guide's own fill.sh prints them over the translation 48a3206a214fc398… (all of the seat's roots in one cut). By AI agents, Wed Nov 11 2026. No macro, syntax, notation, axiom, sorry.
-/
import Derived.Test.YtbpgfmcnpifmdaaChecked
import GoSem.Claim
import GoSem.ClaimJoined
import GoSem.ClaimMapViews
import Derived.JoinedTies
import Derived.KernelRfl
namespace Go.Proofs.Ytbpgfmcnpifmdaa
/- THE CELL 'sum', in the pinned program and in every row, IS THE sha256 OF THE DUMP (.gsa) THAT YtbpgfmcnpifmdaaProg.lean LOADS. Nothing in Lean hashes anything: it is a label: what it is worth is what the hold of that sum in a sandbox is worth. -/
noncomputable def Try.pinned : Pinned := { name := "ytbpgfmcnpifmdaa", sum := "48a3206a214fc398b94e4c84bda1977bea07a6389f5123578fd867de2a6105e6", checked := Try.checked }
namespace Rows
def none {H : Type} : Left H := { results := [], args := [] }

/-- 'gemellaw11.SortedPlays': WHATEVER THE INPUT: true; the input reads as it did. -/
def sortedPlaysSpec : ChangeSpec := { name := "sortedPlays", fn := fun _ => fun
  | [d] => { results := [.lit (.bool true)], args := [d] }
  | _ => none }
def sortedPlaysRow : OpenClaim := { program := "ytbpgfmcnpifmdaa", sum := "48a3206a214fc398b94e4c84bda1977bea07a6389f5123578fd867de2a6105e6", func := "gemel/gemellaw11.SortedPlays", spec := "sortedPlays", inPlace := ["slices.overlaps[gemel/api.Row]", "slices.overlaps[gemel/sorted.block[gemel/api.Row]]"], unfollowed := true, recurses := true, apart := false }
def SortedPlaysSaid : Prop := sortedPlaysRow.holds Try.pinned (OpenSpec.ofChange sortedPlaysSpec)

/-- ITS FALSE NEIGHBOUR: 'it returns false'. Refute it at one input. -/
def sortedPlaysWrong : ChangeSpec := { name := "sortedPlays", fn := fun _ => fun
  | [d] => { results := [.lit (.bool false)], args := [d] }
  | _ => none }
def SortedPlaysWrongFalsely : Prop := sortedPlaysRow.holds Try.pinned (OpenSpec.ofChange sortedPlaysWrong)

/-- 'gemellaw11.SortedOrder': WHATEVER THE INPUT: true; the input reads as it did. -/
def sortedOrderSpec : ChangeSpec := { name := "sortedOrder", fn := fun _ => fun
  | [d1, d2] => { results := [.lit (.bool true)], args := [d1, d2] }
  | _ => none }
def sortedOrderRow : OpenClaim := { program := "ytbpgfmcnpifmdaa", sum := "48a3206a214fc398b94e4c84bda1977bea07a6389f5123578fd867de2a6105e6", func := "gemel/gemellaw11.SortedOrder", spec := "sortedOrder", inPlace := ["slices.overlaps[gemel/api.Row]", "slices.overlaps[gemel/sorted.block[gemel/api.Row]]"], unfollowed := true, recurses := true, apart := false }
def SortedOrderSaid : Prop := sortedOrderRow.holds Try.pinned (OpenSpec.ofChange sortedOrderSpec)

/-- ITS FALSE NEIGHBOUR: 'it returns false'. Refute it at one input. -/
def sortedOrderWrong : ChangeSpec := { name := "sortedOrder", fn := fun _ => fun
  | [d1, d2] => { results := [.lit (.bool false)], args := [d1, d2] }
  | _ => none }
def SortedOrderWrongFalsely : Prop := sortedOrderRow.holds Try.pinned (OpenSpec.ofChange sortedOrderWrong)

/-- 'gemellaw11.SortedParts': WHATEVER THE INPUT: true; the input reads as it did. -/
def sortedPartsSpec : ChangeSpec := { name := "sortedParts", fn := fun _ => fun
  | [d1, d2, d3] => { results := [.lit (.bool true)], args := [d1, d2, d3] }
  | _ => none }
def sortedPartsRow : OpenClaim := { program := "ytbpgfmcnpifmdaa", sum := "48a3206a214fc398b94e4c84bda1977bea07a6389f5123578fd867de2a6105e6", func := "gemel/gemellaw11.SortedParts", spec := "sortedParts", inPlace := ["slices.overlaps[gemel/api.Row]", "slices.overlaps[gemel/sorted.block[gemel/api.Row]]"], unfollowed := true, recurses := true, apart := false }
def SortedPartsSaid : Prop := sortedPartsRow.holds Try.pinned (OpenSpec.ofChange sortedPartsSpec)

/-- ITS FALSE NEIGHBOUR: 'it returns false'. Refute it at one input. -/
def sortedPartsWrong : ChangeSpec := { name := "sortedParts", fn := fun _ => fun
  | [d1, d2, d3] => { results := [.lit (.bool false)], args := [d1, d2, d3] }
  | _ => none }
def SortedPartsWrongFalsely : Prop := sortedPartsRow.holds Try.pinned (OpenSpec.ofChange sortedPartsWrong)

/-- 'gemellaw11.SortedApart': WHATEVER THE INPUT: true; the input reads as it did. -/
def sortedApartSpec : ChangeSpec := { name := "sortedApart", fn := fun _ => fun
  | [d1, d2] => { results := [.lit (.bool true)], args := [d1, d2] }
  | _ => none }
def sortedApartRow : OpenClaim := { program := "ytbpgfmcnpifmdaa", sum := "48a3206a214fc398b94e4c84bda1977bea07a6389f5123578fd867de2a6105e6", func := "gemel/gemellaw11.SortedApart", spec := "sortedApart", inPlace := ["slices.overlaps[gemel/api.Row]", "slices.overlaps[gemel/sorted.block[gemel/api.Row]]"], unfollowed := true, recurses := true, apart := false }
def SortedApartSaid : Prop := sortedApartRow.holds Try.pinned (OpenSpec.ofChange sortedApartSpec)

/-- ITS FALSE NEIGHBOUR: 'it returns false'. Refute it at one input. -/
def sortedApartWrong : ChangeSpec := { name := "sortedApart", fn := fun _ => fun
  | [d1, d2] => { results := [.lit (.bool false)], args := [d1, d2] }
  | _ => none }
def SortedApartWrongFalsely : Prop := sortedApartRow.holds Try.pinned (OpenSpec.ofChange sortedApartWrong)

/-- 'gemellaw11.SortedNobody': WHATEVER THE INPUT: true; the input reads as it did. -/
def sortedNobodySpec : ChangeSpec := { name := "sortedNobody", fn := fun _ => fun
  | [d] => { results := [.lit (.bool true)], args := [d] }
  | _ => none }
def sortedNobodyRow : OpenClaim := { program := "ytbpgfmcnpifmdaa", sum := "48a3206a214fc398b94e4c84bda1977bea07a6389f5123578fd867de2a6105e6", func := "gemel/gemellaw11.SortedNobody", spec := "sortedNobody", inPlace := ["slices.overlaps[gemel/api.Row]", "slices.overlaps[gemel/sorted.block[gemel/api.Row]]"], unfollowed := true, recurses := true, apart := false }
def SortedNobodySaid : Prop := sortedNobodyRow.holds Try.pinned (OpenSpec.ofChange sortedNobodySpec)

/-- ITS FALSE NEIGHBOUR: 'it returns false'. Refute it at one input. -/
def sortedNobodyWrong : ChangeSpec := { name := "sortedNobody", fn := fun _ => fun
  | [d] => { results := [.lit (.bool false)], args := [d] }
  | _ => none }
def SortedNobodyWrongFalsely : Prop := sortedNobodyRow.holds Try.pinned (OpenSpec.ofChange sortedNobodyWrong)

/-- 'gemellaw15.DiskPlays': WHATEVER THE INPUT: true; the input reads as it did. -/
def diskPlaysSpec : ChangeSpec := { name := "diskPlays", fn := fun _ => fun
  | [d1, d2, d3] => { results := [.lit (.bool true)], args := [d1, d2, d3] }
  | _ => none }
def diskPlaysRow : OpenClaim := { program := "ytbpgfmcnpifmdaa", sum := "48a3206a214fc398b94e4c84bda1977bea07a6389f5123578fd867de2a6105e6", func := "gemel/gemellaw15.DiskPlays", spec := "diskPlays", unfollowed := true, recurses := true, apart := false }
def DiskPlaysSaid : Prop := diskPlaysRow.holds Try.pinned (OpenSpec.ofChange diskPlaysSpec)

/-- ITS FALSE NEIGHBOUR: 'it returns false'. Refute it at one input. -/
def diskPlaysWrong : ChangeSpec := { name := "diskPlays", fn := fun _ => fun
  | [d1, d2, d3] => { results := [.lit (.bool false)], args := [d1, d2, d3] }
  | _ => none }
def DiskPlaysWrongFalsely : Prop := diskPlaysRow.holds Try.pinned (OpenSpec.ofChange diskPlaysWrong)

/-- 'gemellaw15.DiskSure': WHATEVER THE INPUT: true; the input reads as it did. -/
def diskSureSpec : ChangeSpec := { name := "diskSure", fn := fun _ => fun
  | [d1, d2, d3, d4] => { results := [.lit (.bool true)], args := [d1, d2, d3, d4] }
  | _ => none }
def diskSureRow : OpenClaim := { program := "ytbpgfmcnpifmdaa", sum := "48a3206a214fc398b94e4c84bda1977bea07a6389f5123578fd867de2a6105e6", func := "gemel/gemellaw15.DiskSure", spec := "diskSure", unfollowed := true, recurses := true, apart := false }
def DiskSureSaid : Prop := diskSureRow.holds Try.pinned (OpenSpec.ofChange diskSureSpec)

/-- ITS FALSE NEIGHBOUR: 'it returns false'. Refute it at one input. -/
def diskSureWrong : ChangeSpec := { name := "diskSure", fn := fun _ => fun
  | [d1, d2, d3, d4] => { results := [.lit (.bool false)], args := [d1, d2, d3, d4] }
  | _ => none }
def DiskSureWrongFalsely : Prop := diskSureRow.holds Try.pinned (OpenSpec.ofChange diskSureWrong)

/-- 'gemellaw15.DiskRefused': WHATEVER THE INPUT: true; the input reads as it did. -/
def diskRefusedSpec : ChangeSpec := { name := "diskRefused", fn := fun _ => fun
  | [d] => { results := [.lit (.bool true)], args := [d] }
  | _ => none }
def diskRefusedRow : OpenClaim := { program := "ytbpgfmcnpifmdaa", sum := "48a3206a214fc398b94e4c84bda1977bea07a6389f5123578fd867de2a6105e6", func := "gemel/gemellaw15.DiskRefused", spec := "diskRefused", unfollowed := true, recurses := true, apart := false }
def DiskRefusedSaid : Prop := diskRefusedRow.holds Try.pinned (OpenSpec.ofChange diskRefusedSpec)

/-- ITS FALSE NEIGHBOUR: 'it returns false'. Refute it at one input. -/
def diskRefusedWrong : ChangeSpec := { name := "diskRefused", fn := fun _ => fun
  | [d] => { results := [.lit (.bool false)], args := [d] }
  | _ => none }
def DiskRefusedWrongFalsely : Prop := diskRefusedRow.holds Try.pinned (OpenSpec.ofChange diskRefusedWrong)

/-- 'gemellaw15.DiskTwice': WHATEVER THE INPUT: true; the input reads as it did. -/
def diskTwiceSpec : ChangeSpec := { name := "diskTwice", fn := fun _ => fun
  | [d1, d2, d3] => { results := [.lit (.bool true)], args := [d1, d2, d3] }
  | _ => none }
def diskTwiceRow : OpenClaim := { program := "ytbpgfmcnpifmdaa", sum := "48a3206a214fc398b94e4c84bda1977bea07a6389f5123578fd867de2a6105e6", func := "gemel/gemellaw15.DiskTwice", spec := "diskTwice", unfollowed := true, recurses := true, apart := false }
def DiskTwiceSaid : Prop := diskTwiceRow.holds Try.pinned (OpenSpec.ofChange diskTwiceSpec)

/-- ITS FALSE NEIGHBOUR: 'it returns false'. Refute it at one input. -/
def diskTwiceWrong : ChangeSpec := { name := "diskTwice", fn := fun _ => fun
  | [d1, d2, d3] => { results := [.lit (.bool false)], args := [d1, d2, d3] }
  | _ => none }
def DiskTwiceWrongFalsely : Prop := diskTwiceRow.holds Try.pinned (OpenSpec.ofChange diskTwiceWrong)

/-- 'gemellaw15.DiskNobody': WHATEVER THE INPUT: true; the input reads as it did. -/
def diskNobodySpec : ChangeSpec := { name := "diskNobody", fn := fun _ => fun
  | [d] => { results := [.lit (.bool true)], args := [d] }
  | _ => none }
def diskNobodyRow : OpenClaim := { program := "ytbpgfmcnpifmdaa", sum := "48a3206a214fc398b94e4c84bda1977bea07a6389f5123578fd867de2a6105e6", func := "gemel/gemellaw15.DiskNobody", spec := "diskNobody", unfollowed := true, recurses := true, apart := false }
def DiskNobodySaid : Prop := diskNobodyRow.holds Try.pinned (OpenSpec.ofChange diskNobodySpec)

/-- ITS FALSE NEIGHBOUR: 'it returns false'. Refute it at one input. -/
def diskNobodyWrong : ChangeSpec := { name := "diskNobody", fn := fun _ => fun
  | [d] => { results := [.lit (.bool false)], args := [d] }
  | _ => none }
def DiskNobodyWrongFalsely : Prop := diskNobodyRow.holds Try.pinned (OpenSpec.ofChange diskNobodyWrong)

/- THE SECOND FORM. 'bulk': how many values and letters a reading holds, each counted each time it is reached (what is shared counts as often as it is met; a slice's spare places count too). A statement '..UptoSaid' is the law's where the arguments, and the package variables that the reading takes, are together of bulk at most 1048576: NARROWER than '..Said'. Prove '..Said' where nothing that the law and all that it calls make is longer than what came in: it says more and counts as full. Else prove '..UptoSaid'. A law counts once. -/
mutual
def uptoBulk {H : Type} : DataW H → Nat
  | .lit (.string bytes) => bytes.length + 1
  | .lit _ => 1
  | .nil => 1
  | .ptr d => uptoBulk d + 1
  | .slice elems spare => uptoBulkAll elems + uptoBulkAll spare + 1
  | .agg parts => uptoBulkAll parts + 1
  | .iface _ d => uptoBulk d + 1
  | .map entries => uptoBulkEntries entries + 1
  | .held _ => 1
def uptoBulkAll {H : Type} : List (DataW H) → Nat
  | [] => 0
  | d :: r => uptoBulk d + uptoBulkAll r
def uptoBulkEntries {H : Type} : List (Lit × DataW H) → Nat
  | [] => 0
  | x :: r => uptoBulkEntry x + uptoBulkEntries r
def uptoBulkEntry {H : Type} : Lit × DataW H → Nat
  | (.string bytes, d) => bytes.length + uptoBulk d + 1
  | (_, d) => uptoBulk d + 1
 end
def uptoSmall : (H : Type) → List (DataW H) → Bool := fun _ ds => decide (uptoBulkAll ds ≤ 1048576)
def OpenSpec.upto (s : _root_.Go.ChangeSpec) : _root_.Go.OpenSpec := { _root_.Go.OpenSpec.ofChange s with cond := some uptoSmall }

/-- 'gemellaw11.SortedPlays', WHERE WHAT IT READS IS OF BULK AT MOST 1048576: true; the input reads as it did. -/
def sortedPlaysUptoRow : OpenClaim := { program := "ytbpgfmcnpifmdaa", sum := "48a3206a214fc398b94e4c84bda1977bea07a6389f5123578fd867de2a6105e6", func := "gemel/gemellaw11.SortedPlays", spec := "sortedPlays", inPlace := ["slices.overlaps[gemel/api.Row]", "slices.overlaps[gemel/sorted.block[gemel/api.Row]]"], unfollowed := true, recurses := true, apart := false, narrowed := true }
def SortedPlaysUptoSaid : Prop := sortedPlaysUptoRow.holds Try.pinned (OpenSpec.upto sortedPlaysSpec)

/-- 'gemellaw11.SortedOrder', WHERE WHAT IT READS IS OF BULK AT MOST 1048576: true; the input reads as it did. -/
def sortedOrderUptoRow : OpenClaim := { program := "ytbpgfmcnpifmdaa", sum := "48a3206a214fc398b94e4c84bda1977bea07a6389f5123578fd867de2a6105e6", func := "gemel/gemellaw11.SortedOrder", spec := "sortedOrder", inPlace := ["slices.overlaps[gemel/api.Row]", "slices.overlaps[gemel/sorted.block[gemel/api.Row]]"], unfollowed := true, recurses := true, apart := false, narrowed := true }
def SortedOrderUptoSaid : Prop := sortedOrderUptoRow.holds Try.pinned (OpenSpec.upto sortedOrderSpec)

/-- 'gemellaw11.SortedParts', WHERE WHAT IT READS IS OF BULK AT MOST 1048576: true; the input reads as it did. -/
def sortedPartsUptoRow : OpenClaim := { program := "ytbpgfmcnpifmdaa", sum := "48a3206a214fc398b94e4c84bda1977bea07a6389f5123578fd867de2a6105e6", func := "gemel/gemellaw11.SortedParts", spec := "sortedParts", inPlace := ["slices.overlaps[gemel/api.Row]", "slices.overlaps[gemel/sorted.block[gemel/api.Row]]"], unfollowed := true, recurses := true, apart := false, narrowed := true }
def SortedPartsUptoSaid : Prop := sortedPartsUptoRow.holds Try.pinned (OpenSpec.upto sortedPartsSpec)

/-- 'gemellaw11.SortedApart', WHERE WHAT IT READS IS OF BULK AT MOST 1048576: true; the input reads as it did. -/
def sortedApartUptoRow : OpenClaim := { program := "ytbpgfmcnpifmdaa", sum := "48a3206a214fc398b94e4c84bda1977bea07a6389f5123578fd867de2a6105e6", func := "gemel/gemellaw11.SortedApart", spec := "sortedApart", inPlace := ["slices.overlaps[gemel/api.Row]", "slices.overlaps[gemel/sorted.block[gemel/api.Row]]"], unfollowed := true, recurses := true, apart := false, narrowed := true }
def SortedApartUptoSaid : Prop := sortedApartUptoRow.holds Try.pinned (OpenSpec.upto sortedApartSpec)

/-- 'gemellaw11.SortedNobody', WHERE WHAT IT READS IS OF BULK AT MOST 1048576: true; the input reads as it did. -/
def sortedNobodyUptoRow : OpenClaim := { program := "ytbpgfmcnpifmdaa", sum := "48a3206a214fc398b94e4c84bda1977bea07a6389f5123578fd867de2a6105e6", func := "gemel/gemellaw11.SortedNobody", spec := "sortedNobody", inPlace := ["slices.overlaps[gemel/api.Row]", "slices.overlaps[gemel/sorted.block[gemel/api.Row]]"], unfollowed := true, recurses := true, apart := false, narrowed := true }
def SortedNobodyUptoSaid : Prop := sortedNobodyUptoRow.holds Try.pinned (OpenSpec.upto sortedNobodySpec)

/-- 'gemellaw15.DiskPlays', WHERE WHAT IT READS IS OF BULK AT MOST 1048576: true; the input reads as it did. -/
def diskPlaysUptoRow : OpenClaim := { program := "ytbpgfmcnpifmdaa", sum := "48a3206a214fc398b94e4c84bda1977bea07a6389f5123578fd867de2a6105e6", func := "gemel/gemellaw15.DiskPlays", spec := "diskPlays", unfollowed := true, recurses := true, apart := false, narrowed := true }
def DiskPlaysUptoSaid : Prop := diskPlaysUptoRow.holds Try.pinned (OpenSpec.upto diskPlaysSpec)

/-- 'gemellaw15.DiskSure', WHERE WHAT IT READS IS OF BULK AT MOST 1048576: true; the input reads as it did. -/
def diskSureUptoRow : OpenClaim := { program := "ytbpgfmcnpifmdaa", sum := "48a3206a214fc398b94e4c84bda1977bea07a6389f5123578fd867de2a6105e6", func := "gemel/gemellaw15.DiskSure", spec := "diskSure", unfollowed := true, recurses := true, apart := false, narrowed := true }
def DiskSureUptoSaid : Prop := diskSureUptoRow.holds Try.pinned (OpenSpec.upto diskSureSpec)

/-- 'gemellaw15.DiskRefused', WHERE WHAT IT READS IS OF BULK AT MOST 1048576: true; the input reads as it did. -/
def diskRefusedUptoRow : OpenClaim := { program := "ytbpgfmcnpifmdaa", sum := "48a3206a214fc398b94e4c84bda1977bea07a6389f5123578fd867de2a6105e6", func := "gemel/gemellaw15.DiskRefused", spec := "diskRefused", unfollowed := true, recurses := true, apart := false, narrowed := true }
def DiskRefusedUptoSaid : Prop := diskRefusedUptoRow.holds Try.pinned (OpenSpec.upto diskRefusedSpec)

/-- 'gemellaw15.DiskTwice', WHERE WHAT IT READS IS OF BULK AT MOST 1048576: true; the input reads as it did. -/
def diskTwiceUptoRow : OpenClaim := { program := "ytbpgfmcnpifmdaa", sum := "48a3206a214fc398b94e4c84bda1977bea07a6389f5123578fd867de2a6105e6", func := "gemel/gemellaw15.DiskTwice", spec := "diskTwice", unfollowed := true, recurses := true, apart := false, narrowed := true }
def DiskTwiceUptoSaid : Prop := diskTwiceUptoRow.holds Try.pinned (OpenSpec.upto diskTwiceSpec)

/-- 'gemellaw15.DiskNobody', WHERE WHAT IT READS IS OF BULK AT MOST 1048576: true; the input reads as it did. -/
def diskNobodyUptoRow : OpenClaim := { program := "ytbpgfmcnpifmdaa", sum := "48a3206a214fc398b94e4c84bda1977bea07a6389f5123578fd867de2a6105e6", func := "gemel/gemellaw15.DiskNobody", spec := "diskNobody", unfollowed := true, recurses := true, apart := false, narrowed := true }
def DiskNobodyUptoSaid : Prop := diskNobodyUptoRow.holds Try.pinned (OpenSpec.upto diskNobodySpec)

end Rows
end Go.Proofs.Ytbpgfmcnpifmdaa
