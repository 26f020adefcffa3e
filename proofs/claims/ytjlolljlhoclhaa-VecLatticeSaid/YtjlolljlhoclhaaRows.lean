/-
  No cell of these rows narrows 'for every input' (looked for: loops, veiled, ifaces, maps, wideKeys, modest, calm, conditions, laid).
  DERIVED. THE GIVEN ROWS OF THIS SEAT. 5 by the template 'for every input the law returns true; each argument reads behind the call as it read before'; 0 by the template 'total and deterministic' (their statements: YtjlolljlhoclhaaTotals.lean).
  GIVEN WITH THE SEED: the statements are not yours to turn. If you find one false, say at which input.
  Laid BY PROGRAM, IN A SANDBOX (cutbox-rows.mjs): the forced cells as the released guide's own fill.sh prints them over the translation 7896f7b01e3ffa20… (all of the seat's roots in one cut). By AI agents, Wed Nov 11 2026. No macro, syntax, notation, axiom, sorry.
-/
import Derived.Test.YtjlolljlhoclhaaChecked
import GoSem.Claim
import GoSem.ClaimJoined
import GoSem.ClaimMapViews
import Derived.JoinedTies
import Derived.KernelRfl
namespace Go.Proofs.Ytjlolljlhoclhaa
/- THE CELL 'sum', in the pinned program and in every row, IS THE sha256 OF THE DUMP (.gsa) THAT YtjlolljlhoclhaaProg.lean LOADS. Nothing in Lean hashes anything: it is a label: what it is worth is what the hold of that sum in a sandbox is worth. -/
noncomputable def Try.pinned : Pinned := { name := "ytjlolljlhoclhaa", sum := "7896f7b01e3ffa20164f585f580824df8ffb12e8cf3f5545a8c14d050f140256", checked := Try.checked }
namespace Rows
def none {H : Type} : Left H := { results := [], args := [] }

/-- 'gemellaw06.VecCompares': WHATEVER THE INPUT: true; the input reads as it did. -/
def vecComparesSpec : ChangeSpec := { name := "vecCompares", fn := fun _ => fun
  | [d1, d2] => { results := [.lit (.bool true)], args := [d1, d2] }
  | _ => none }
def vecComparesRow : OpenClaim := { program := "ytjlolljlhoclhaa", sum := "7896f7b01e3ffa20164f585f580824df8ffb12e8cf3f5545a8c14d050f140256", func := "gemel/gemellaw06.VecCompares", spec := "vecCompares", unfollowed := true, recurses := true, apart := false }
def VecComparesSaid : Prop := vecComparesRow.holds Try.pinned (OpenSpec.ofChange vecComparesSpec)

/-- ITS FALSE NEIGHBOUR: 'it returns false'. Refute it at one input. -/
def vecComparesWrong : ChangeSpec := { name := "vecCompares", fn := fun _ => fun
  | [d1, d2] => { results := [.lit (.bool false)], args := [d1, d2] }
  | _ => none }
def VecComparesWrongFalsely : Prop := vecComparesRow.holds Try.pinned (OpenSpec.ofChange vecComparesWrong)

/-- 'gemellaw06.VecJoins': WHATEVER THE INPUT: true; the input reads as it did. -/
def vecJoinsSpec : ChangeSpec := { name := "vecJoins", fn := fun _ => fun
  | [d] => { results := [.lit (.bool true)], args := [d] }
  | _ => none }
def vecJoinsRow : OpenClaim := { program := "ytjlolljlhoclhaa", sum := "7896f7b01e3ffa20164f585f580824df8ffb12e8cf3f5545a8c14d050f140256", func := "gemel/gemellaw06.VecJoins", spec := "vecJoins", unfollowed := true, recurses := true, apart := false }
def VecJoinsSaid : Prop := vecJoinsRow.holds Try.pinned (OpenSpec.ofChange vecJoinsSpec)

/-- ITS FALSE NEIGHBOUR: 'it returns false'. Refute it at one input. -/
def vecJoinsWrong : ChangeSpec := { name := "vecJoins", fn := fun _ => fun
  | [d] => { results := [.lit (.bool false)], args := [d] }
  | _ => none }
def VecJoinsWrongFalsely : Prop := vecJoinsRow.holds Try.pinned (OpenSpec.ofChange vecJoinsWrong)

/-- 'gemellaw06.VecNexts': WHATEVER THE INPUT: true; the input reads as it did. -/
def vecNextsSpec : ChangeSpec := { name := "vecNexts", fn := fun _ => fun
  | [d1, d2, d3] => { results := [.lit (.bool true)], args := [d1, d2, d3] }
  | _ => none }
def vecNextsRow : OpenClaim := { program := "ytjlolljlhoclhaa", sum := "7896f7b01e3ffa20164f585f580824df8ffb12e8cf3f5545a8c14d050f140256", func := "gemel/gemellaw06.VecNexts", spec := "vecNexts", unfollowed := true, recurses := true, apart := false }
def VecNextsSaid : Prop := vecNextsRow.holds Try.pinned (OpenSpec.ofChange vecNextsSpec)

/-- ITS FALSE NEIGHBOUR: 'it returns false'. Refute it at one input. -/
def vecNextsWrong : ChangeSpec := { name := "vecNexts", fn := fun _ => fun
  | [d1, d2, d3] => { results := [.lit (.bool false)], args := [d1, d2, d3] }
  | _ => none }
def VecNextsWrongFalsely : Prop := vecNextsRow.holds Try.pinned (OpenSpec.ofChange vecNextsWrong)

/-- 'gemellaw06.VecLattice': WHATEVER THE INPUT: true; the input reads as it did. -/
def vecLatticeSpec : ChangeSpec := { name := "vecLattice", fn := fun _ => fun
  | [d1, d2, d3] => { results := [.lit (.bool true)], args := [d1, d2, d3] }
  | _ => none }
def vecLatticeRow : OpenClaim := { program := "ytjlolljlhoclhaa", sum := "7896f7b01e3ffa20164f585f580824df8ffb12e8cf3f5545a8c14d050f140256", func := "gemel/gemellaw06.VecLattice", spec := "vecLattice", unfollowed := true, recurses := true, apart := false }
def VecLatticeSaid : Prop := vecLatticeRow.holds Try.pinned (OpenSpec.ofChange vecLatticeSpec)

/-- ITS FALSE NEIGHBOUR: 'it returns false'. Refute it at one input. -/
def vecLatticeWrong : ChangeSpec := { name := "vecLattice", fn := fun _ => fun
  | [d1, d2, d3] => { results := [.lit (.bool false)], args := [d1, d2, d3] }
  | _ => none }
def VecLatticeWrongFalsely : Prop := vecLatticeRow.holds Try.pinned (OpenSpec.ofChange vecLatticeWrong)

/-- 'gemellaw06.VecOn': WHATEVER THE INPUT: true; the input reads as it did. -/
def vecOnSpec : ChangeSpec := { name := "vecOn", fn := fun _ => fun
  | [d1, d2] => { results := [.lit (.bool true)], args := [d1, d2] }
  | _ => none }
def vecOnRow : OpenClaim := { program := "ytjlolljlhoclhaa", sum := "7896f7b01e3ffa20164f585f580824df8ffb12e8cf3f5545a8c14d050f140256", func := "gemel/gemellaw06.VecOn", spec := "vecOn", unfollowed := true, recurses := true, apart := false }
def VecOnSaid : Prop := vecOnRow.holds Try.pinned (OpenSpec.ofChange vecOnSpec)

/-- ITS FALSE NEIGHBOUR: 'it returns false'. Refute it at one input. -/
def vecOnWrong : ChangeSpec := { name := "vecOn", fn := fun _ => fun
  | [d1, d2] => { results := [.lit (.bool false)], args := [d1, d2] }
  | _ => none }
def VecOnWrongFalsely : Prop := vecOnRow.holds Try.pinned (OpenSpec.ofChange vecOnWrong)

/- THE SECOND FORM. 'bulk': how many values and letters a reading holds, each counted each time it is reached (what is shared counts as often as it is met; a slice's spare places count too). A statement '..UptoSaid' is the law's where the arguments, and the package variables that the reading takes, are together of bulk at most 1048576: NARROWER than '..Said'. Prove '..Said' where nothing that the law and all that it calls make is longer than what came in: it says more and counts as full. Else prove '..UptoSaid'. A law counts once. -/
mutual
def uptoBulk {H : Type} : DataW H → Nat
  | .lit (.string bytes) => bytes.length + 1
  | .lit _ => 1
  | .nil => 1
  | .ptr d => uptoBulk d + 1
  | .slice elems spare => uptoBulkAll elems + uptoBulkAll spare + 1
  | .agg parts => uptoBulkAll parts + 1
  | .iface _ d => uptoBulk d + 1
  | .map entries => uptoBulkEntries entries + 1
  | .held _ => 1
def uptoBulkAll {H : Type} : List (DataW H) → Nat
  | [] => 0
  | d :: r => uptoBulk d + uptoBulkAll r
def uptoBulkEntries {H : Type} : List (Lit × DataW H) → Nat
  | [] => 0
  | x :: r => uptoBulkEntry x + uptoBulkEntries r
def uptoBulkEntry {H : Type} : Lit × DataW H → Nat
  | (.string bytes, d) => bytes.length + uptoBulk d + 1
  | (_, d) => uptoBulk d + 1
 end
def uptoSmall : (H : Type) → List (DataW H) → Bool := fun _ ds => decide (uptoBulkAll ds ≤ 1048576)
def OpenSpec.upto (s : _root_.Go.ChangeSpec) : _root_.Go.OpenSpec := { _root_.Go.OpenSpec.ofChange s with cond := some uptoSmall }

/-- 'gemellaw06.VecCompares', WHERE WHAT IT READS IS OF BULK AT MOST 1048576: true; the input reads as it did. -/
def vecComparesUptoRow : OpenClaim := { program := "ytjlolljlhoclhaa", sum := "7896f7b01e3ffa20164f585f580824df8ffb12e8cf3f5545a8c14d050f140256", func := "gemel/gemellaw06.VecCompares", spec := "vecCompares", unfollowed := true, recurses := true, apart := false, narrowed := true }
def VecComparesUptoSaid : Prop := vecComparesUptoRow.holds Try.pinned (OpenSpec.upto vecComparesSpec)

/-- 'gemellaw06.VecJoins', WHERE WHAT IT READS IS OF BULK AT MOST 1048576: true; the input reads as it did. -/
def vecJoinsUptoRow : OpenClaim := { program := "ytjlolljlhoclhaa", sum := "7896f7b01e3ffa20164f585f580824df8ffb12e8cf3f5545a8c14d050f140256", func := "gemel/gemellaw06.VecJoins", spec := "vecJoins", unfollowed := true, recurses := true, apart := false, narrowed := true }
def VecJoinsUptoSaid : Prop := vecJoinsUptoRow.holds Try.pinned (OpenSpec.upto vecJoinsSpec)

/-- 'gemellaw06.VecNexts', WHERE WHAT IT READS IS OF BULK AT MOST 1048576: true; the input reads as it did. -/
def vecNextsUptoRow : OpenClaim := { program := "ytjlolljlhoclhaa", sum := "7896f7b01e3ffa20164f585f580824df8ffb12e8cf3f5545a8c14d050f140256", func := "gemel/gemellaw06.VecNexts", spec := "vecNexts", unfollowed := true, recurses := true, apart := false, narrowed := true }
def VecNextsUptoSaid : Prop := vecNextsUptoRow.holds Try.pinned (OpenSpec.upto vecNextsSpec)

/-- 'gemellaw06.VecLattice', WHERE WHAT IT READS IS OF BULK AT MOST 1048576: true; the input reads as it did. -/
def vecLatticeUptoRow : OpenClaim := { program := "ytjlolljlhoclhaa", sum := "7896f7b01e3ffa20164f585f580824df8ffb12e8cf3f5545a8c14d050f140256", func := "gemel/gemellaw06.VecLattice", spec := "vecLattice", unfollowed := true, recurses := true, apart := false, narrowed := true }
def VecLatticeUptoSaid : Prop := vecLatticeUptoRow.holds Try.pinned (OpenSpec.upto vecLatticeSpec)

/-- 'gemellaw06.VecOn', WHERE WHAT IT READS IS OF BULK AT MOST 1048576: true; the input reads as it did. -/
def vecOnUptoRow : OpenClaim := { program := "ytjlolljlhoclhaa", sum := "7896f7b01e3ffa20164f585f580824df8ffb12e8cf3f5545a8c14d050f140256", func := "gemel/gemellaw06.VecOn", spec := "vecOn", unfollowed := true, recurses := true, apart := false, narrowed := true }
def VecOnUptoSaid : Prop := vecOnUptoRow.holds Try.pinned (OpenSpec.upto vecOnSpec)

end Rows
end Go.Proofs.Ytjlolljlhoclhaa
