/-
  No cell of these rows narrows 'for every input' (looked for: loops, veiled, ifaces, maps, wideKeys, modest, calm, conditions, laid).
  DERIVED. THE GIVEN ROWS OF THIS SEAT. 5 by the template 'for every input the law returns true; each argument reads behind the call as it read before'; 0 by the template 'total and deterministic' (their statements: YtdjhiaogpgaboaaTotals.lean).
  GIVEN WITH THE SEED: the statements are not yours to turn. If you find one false, say at which input.
  Laid BY PROGRAM, IN A SANDBOX (cutbox-rows.mjs): the forced cells as the released guide's own fill.sh prints them over the translation 7e99a7d266df1371… (all of the seat's roots in one cut). By AI agents, Wed Nov 11 2026. No macro, syntax, notation, axiom, sorry.
-/
import Derived.Test.YtdjhiaogpgaboaaChecked
import GoSem.Claim
import GoSem.ClaimJoined
import GoSem.ClaimMapViews
import Derived.JoinedTies
import Derived.KernelRfl
namespace Go.Proofs.Ytdjhiaogpgaboaa
/- THE CELL 'sum', in the pinned program and in every row, IS THE sha256 OF THE DUMP (.gsa) THAT YtdjhiaogpgaboaaProg.lean LOADS. Nothing in Lean hashes anything: it is a label: what it is worth is what the hold of that sum in a sandbox is worth. -/
noncomputable def Try.pinned : Pinned := { name := "ytdjhiaogpgaboaa", sum := "7e99a7d266df1371dcba061a8c2589dace5353e1a02ab8b3f083e62319f814c3", checked := Try.checked }
namespace Rows
def none {H : Type} : Left H := { results := [], args := [] }

/-- 'gemellaw23.FrontierLearns': WHATEVER THE INPUT: true; the input reads as it did. -/
def frontierLearnsSpec : ChangeSpec := { name := "frontierLearns", fn := fun _ => fun
  | [d1, d2, d3] => { results := [.lit (.bool true)], args := [d1, d2, d3] }
  | _ => none }
def frontierLearnsRow : OpenClaim := { program := "ytdjhiaogpgaboaa", sum := "7e99a7d266df1371dcba061a8c2589dace5353e1a02ab8b3f083e62319f814c3", func := "gemel/gemellaw23.FrontierLearns", spec := "frontierLearns", unfollowed := true, recurses := true, apart := false }
def FrontierLearnsSaid : Prop := frontierLearnsRow.holds Try.pinned (OpenSpec.ofChange frontierLearnsSpec)

/-- ITS FALSE NEIGHBOUR: 'it returns false'. Refute it at one input. -/
def frontierLearnsWrong : ChangeSpec := { name := "frontierLearns", fn := fun _ => fun
  | [d1, d2, d3] => { results := [.lit (.bool false)], args := [d1, d2, d3] }
  | _ => none }
def FrontierLearnsWrongFalsely : Prop := frontierLearnsRow.holds Try.pinned (OpenSpec.ofChange frontierLearnsWrong)

/-- 'gemellaw23.FrontierSweeps': WHATEVER THE INPUT: true; the input reads as it did. -/
def frontierSweepsSpec : ChangeSpec := { name := "frontierSweeps", fn := fun _ => fun
  | [d1, d2, d3] => { results := [.lit (.bool true)], args := [d1, d2, d3] }
  | _ => none }
def frontierSweepsRow : OpenClaim := { program := "ytdjhiaogpgaboaa", sum := "7e99a7d266df1371dcba061a8c2589dace5353e1a02ab8b3f083e62319f814c3", func := "gemel/gemellaw23.FrontierSweeps", spec := "frontierSweeps", unfollowed := true, recurses := true, apart := false }
def FrontierSweepsSaid : Prop := frontierSweepsRow.holds Try.pinned (OpenSpec.ofChange frontierSweepsSpec)

/-- ITS FALSE NEIGHBOUR: 'it returns false'. Refute it at one input. -/
def frontierSweepsWrong : ChangeSpec := { name := "frontierSweeps", fn := fun _ => fun
  | [d1, d2, d3] => { results := [.lit (.bool false)], args := [d1, d2, d3] }
  | _ => none }
def FrontierSweepsWrongFalsely : Prop := frontierSweepsRow.holds Try.pinned (OpenSpec.ofChange frontierSweepsWrong)

/-- 'gemellaw23.FrontierSeen': WHATEVER THE INPUT: true; the input reads as it did. -/
def frontierSeenSpec : ChangeSpec := { name := "frontierSeen", fn := fun _ => fun
  | [d1, d2, d3] => { results := [.lit (.bool true)], args := [d1, d2, d3] }
  | _ => none }
def frontierSeenRow : OpenClaim := { program := "ytdjhiaogpgaboaa", sum := "7e99a7d266df1371dcba061a8c2589dace5353e1a02ab8b3f083e62319f814c3", func := "gemel/gemellaw23.FrontierSeen", spec := "frontierSeen", unfollowed := true, recurses := true, apart := false }
def FrontierSeenSaid : Prop := frontierSeenRow.holds Try.pinned (OpenSpec.ofChange frontierSeenSpec)

/-- ITS FALSE NEIGHBOUR: 'it returns false'. Refute it at one input. -/
def frontierSeenWrong : ChangeSpec := { name := "frontierSeen", fn := fun _ => fun
  | [d1, d2, d3] => { results := [.lit (.bool false)], args := [d1, d2, d3] }
  | _ => none }
def FrontierSeenWrongFalsely : Prop := frontierSeenRow.holds Try.pinned (OpenSpec.ofChange frontierSeenWrong)

/-- 'gemellaw23.FrontierRest': WHATEVER THE INPUT: true; the input reads as it did. -/
def frontierRestSpec : ChangeSpec := { name := "frontierRest", fn := fun _ => fun
  | [d1, d2, d3] => { results := [.lit (.bool true)], args := [d1, d2, d3] }
  | _ => none }
def frontierRestRow : OpenClaim := { program := "ytdjhiaogpgaboaa", sum := "7e99a7d266df1371dcba061a8c2589dace5353e1a02ab8b3f083e62319f814c3", func := "gemel/gemellaw23.FrontierRest", spec := "frontierRest", unfollowed := true, recurses := true, apart := false }
def FrontierRestSaid : Prop := frontierRestRow.holds Try.pinned (OpenSpec.ofChange frontierRestSpec)

/-- ITS FALSE NEIGHBOUR: 'it returns false'. Refute it at one input. -/
def frontierRestWrong : ChangeSpec := { name := "frontierRest", fn := fun _ => fun
  | [d1, d2, d3] => { results := [.lit (.bool false)], args := [d1, d2, d3] }
  | _ => none }
def FrontierRestWrongFalsely : Prop := frontierRestRow.holds Try.pinned (OpenSpec.ofChange frontierRestWrong)

/-- 'gemellaw23.FrontierGrows': WHATEVER THE INPUT: true; the input reads as it did. -/
def frontierGrowsSpec : ChangeSpec := { name := "frontierGrows", fn := fun _ => fun
  | [d1, d2] => { results := [.lit (.bool true)], args := [d1, d2] }
  | _ => none }
def frontierGrowsRow : OpenClaim := { program := "ytdjhiaogpgaboaa", sum := "7e99a7d266df1371dcba061a8c2589dace5353e1a02ab8b3f083e62319f814c3", func := "gemel/gemellaw23.FrontierGrows", spec := "frontierGrows", unfollowed := true, recurses := true, apart := false }
def FrontierGrowsSaid : Prop := frontierGrowsRow.holds Try.pinned (OpenSpec.ofChange frontierGrowsSpec)

/-- ITS FALSE NEIGHBOUR: 'it returns false'. Refute it at one input. -/
def frontierGrowsWrong : ChangeSpec := { name := "frontierGrows", fn := fun _ => fun
  | [d1, d2] => { results := [.lit (.bool false)], args := [d1, d2] }
  | _ => none }
def FrontierGrowsWrongFalsely : Prop := frontierGrowsRow.holds Try.pinned (OpenSpec.ofChange frontierGrowsWrong)

/- THE SECOND FORM. 'bulk': how many values and letters a reading holds, each counted each time it is reached (what is shared counts as often as it is met; a slice's spare places count too). A statement '..UptoSaid' is the law's where the arguments, and the package variables that the reading takes, are together of bulk at most 1048576: NARROWER than '..Said'. Prove '..Said' where nothing that the law and all that it calls make is longer than what came in: it says more and counts as full. Else prove '..UptoSaid'. A law counts once. -/
mutual
def uptoBulk {H : Type} : DataW H → Nat
  | .lit (.string bytes) => bytes.length + 1
  | .lit _ => 1
  | .nil => 1
  | .ptr d => uptoBulk d + 1
  | .slice elems spare => uptoBulkAll elems + uptoBulkAll spare + 1
  | .agg parts => uptoBulkAll parts + 1
  | .iface _ d => uptoBulk d + 1
  | .map entries => uptoBulkEntries entries + 1
  | .held _ => 1
def uptoBulkAll {H : Type} : List (DataW H) → Nat
  | [] => 0
  | d :: r => uptoBulk d + uptoBulkAll r
def uptoBulkEntries {H : Type} : List (Lit × DataW H) → Nat
  | [] => 0
  | x :: r => uptoBulkEntry x + uptoBulkEntries r
def uptoBulkEntry {H : Type} : Lit × DataW H → Nat
  | (.string bytes, d) => bytes.length + uptoBulk d + 1
  | (_, d) => uptoBulk d + 1
 end
def uptoSmall : (H : Type) → List (DataW H) → Bool := fun _ ds => decide (uptoBulkAll ds ≤ 1048576)
def OpenSpec.upto (s : _root_.Go.ChangeSpec) : _root_.Go.OpenSpec := { _root_.Go.OpenSpec.ofChange s with cond := some uptoSmall }

/-- 'gemellaw23.FrontierLearns', WHERE WHAT IT READS IS OF BULK AT MOST 1048576: true; the input reads as it did. -/
def frontierLearnsUptoRow : OpenClaim := { program := "ytdjhiaogpgaboaa", sum := "7e99a7d266df1371dcba061a8c2589dace5353e1a02ab8b3f083e62319f814c3", func := "gemel/gemellaw23.FrontierLearns", spec := "frontierLearns", unfollowed := true, recurses := true, apart := false, narrowed := true }
def FrontierLearnsUptoSaid : Prop := frontierLearnsUptoRow.holds Try.pinned (OpenSpec.upto frontierLearnsSpec)

/-- 'gemellaw23.FrontierSweeps', WHERE WHAT IT READS IS OF BULK AT MOST 1048576: true; the input reads as it did. -/
def frontierSweepsUptoRow : OpenClaim := { program := "ytdjhiaogpgaboaa", sum := "7e99a7d266df1371dcba061a8c2589dace5353e1a02ab8b3f083e62319f814c3", func := "gemel/gemellaw23.FrontierSweeps", spec := "frontierSweeps", unfollowed := true, recurses := true, apart := false, narrowed := true }
def FrontierSweepsUptoSaid : Prop := frontierSweepsUptoRow.holds Try.pinned (OpenSpec.upto frontierSweepsSpec)

/-- 'gemellaw23.FrontierSeen', WHERE WHAT IT READS IS OF BULK AT MOST 1048576: true; the input reads as it did. -/
def frontierSeenUptoRow : OpenClaim := { program := "ytdjhiaogpgaboaa", sum := "7e99a7d266df1371dcba061a8c2589dace5353e1a02ab8b3f083e62319f814c3", func := "gemel/gemellaw23.FrontierSeen", spec := "frontierSeen", unfollowed := true, recurses := true, apart := false, narrowed := true }
def FrontierSeenUptoSaid : Prop := frontierSeenUptoRow.holds Try.pinned (OpenSpec.upto frontierSeenSpec)

/-- 'gemellaw23.FrontierRest', WHERE WHAT IT READS IS OF BULK AT MOST 1048576: true; the input reads as it did. -/
def frontierRestUptoRow : OpenClaim := { program := "ytdjhiaogpgaboaa", sum := "7e99a7d266df1371dcba061a8c2589dace5353e1a02ab8b3f083e62319f814c3", func := "gemel/gemellaw23.FrontierRest", spec := "frontierRest", unfollowed := true, recurses := true, apart := false, narrowed := true }
def FrontierRestUptoSaid : Prop := frontierRestUptoRow.holds Try.pinned (OpenSpec.upto frontierRestSpec)

/-- 'gemellaw23.FrontierGrows', WHERE WHAT IT READS IS OF BULK AT MOST 1048576: true; the input reads as it did. -/
def frontierGrowsUptoRow : OpenClaim := { program := "ytdjhiaogpgaboaa", sum := "7e99a7d266df1371dcba061a8c2589dace5353e1a02ab8b3f083e62319f814c3", func := "gemel/gemellaw23.FrontierGrows", spec := "frontierGrows", unfollowed := true, recurses := true, apart := false, narrowed := true }
def FrontierGrowsUptoSaid : Prop := frontierGrowsUptoRow.holds Try.pinned (OpenSpec.upto frontierGrowsSpec)

end Rows
end Go.Proofs.Ytdjhiaogpgaboaa
