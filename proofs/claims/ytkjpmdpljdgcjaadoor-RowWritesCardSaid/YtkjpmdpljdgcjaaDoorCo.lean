/-
  What the walks of many functions share: the bytes' type, and what a function tells that makes bytes.
-/
import Derived.Test.YtkjpmdpljdgcjaaDoorRows
import Derived.Test.YtkjpmdpljdgcjaaDoorPM
namespace Go.Proofs.YtkjpmdpljdgcjaaDoor
open Go.RowKit

/-- What a function tells that makes bytes: a slice of its own. -/
def BytesPost (l : List UInt8) (w : World) (e : Ending) (w' : World) : Prop := ∃ v, e = .returned v ∧ OwnB w' w.heap.size 5 v l ∧ Below w.heap.size w w'

theorem Tryd.info5 : (Tryd.prog.info? 5).map (fun i => (i.zero, i.size, i.bytes)) = some (some (.int .u8 0), 1, 1) := by kernel_rfl
end Go.Proofs.YtkjpmdpljdgcjaaDoor
