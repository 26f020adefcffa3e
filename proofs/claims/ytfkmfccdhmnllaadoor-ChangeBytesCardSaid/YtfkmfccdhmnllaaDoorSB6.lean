/-
  A world for the witness of the cards.
-/
import Derived.Test.YtfkmfccdhmnllaaDoorRows
import Derived.Stop.LaidErr
import Derived.Test.YtfkmfccdhmnllaaDoorSB5
namespace Go.Proofs.YtfkmfccdhmnllaaDoor
open Go.RowKit
set_option maxRecDepth 100000

/-- A world for the witness: the settled one, the tables holding what their initialisers lay. -/
noncomputable def laidWorld (os : Os) : World :=
  { World.holding Tryd.prog os ⟨#[], #[], []⟩ with
    heap := ((World.holding Tryd.prog os ⟨#[], #[], []⟩).heap.modify 0 (fun o => match o with
      | .cells _ t frozen => .cells (tab32.map (Value.int .u8)).toArray t frozen
      | o => o)).modify 1 (fun o => match o with
      | .cells _ t frozen => .cells (tab64.map (Value.int .u8)).toArray t frozen
      | o => o) }
end Go.Proofs.YtfkmfccdhmnllaaDoor
