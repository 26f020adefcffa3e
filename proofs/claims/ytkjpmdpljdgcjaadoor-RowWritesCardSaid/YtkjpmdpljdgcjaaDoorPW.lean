/-
  num.mark and what it calls of math/bits; the table that it reads.
-/
import Derived.Test.YtkjpmdpljdgcjaaDoorNW
import Derived.Test.YtkjpmdpljdgcjaaDoorPM
import Derived.Lib.LaidTab
namespace Go.Proofs.YtkjpmdpljdgcjaaDoor
open Go.RowKit
set_option linter.unusedVariables false

/-- The four cells of the table that sizes of numbers lead to. -/
structure TabW (w : World) : Prop where
  c0 : w.cell? ⟨1, 0, none⟩ = some (.int .u8 0)
  c1 : w.cell? ⟨1, 1, none⟩ = some (.int .u8 1)
  c2 : w.cell? ⟨1, 3, none⟩ = some (.int .u8 2)
  c3 : w.cell? ⟨1, 7, none⟩ = some (.int .u8 3)

theorem TabW.below {w w' : World} (h : TabW w) (hb : Below w.heap.size w w') : TabW w' := by
  have hlt : 1 < w.heap.size := World.block_lt_of_cell? w _ h.c0
  exact ⟨by rw [hb.cell hlt]; exact h.c0, by rw [hb.cell hlt]; exact h.c1, by rw [hb.cell hlt]; exact h.c2, by rw [hb.cell hlt]; exact h.c3⟩

def RetU8 (x : Int) (w : World) (e : Ending) (w' : World) : Prop := e = .returned (.int .u8 x) ∧ w = w'
theorem RetU8.mk {a x : Int} {w : World} (h : a = x) : RetU8 x w (.returned (.int .u8 a)) w := by subst h; exact ⟨rfl, rfl⟩

set_option maxHeartbeats 800000 in
theorem mark_c (k : Nat) (hk : k = 1 ∨ k = 2 ∨ k = 4 ∨ k = 8) {w : World} (hT : TabW w) : Calls Tryd.prog 117 #[.int .i64 (k : Int)] w (RetU8 (markS k : Nat) w) := by
  obtain ⟨c0, c1, c2, c3⟩ := hT
  rcases hk with rfl | rfl | rfl | rfl
  · have hx : IntKind.u64.wrap (bits BinOp.and IntKind.u64 1 (IntKind.u64.wrap (-1)) * 285870213051353865) / 288230376151711744 = 0 := by decide
    go_enter Tryd.func117, Tryd.ntmps117
    go_wp2
    go_ret
    exact RetU8.mk (by decide)
  · have hx : IntKind.u64.wrap (bits BinOp.and IntKind.u64 2 (IntKind.u64.wrap (-2)) * 285870213051353865) / 288230376151711744 = 1 := by decide
    go_enter Tryd.func117, Tryd.ntmps117
    go_wp2
    go_ret
    exact RetU8.mk (by decide)
  · have hx : IntKind.u64.wrap (bits BinOp.and IntKind.u64 4 (IntKind.u64.wrap (-4)) * 285870213051353865) / 288230376151711744 = 3 := by decide
    go_enter Tryd.func117, Tryd.ntmps117
    go_wp2
    go_ret
    exact RetU8.mk (by decide)
  · have hx : IntKind.u64.wrap (bits BinOp.and IntKind.u64 8 (IntKind.u64.wrap (-8)) * 285870213051353865) / 288230376151711744 = 7 := by decide
    go_enter Tryd.func117, Tryd.ntmps117
    go_wp2
    go_ret
    exact RetU8.mk (by decide)
end Go.Proofs.YtkjpmdpljdgcjaaDoor
