/-
  The law's walk: a state that no call made takes nothing.
-/
import Derived.Test.YticcmhgahbnboaaDoorSN
namespace Go.Proofs.YticcmhgahbnboaaDoor
open Go.RowKit Go
set_option linter.unusedVariables false

theorem eqg_zero (W : World) : (eqGuard .neq 46 (.tmp 19) (.tmp 20) zdig (.agg #[.int .u8 0, .int .u8 0, .int .u8 0, .int .u8 0, .int .u8 0, .int .u8 0, .int .u8 0, .int .u8 0, .int .u8 0, .int .u8 0, .int .u8 0, .int .u8 0, .int .u8 0, .int .u8 0, .int .u8 0, .int .u8 0, .int .u8 0, .int .u8 0, .int .u8 0, .int .u8 0, .int .u8 0, .int .u8 0, .int .u8 0, .int .u8 0, .int .u8 0, .int .u8 0, .int .u8 0, .int .u8 0, .int .u8 0, .int .u8 0, .int .u8 0, .int .u8 0])).run Tryd.prog W = .ok () W := by kernel_rfl
theorem neq_zero (W : World) : (binOp .neq 46 zdig (.agg #[.int .u8 0, .int .u8 0, .int .u8 0, .int .u8 0, .int .u8 0, .int .u8 0, .int .u8 0, .int .u8 0, .int .u8 0, .int .u8 0, .int .u8 0, .int .u8 0, .int .u8 0, .int .u8 0, .int .u8 0, .int .u8 0, .int .u8 0, .int .u8 0, .int .u8 0, .int .u8 0, .int .u8 0, .int .u8 0, .int .u8 0, .int .u8 0, .int .u8 0, .int .u8 0, .int .u8 0, .int .u8 0, .int .u8 0, .int .u8 0, .int .u8 0, .int .u8 0])).run Tryd.prog W = .ok (.bool false) W := by kernel_rfl
set_option maxRecDepth 100000 in
set_option maxHeartbeats 800000 in
theorem nobody_c {w : World} {v : Value} (hT : TabS w) : Calls Tryd.prog 12 #[v] w (BoolPost true w) := by
  have hz : ((w.alloc (.cells Tryd.zeroCells64 64)).alloc (.cells #[.pointer none, .pointer (some ⟨w.heap.size, 0, none⟩)] 49)).cell? ⟨w.heap.size, 0, none⟩ = some (.bool false) := by
    rw [cell_of_row _ w.heap.size 0 Tryd.zeroCells64 64 (0, 0) ((Below.heap_alloc _ _ _ (by simp)).trans (heap_alloc_new w _))]
    kernel_rfl
  have hp : ((w.alloc (.cells Tryd.zeroCells64 64)).alloc (.cells #[.pointer none, .pointer (some ⟨w.heap.size, 0, none⟩)] 49)).heap[w.heap.size + 1]? = some (.cells #[.pointer none, .pointer (some ⟨w.heap.size, 0, none⟩)] 49 (0, 0)) := by
    have := heap_alloc_new (w.alloc (.cells Tryd.zeroCells64 64)) (.cells #[.pointer none, .pointer (some ⟨w.heap.size, 0, none⟩)] 49)
    rw [World.size_alloc] at this
    exact this
  have hb0 : Below w.heap.size w ((w.alloc (.cells Tryd.zeroCells64 64)).alloc (.cells #[.pointer none, .pointer (some ⟨w.heap.size, 0, none⟩)] 49)) := ((Below.refl _ w).alloc (Nat.le_refl _) _).alloc (by simp) _
  have c0 := (cell_of_row _ _ 0 _ _ _ hp)
  have c1 := (cell_of_row _ _ 1 _ _ _ hp)
  have HBU := Lib.hid (show Tryd.prog.built 46 [] = some (u8v (List.replicate 32 0)).toArray by kernel_rfl)
  clear hp
  have hEG := eqg_zero
  have hNE := neq_zero
  go_enter Tryd.func12, Tryd.ntmps12
  go_wp2_with fail
  generalize ((w.alloc (.cells Tryd.zeroCells64 64)).alloc (.cells #[.pointer none, .pointer (some ⟨w.heap.size, 0, none⟩)] 49)) = W0 at *
  go_loopw [9] (fun i wr => ∃ k : Nat, k ≤ 2 ∧ i = .int .i64 k ∧ Below W0.heap.size W0 wr) (fun i _ => 2 - (intOf i).toNat)
  case atStart => exact ⟨0, by omega, rfl, Below.refl _ _⟩
  case round =>
    obtain ⟨k, hk, rfl, hB⟩ := hrel
    have c0' : wr.cell? ⟨w.heap.size + 1, 0, none⟩ = some (.pointer none) := by rw [hB.cell (World.block_lt_of_cell? W0 _ c0)]; exact c0
    have c1' : wr.cell? ⟨w.heap.size + 1, 1, none⟩ = some (.pointer (some ⟨w.heap.size, 0, none⟩)) := by rw [hB.cell (World.block_lt_of_cell? W0 _ c1)]; exact c1
    have hz' : wr.cell? ⟨w.heap.size, 0, none⟩ = some (.bool false) := by rw [hB.cell (World.block_lt_of_cell? W0 _ hz)]; exact hz
    have hz2 : ∀ w2, Below wr.heap.size wr w2 → w2.cell? ⟨w.heap.size, 0, none⟩ = some (.bool false) := fun w2 h => by rw [h.cell (World.block_lt_of_cell? wr _ hz')]; exact hz'
    have HZ2 := Lib.hid hz2
    have HB := Lib.hid hB
    have HZ := Lib.hid hz'
    clear c0 c1 hz hB hz2
    rcases (by omega : k = 0 ∨ k = 1 ∨ k = 2) with rfl | rfl | rfl
    · clear hz'
      go_wp2_with (first
        | (go_at_call 27; (with_reducible refine (add_nil).mono ?_); rintro e w1 ⟨rfl, rfl⟩)
        | (go_at_call 29; (with_reducible refine (ssum_nil).mono ?_); rintro e w2 ⟨rfl, hb2⟩)
        | (go_at_call 28; (with_reducible refine (len_nil).mono ?_); rintro e w3 ⟨rfl, rfl⟩)
        | (refine wpList_buildTo rfl 46 #[] rfl (some 20) rfl (u8v (List.replicate 32 0)).toArray (by simpa using HBU.out) ?_))
      go_roundw
      case rel => exact ⟨_, by decide, rfl, HB.out.trans (hb2.mono HB.out.size)⟩
      case measure => simp [intOf]
    · clear hz'
      go_wp2_with (first
        | (go_at_call 27; (with_reducible refine (add_no HZ.out).mono ?_); rintro e w1 ⟨rfl, rfl⟩)
        | (go_at_call 29; (with_reducible refine (ssum_no HZ.out).mono ?_); rintro e w2 ⟨rfl, hb2⟩)
        | (go_at_call 28; (with_reducible refine (len_no (HZ2.out _ hb2)).mono ?_); rintro e w3 ⟨rfl, rfl⟩)
        | (refine wpList_buildTo rfl 46 #[] rfl (some 20) rfl (u8v (List.replicate 32 0)).toArray (by simpa using HBU.out) ?_))
      go_roundw
      case rel => exact ⟨_, by decide, rfl, HB.out.trans (hb2.mono HB.out.size)⟩
      case measure => simp [intOf]
    · go_wp2_with (go_at_call 23; (with_reducible refine (slives_c (hT.below (hb0.trans (HB.out.mono hb0.size)))).mono ?_); rintro e w1 ⟨rfl, hb1⟩)
      go_ret
      exact ⟨rfl, (hb0.trans (HB.out.mono hb0.size)).trans (hb1.mono (hb0.trans (HB.out.mono hb0.size)).size)⟩
end Go.Proofs.YticcmhgahbnboaaDoor
