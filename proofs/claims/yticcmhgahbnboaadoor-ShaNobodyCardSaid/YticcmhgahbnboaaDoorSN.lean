/-
  A state that no call made.
-/
import Derived.Test.YticcmhgahbnboaaDoorSL
import Derived.Great.BuildSlice
namespace Go.Proofs.YticcmhgahbnboaaDoor
open Go.RowKit Go
set_option linter.unusedVariables false

/-- A digest of noughts. -/
def zdig : Value := .agg (u8v (List.replicate 32 0)).toArray
set_option maxRecDepth 100000 in
set_option maxHeartbeats 800000 in
theorem ssum_nil {w : World} : Calls Tryd.prog 29 #[.pointer none] w (ValPost zdig w) := by
  have hO : RowB (w.alloc (.cells #[.int .u8 0, .int .u8 0, .int .u8 0, .int .u8 0, .int .u8 0, .int .u8 0, .int .u8 0, .int .u8 0, .int .u8 0, .int .u8 0, .int .u8 0, .int .u8 0, .int .u8 0, .int .u8 0, .int .u8 0, .int .u8 0, .int .u8 0, .int .u8 0, .int .u8 0, .int .u8 0, .int .u8 0, .int .u8 0, .int .u8 0, .int .u8 0, .int .u8 0, .int .u8 0, .int .u8 0, .int .u8 0, .int .u8 0, .int .u8 0, .int .u8 0, .int .u8 0] 46)) w.heap.size 46 (List.replicate 32 0) := heap_alloc_new w _
  have hb0 : Below w.heap.size w (w.alloc (.cells #[.int .u8 0, .int .u8 0, .int .u8 0, .int .u8 0, .int .u8 0, .int .u8 0, .int .u8 0, .int .u8 0, .int .u8 0, .int .u8 0, .int .u8 0, .int .u8 0, .int .u8 0, .int .u8 0, .int .u8 0, .int .u8 0, .int .u8 0, .int .u8 0, .int .u8 0, .int .u8 0, .int .u8 0, .int .u8 0, .int .u8 0, .int .u8 0, .int .u8 0, .int .u8 0, .int .u8 0, .int .u8 0, .int .u8 0, .int .u8 0, .int .u8 0, .int .u8 0] 46)) := (Below.refl w.heap.size w).alloc (Nat.le_refl _) _
  have hgd := good_nil (w := (w.alloc (.cells #[.int .u8 0, .int .u8 0, .int .u8 0, .int .u8 0, .int .u8 0, .int .u8 0, .int .u8 0, .int .u8 0, .int .u8 0, .int .u8 0, .int .u8 0, .int .u8 0, .int .u8 0, .int .u8 0, .int .u8 0, .int .u8 0, .int .u8 0, .int .u8 0, .int .u8 0, .int .u8 0, .int .u8 0, .int .u8 0, .int .u8 0, .int .u8 0, .int .u8 0, .int .u8 0, .int .u8 0, .int .u8 0, .int .u8 0, .int .u8 0, .int .u8 0, .int .u8 0] 46)))
  obtain ⟨zs, hzs⟩ : ∃ l, List.replicate 32 (0 : UInt8) = l := ⟨_, rfl⟩
  have hlen : zs.length = 32 := by rw [← hzs]; rfl
  have hm := size_dig zs hlen
  have HBU := Lib.hid (show Tryd.prog.built 46 [] = some (u8v zs).toArray by rw [← hzs]; kernel_rfl)
  have hsz : (u8v zs).length = 32 := by rw [u8v_length]; exact hlen
  have hst := hO.store zs (by rw [hlen]; simp)
  have HCL := Lib.hid (show RowB _ w.heap.size 46 zs from hO.setRow zs)
  have HBN := Lib.hid (below_setRow hb0 (Nat.le_refl _) (u8v zs).toArray)
  have HZ := Lib.hid hzs
  clear hO hb0 hzs
  go_enter Tryd.func29, Tryd.ntmps29
  go_wp2_with (first
    | (go_at_call 44; (with_reducible refine hgd.mono ?_); rintro e w' ⟨rfl, rfl⟩)
    | (refine wpList_buildTo rfl 46 #[] rfl (some 9) rfl (u8v zs).toArray (by simpa using HBU.out) ?_))
  refine bodyPost_ret (results_cell_row rfl _ _ w.heap.size 46 (u8v zs).toArray (0, 0) _ rfl HCL.out Tryd.underlying46 rfl hm) rfl ⟨?_, HBN.out⟩
  unfold zdig
  rw [HZ.out]
set_option maxRecDepth 100000 in
set_option maxHeartbeats 800000 in
theorem ssum_no {w : World} {g : Nat} (hc : w.cell? ⟨g, 0, none⟩ = some (.bool false)) : Calls Tryd.prog 29 #[.pointer (some ⟨g, 0, none⟩)] w (ValPost zdig w) := by
  have hO : RowB (w.alloc (.cells #[.int .u8 0, .int .u8 0, .int .u8 0, .int .u8 0, .int .u8 0, .int .u8 0, .int .u8 0, .int .u8 0, .int .u8 0, .int .u8 0, .int .u8 0, .int .u8 0, .int .u8 0, .int .u8 0, .int .u8 0, .int .u8 0, .int .u8 0, .int .u8 0, .int .u8 0, .int .u8 0, .int .u8 0, .int .u8 0, .int .u8 0, .int .u8 0, .int .u8 0, .int .u8 0, .int .u8 0, .int .u8 0, .int .u8 0, .int .u8 0, .int .u8 0, .int .u8 0] 46)) w.heap.size 46 (List.replicate 32 0) := heap_alloc_new w _
  have hb0 : Below w.heap.size w (w.alloc (.cells #[.int .u8 0, .int .u8 0, .int .u8 0, .int .u8 0, .int .u8 0, .int .u8 0, .int .u8 0, .int .u8 0, .int .u8 0, .int .u8 0, .int .u8 0, .int .u8 0, .int .u8 0, .int .u8 0, .int .u8 0, .int .u8 0, .int .u8 0, .int .u8 0, .int .u8 0, .int .u8 0, .int .u8 0, .int .u8 0, .int .u8 0, .int .u8 0, .int .u8 0, .int .u8 0, .int .u8 0, .int .u8 0, .int .u8 0, .int .u8 0, .int .u8 0, .int .u8 0] 46)) := (Below.refl w.heap.size w).alloc (Nat.le_refl _) _
  have hgd := good_no (w := (w.alloc (.cells #[.int .u8 0, .int .u8 0, .int .u8 0, .int .u8 0, .int .u8 0, .int .u8 0, .int .u8 0, .int .u8 0, .int .u8 0, .int .u8 0, .int .u8 0, .int .u8 0, .int .u8 0, .int .u8 0, .int .u8 0, .int .u8 0, .int .u8 0, .int .u8 0, .int .u8 0, .int .u8 0, .int .u8 0, .int .u8 0, .int .u8 0, .int .u8 0, .int .u8 0, .int .u8 0, .int .u8 0, .int .u8 0, .int .u8 0, .int .u8 0, .int .u8 0, .int .u8 0] 46))) (g := g) (by rw [hb0.cell (World.block_lt_of_cell? w _ hc)]; exact hc)
  obtain ⟨zs, hzs⟩ : ∃ l, List.replicate 32 (0 : UInt8) = l := ⟨_, rfl⟩
  have hlen : zs.length = 32 := by rw [← hzs]; rfl
  have hm := size_dig zs hlen
  have HBU := Lib.hid (show Tryd.prog.built 46 [] = some (u8v zs).toArray by rw [← hzs]; kernel_rfl)
  have hsz : (u8v zs).length = 32 := by rw [u8v_length]; exact hlen
  have hst := hO.store zs (by rw [hlen]; simp)
  have HCL := Lib.hid (show RowB _ w.heap.size 46 zs from hO.setRow zs)
  have HBN := Lib.hid (below_setRow hb0 (Nat.le_refl _) (u8v zs).toArray)
  have HZ := Lib.hid hzs
  clear hO hb0 hzs
  go_enter Tryd.func29, Tryd.ntmps29
  go_wp2_with (first
    | (go_at_call 44; (with_reducible refine hgd.mono ?_); rintro e w' ⟨rfl, rfl⟩)
    | (refine wpList_buildTo rfl 46 #[] rfl (some 9) rfl (u8v zs).toArray (by simpa using HBU.out) ?_))
  refine bodyPost_ret (results_cell_row rfl _ _ w.heap.size 46 (u8v zs).toArray (0, 0) _ rfl HCL.out Tryd.underlying46 rfl hm) rfl ⟨?_, HBN.out⟩
  unfold zdig
  rw [HZ.out]
end Go.Proofs.YticcmhgahbnboaaDoor
