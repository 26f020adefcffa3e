/-
  lives: the chapter's example.
-/
import Derived.Test.YticcmhgahbnboaaDoorSV
import Derived.Test.YticcmhgahbnboaaDoorSH
import Derived.Lib.SlBytesConst
namespace Go.Proofs.YticcmhgahbnboaaDoor
open Go.RowKit Go
set_option linter.unusedVariables false

def abc : List UInt8 := [97, 98, 99]
theorem abc_hash : hexS (digS (lastS abc)) = [98, 97, 55, 56, 49, 54, 98, 102, 56, 102, 48, 49, 99, 102, 101, 97, 52, 49, 52, 49, 52, 48, 100, 101, 53, 100, 97, 101, 50, 50, 50, 51, 98, 48, 48, 51, 54, 49, 97, 51, 57, 54, 49, 55, 55, 97, 57, 99, 98, 52, 49, 48, 102, 102, 54, 49, 102, 50, 48, 48, 49, 53, 97, 100] := by decide +kernel
theorem abc_bys (w : World) (e : TypeId) (m : Nat × Nat) : Bys (w.alloc (.cells #[.int .u8 97, .int .u8 98, .int .u8 99] e m)) (some ⟨w.heap.size, 0, none⟩) 3 3 abc := by
  refine ⟨rfl, Nat.le_refl _, by omega, .inr ⟨w.heap.size, 0, rfl, fun i hi => ?_⟩⟩
  have h : (w.alloc (.cells #[.int .u8 97, .int .u8 98, .int .u8 99] e m)).heap[w.heap.size]? = some (.cells #[.int .u8 97, .int .u8 98, .int .u8 99] e m) := by
    show (w.heap.push _)[w.heap.size]? = _
    simp
  unfold World.cell?
  rw [h]
  rcases (by omega : i = 0 ∨ i = 1 ∨ i = 2) with rfl | rfl | rfl <;> rfl
theorem one_rws {w : World} {a : Option Addr} {n c : Nat} {l : List UInt8} (t : TypeId) (h : Bys w a n c l) : Rws (w.alloc (.cells #[.slice a n c] t)) (some ⟨w.heap.size, 0, none⟩) 1 1 [l] := by
  refine ⟨rfl, Nat.le_refl _, by omega, .inr ⟨w.heap.size, 0, rfl, fun i hi => ?_⟩⟩
  obtain rfl : i = 0 := by omega
  have hr : (w.alloc (.cells #[.slice a n c] t)).heap[w.heap.size]? = some (.cells #[.slice a n c] t (0, 0)) := heap_alloc_new w _
  refine ⟨a, n, c, ?_, h.below ((Below.refl _ w).alloc (Nat.le_refl _) _)⟩
  rw [cell_of_row _ _ _ _ _ _ hr]; rfl
theorem abc_rws (w : World) : Rws ((w.alloc (.cells #[.int .u8 97, .int .u8 98, .int .u8 99] 5 (3, 4))).alloc (.cells #[.slice (some ⟨w.heap.size, 0, none⟩) 3 3] 22)) (some ⟨w.heap.size + 1, 0, none⟩) 1 1 [abc] := by
  have := one_rws 22 (abc_bys w 5 (3, 4))
  rw [World.size_alloc] at this
  exact this
set_option maxRecDepth 100000 in
set_option maxHeartbeats 800000 in
theorem slives_c {w : World} (hT : TabS w) : Calls Tryd.prog 23 #[] w (BoolPost true w) := by
  have kc := fun (w : World) (C : Array Value) (n c : Nat) => Lib.run_convert_bytes_const (P := Tryd.prog) w 22 5 C n c Tryd.underlying22 Tryd.underlying5
  go_enter Tryd.func23, Tryd.ntmps23
  have HW := Lib.hid (abc_rws w)
  have hb1 : Below w.heap.size w ((w.alloc (.cells #[.int .u8 97, .int .u8 98, .int .u8 99] 5 (3, 4))).alloc (.cells #[.slice (some ⟨w.heap.size, 0, none⟩) 3 3] 22)) := ((Below.refl _ w).alloc (Nat.le_refl _) _).alloc (by simp) _
  have HB := Lib.hid hb1
  have HT := Lib.hid (hT.below hb1)
  have HX := Lib.hid (show ∀ W, Calls Tryd.prog 30 #[.agg (u8v (digS (lastS [abc].flatten))).toArray] W (fun e w' => e = .returned (.string { data := #[98, 97, 55, 56, 49, 54, 98, 102, 56, 102, 48, 49, 99, 102, 101, 97, 52, 49, 52, 49, 52, 48, 100, 101, 53, 100, 97, 101, 50, 50, 50, 51, 98, 48, 48, 51, 54, 49, 97, 51, 57, 54, 49, 55, 55, 97, 57, 99, 98, 52, 49, 48, 102, 102, 54, 49, 102, 50, 48, 48, 49, 53, 97, 100] }) ∧ Below W.heap.size W w') by
    intro W
    have h := text_c (digS (lastS abc)) rfl (w := W)
    rw [abc_hash] at h
    exact h)
  have HSM := Lib.hid (shasum_c HT.out HW.out (by decide))
  obtain ⟨D, hD⟩ : ∃ D, (u8v (digS (lastS [abc].flatten))).toArray = D := ⟨_, rfl⟩
  rw [hD] at HSM HX
  clear hb1 hD
  go_wp2_with (first
    | (go_at_call 24; (with_reducible refine (HSM.out).mono ?_); rintro e w1 ⟨rfl, hb1⟩)
    | (go_at_call 30; (with_reducible refine (HX.out _).mono ?_); rintro e w2 ⟨rfl, hb2⟩))
  go_ret
  exact ⟨rfl, HB.out.trans ((hb1.mono HB.out.size).trans (hb2.mono (Nat.le_trans HB.out.size hb1.size)))⟩
end Go.Proofs.YticcmhgahbnboaaDoor
