/-
  THE WALKS over the reference's sums, and over the example that each law asks for.
-/
import Derived.Test.YtmegchcocjnbbaaCW
import Derived.Lib.SlBytesConst
namespace Go.Proofs.Ytmegchcocjnbbaa
open Go.RowKit
set_option linter.unusedVariables false

set_option maxHeartbeats 400000 in
theorem rmore_c (s : W32) {w : World} {a : Option Addr} {n cap : Nat} {l : List UInt8} (hb : Bys w a n cap l) : Calls Try.prog 20 #[.int .u32 (I s), .slice a n cap] w (RetW (moreS s l) w) := by
  have hno := I_not' s
  have hsg : IntKind.u32.signed = false := rfl
  have hn2 := Lib.hid (I_not' (crcS (~~~ s) l))
  go_enter Try.func20, Try.ntmps20
  go_wp2_with (go_at_call 27; refine (comes_c _ hb).mono ?_; rintro e w' ⟨rfl, rfl⟩)
  go_ret
  exact RetW.mk (by rw [hn2.out]; rfl)

set_option maxHeartbeats 400000 in
theorem rsum_c {w : World} {a : Option Addr} {n cap : Nat} {l : List UInt8} (hb : Bys w a n cap l) : Calls Try.prog 18 #[.slice a n cap] w (RetW (sumS l) w) := by
  have h0 : (4294967295 : Int) = I (~~~ 0#32) := by decide
  have hm := comes_c (~~~ 0#32) hb
  rw [← h0] at hm
  have HM := Lib.hid hm
  have hsg : IntKind.u32.signed = false := rfl
  clear hm h0
  go_enter Try.func18, Try.ntmps18
  go_wp2_with (go_at_call 27; refine (HM.out).mono ?_; rintro e w' ⟨rfl, rfl⟩)
  go_ret
  exact RetW.mk (by rw [I_not']; rfl)

def nine : List UInt8 := [49, 50, 51, 52, 53, 54, 55, 56, 57]
set_option maxRecDepth 100000 in
theorem nine_sum : sumS nine = 4236843288#32 := by decide +kernel

def nineCells : Array Value := #[.int .u8 49, .int .u8 50, .int .u8 51, .int .u8 52, .int .u8 53, .int .u8 54, .int .u8 55, .int .u8 56, .int .u8 57]
theorem nine_bys (w : World) (e : TypeId) (m : Nat × Nat) : Bys (w.alloc (.cells nineCells e m)) (some ⟨w.heap.size, 0, none⟩) 9 9 nine := by
  refine ⟨rfl, Nat.le_refl _, by omega, .inr ⟨w.heap.size, 0, rfl, fun i hi => ?_⟩⟩
  have h : (w.alloc (.cells nineCells e m)).heap[w.heap.size]? = some (.cells nineCells e m) := by
    show (w.heap.push _)[w.heap.size]? = _
    simp
  unfold World.cell?
  rw [h]
  rcases (by omega : i = 0 ∨ i = 1 ∨ i = 2 ∨ i = 3 ∨ i = 4 ∨ i = 5 ∨ i = 6 ∨ i = 7 ∨ i = 8) with rfl | rfl | rfl | rfl | rfl | rfl | rfl | rfl | rfl <;> rfl

set_option maxHeartbeats 400000 in
theorem lives_c (w : World) : Calls Try.prog 16 #[] w fun e w' => e = .returned (.bool true) ∧ ∃ o, w' = w.alloc o := by
  have kc := fun (w : World) (C : Array Value) (n c : Nat) => Lib.run_convert_bytes_const (P := Try.prog) w 22 5 C n c Try.underlying22 Try.underlying5
  have hs : I (sumS nine) = 4236843288 := by rw [nine_sum]; decide
  go_enter Try.func16, Try.ntmps16
  go_wp2_with (go_at_call 17; refine (sum_c (nine_bys _ _ _)).mono ?_; rintro e w' ⟨rfl, rfl⟩)
  go_ret
  exact ⟨rfl, _, rfl⟩
end Go.Proofs.Ytmegchcocjnbbaa
