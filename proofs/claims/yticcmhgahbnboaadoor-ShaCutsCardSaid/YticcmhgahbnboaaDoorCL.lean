/-
  THE WALKS over the reference's sums, and over the example that each law asks for.
-/
import Derived.Test.YticcmhgahbnboaaDoorCW
import Derived.Lib.SlBytesConst
namespace Go.Proofs.YticcmhgahbnboaaDoor
open Go.RowKit
set_option linter.unusedVariables false

set_option maxHeartbeats 400000 in
theorem rsum_c {w : World} {a : Option Addr} {n cap : Nat} {l : List UInt8} (hb : Bys w a n cap l) : Calls Tryd.prog 54 #[.slice a n cap] w (RetW (sumS l) w) := by
  have h0 : (4294967295 : Int) = I (~~~ 0#32) := by decide
  have hm := comes_c (~~~ 0#32) hb
  rw [← h0] at hm
  have HM := Lib.hid hm
  have hsg : IntKind.u32.signed = false := rfl
  clear hm h0
  go_enter Tryd.func54, Tryd.ntmps54
  go_wp2_with (go_at_call 66; refine (HM.out).mono ?_; rintro e w' ⟨rfl, rfl⟩)
  go_ret
  exact RetW.mk (by rw [I_not']; rfl)

end Go.Proofs.YticcmhgahbnboaaDoor
