/-
  sha.turn and the reference's: a word turned right.
-/
import Derived.Test.YticcmhgahbnboaaDoorCW
import Derived.Test.YticcmhgahbnboaaDoorSM
import Derived.Deep.QuietTactic
import Derived.BigQuiet
namespace Go.Proofs.YticcmhgahbnboaaDoor
open Go.RowKit
set_option linter.unusedVariables false

/-- By how many bits words are turned. -/
def Turns (n : Nat) : Prop := n = 2 ∨ n = 6 ∨ n = 7 ∨ n = 11 ∨ n = 13 ∨ n = 17 ∨ n = 18 ∨ n = 19 ∨ n = 22 ∨ n = 25

set_option maxHeartbeats 800000 in
theorem rotl_c (x : W32) (n : Nat) (hn : Turns n) (w : World) : Calls Tryd.prog 67 #[.int .u32 (I x), .int .i64 (-(n : Int))] w (RetW (rotS x n) w) := by
  have h := I_bd x
  rcases hn with rfl | rfl | rfl | rfl | rfl | rfl | rfl | rfl | rfl | rfl
  · have hx : bits .and .u64 (IntKind.u64.wrap (-2)) 31 = 30 := by decide
    have hr := rot_val' x 2
    rw [show (2 : Int) ^ (32 - 2) = 1073741824 by decide, show (2 : Int) ^ 2 = 4 by decide] at hr
    have HR := Lib.hid hr
    clear hr
    go_enter Tryd.func67, Tryd.ntmps67
    go_wp2
    go_ret
    exact RetW.mk HR.out
  · have hx : bits .and .u64 (IntKind.u64.wrap (-6)) 31 = 26 := by decide
    have hr := rot_val' x 6
    rw [show (2 : Int) ^ (32 - 6) = 67108864 by decide, show (2 : Int) ^ 6 = 64 by decide] at hr
    have HR := Lib.hid hr
    clear hr
    go_enter Tryd.func67, Tryd.ntmps67
    go_wp2
    go_ret
    exact RetW.mk HR.out
  · have hx : bits .and .u64 (IntKind.u64.wrap (-7)) 31 = 25 := by decide
    have hr := rot_val' x 7
    rw [show (2 : Int) ^ (32 - 7) = 33554432 by decide, show (2 : Int) ^ 7 = 128 by decide] at hr
    have HR := Lib.hid hr
    clear hr
    go_enter Tryd.func67, Tryd.ntmps67
    go_wp2
    go_ret
    exact RetW.mk HR.out
  · have hx : bits .and .u64 (IntKind.u64.wrap (-11)) 31 = 21 := by decide
    have hr := rot_val' x 11
    rw [show (2 : Int) ^ (32 - 11) = 2097152 by decide, show (2 : Int) ^ 11 = 2048 by decide] at hr
    have HR := Lib.hid hr
    clear hr
    go_enter Tryd.func67, Tryd.ntmps67
    go_wp2
    go_ret
    exact RetW.mk HR.out
  · have hx : bits .and .u64 (IntKind.u64.wrap (-13)) 31 = 19 := by decide
    have hr := rot_val' x 13
    rw [show (2 : Int) ^ (32 - 13) = 524288 by decide, show (2 : Int) ^ 13 = 8192 by decide] at hr
    have HR := Lib.hid hr
    clear hr
    go_enter Tryd.func67, Tryd.ntmps67
    go_wp2
    go_ret
    exact RetW.mk HR.out
  · have hx : bits .and .u64 (IntKind.u64.wrap (-17)) 31 = 15 := by decide
    have hr := rot_val' x 17
    rw [show (2 : Int) ^ (32 - 17) = 32768 by decide, show (2 : Int) ^ 17 = 131072 by decide] at hr
    have HR := Lib.hid hr
    clear hr
    go_enter Tryd.func67, Tryd.ntmps67
    go_wp2
    go_ret
    exact RetW.mk HR.out
  · have hx : bits .and .u64 (IntKind.u64.wrap (-18)) 31 = 14 := by decide
    have hr := rot_val' x 18
    rw [show (2 : Int) ^ (32 - 18) = 16384 by decide, show (2 : Int) ^ 18 = 262144 by decide] at hr
    have HR := Lib.hid hr
    clear hr
    go_enter Tryd.func67, Tryd.ntmps67
    go_wp2
    go_ret
    exact RetW.mk HR.out
  · have hx : bits .and .u64 (IntKind.u64.wrap (-19)) 31 = 13 := by decide
    have hr := rot_val' x 19
    rw [show (2 : Int) ^ (32 - 19) = 8192 by decide, show (2 : Int) ^ 19 = 524288 by decide] at hr
    have HR := Lib.hid hr
    clear hr
    go_enter Tryd.func67, Tryd.ntmps67
    go_wp2
    go_ret
    exact RetW.mk HR.out
  · have hx : bits .and .u64 (IntKind.u64.wrap (-22)) 31 = 10 := by decide
    have hr := rot_val' x 22
    rw [show (2 : Int) ^ (32 - 22) = 1024 by decide, show (2 : Int) ^ 22 = 4194304 by decide] at hr
    have HR := Lib.hid hr
    clear hr
    go_enter Tryd.func67, Tryd.ntmps67
    go_wp2
    go_ret
    exact RetW.mk HR.out
  · have hx : bits .and .u64 (IntKind.u64.wrap (-25)) 31 = 7 := by decide
    have hr := rot_val' x 25
    rw [show (2 : Int) ^ (32 - 25) = 128 by decide, show (2 : Int) ^ 25 = 33554432 by decide] at hr
    have HR := Lib.hid hr
    clear hr
    go_enter Tryd.func67, Tryd.ntmps67
    go_wp2
    go_ret
    exact RetW.mk HR.out

set_option maxHeartbeats 400000 in
theorem turn_c (x : W32) (n : Nat) (hn : Turns n) (w : World) : Calls Tryd.prog 62 #[.int .u32 (I x), .int .i64 (n : Int)] w (RetW (rotS x n) w) := by
  have h := I_bd x
  have hb : 0 ≤ (n : Int) ∧ (n : Int) ≤ 31 := by unfold Turns at hn; omega
  go_enter Tryd.func62, Tryd.ntmps62
  go_wp2_with (go_at_call 67; refine (rotl_c x n hn _).mono ?_; rintro e w' ⟨rfl, rfl⟩)
  go_ret
  exact RetW.mk rfl

set_option maxHeartbeats 800000 in
theorem rturn_c (x : W32) (n : Nat) (hn : Turns n) (w : World) : Calls Tryd.prog 60 #[.int .u32 (I x), .int .i64 (n : Int)] w (RetW (rotS x n) w) := by
  have h := I_bd x
  rcases hn with rfl | rfl | rfl | rfl | rfl | rfl | rfl | rfl | rfl | rfl
  · have hr := rot_val x 2
    rw [show (2 : Int) ^ (32 - 2) = 1073741824 by decide, show (2 : Int) ^ 2 = 4 by decide] at hr
    have HR := Lib.hid hr
    clear hr
    go_enter Tryd.func60, Tryd.ntmps60
    go_wp2
    go_ret
    exact RetW.mk HR.out
  · have hr := rot_val x 6
    rw [show (2 : Int) ^ (32 - 6) = 67108864 by decide, show (2 : Int) ^ 6 = 64 by decide] at hr
    have HR := Lib.hid hr
    clear hr
    go_enter Tryd.func60, Tryd.ntmps60
    go_wp2
    go_ret
    exact RetW.mk HR.out
  · have hr := rot_val x 7
    rw [show (2 : Int) ^ (32 - 7) = 33554432 by decide, show (2 : Int) ^ 7 = 128 by decide] at hr
    have HR := Lib.hid hr
    clear hr
    go_enter Tryd.func60, Tryd.ntmps60
    go_wp2
    go_ret
    exact RetW.mk HR.out
  · have hr := rot_val x 11
    rw [show (2 : Int) ^ (32 - 11) = 2097152 by decide, show (2 : Int) ^ 11 = 2048 by decide] at hr
    have HR := Lib.hid hr
    clear hr
    go_enter Tryd.func60, Tryd.ntmps60
    go_wp2
    go_ret
    exact RetW.mk HR.out
  · have hr := rot_val x 13
    rw [show (2 : Int) ^ (32 - 13) = 524288 by decide, show (2 : Int) ^ 13 = 8192 by decide] at hr
    have HR := Lib.hid hr
    clear hr
    go_enter Tryd.func60, Tryd.ntmps60
    go_wp2
    go_ret
    exact RetW.mk HR.out
  · have hr := rot_val x 17
    rw [show (2 : Int) ^ (32 - 17) = 32768 by decide, show (2 : Int) ^ 17 = 131072 by decide] at hr
    have HR := Lib.hid hr
    clear hr
    go_enter Tryd.func60, Tryd.ntmps60
    go_wp2
    go_ret
    exact RetW.mk HR.out
  · have hr := rot_val x 18
    rw [show (2 : Int) ^ (32 - 18) = 16384 by decide, show (2 : Int) ^ 18 = 262144 by decide] at hr
    have HR := Lib.hid hr
    clear hr
    go_enter Tryd.func60, Tryd.ntmps60
    go_wp2
    go_ret
    exact RetW.mk HR.out
  · have hr := rot_val x 19
    rw [show (2 : Int) ^ (32 - 19) = 8192 by decide, show (2 : Int) ^ 19 = 524288 by decide] at hr
    have HR := Lib.hid hr
    clear hr
    go_enter Tryd.func60, Tryd.ntmps60
    go_wp2
    go_ret
    exact RetW.mk HR.out
  · have hr := rot_val x 22
    rw [show (2 : Int) ^ (32 - 22) = 1024 by decide, show (2 : Int) ^ 22 = 4194304 by decide] at hr
    have HR := Lib.hid hr
    clear hr
    go_enter Tryd.func60, Tryd.ntmps60
    go_wp2
    go_ret
    exact RetW.mk HR.out
  · have hr := rot_val x 25
    rw [show (2 : Int) ^ (32 - 25) = 128 by decide, show (2 : Int) ^ 25 = 33554432 by decide] at hr
    have HR := Lib.hid hr
    clear hr
    go_enter Tryd.func60, Tryd.ntmps60
    go_wp2
    go_ret
    exact RetW.mk HR.out
theorem turn_q2 (x : W32) (w : World) (m : Nat) : Calls Tryd.prog 62 #[.int .u32 (I x), .int .i64 2] (w.drewN m) fun e w'' => e = .returned (.int .u32 (I (rotS x 2))) ∧ ∃ m, w'' = w.drewN m :=
  Calls.quiet_of_same ((turn_c x 2 (by unfold Turns; omega) (w.drewN m)).mono fun e w' h => ⟨h.1, h.2.symm⟩)
theorem turn_c2 (x : W32) (w : World) : Calls Tryd.prog 62 #[.int .u32 (I x), .int .i64 2] w (RetW (rotS x 2) w) := turn_c x 2 (by unfold Turns; omega) w
theorem rturn_q2 (x : W32) (w : World) (m : Nat) : Calls Tryd.prog 60 #[.int .u32 (I x), .int .i64 2] (w.drewN m) fun e w'' => e = .returned (.int .u32 (I (rotS x 2))) ∧ ∃ m, w'' = w.drewN m :=
  Calls.quiet_of_same ((rturn_c x 2 (by unfold Turns; omega) (w.drewN m)).mono fun e w' h => ⟨h.1, h.2.symm⟩)
theorem rturn_c2 (x : W32) (w : World) : Calls Tryd.prog 60 #[.int .u32 (I x), .int .i64 2] w (RetW (rotS x 2) w) := rturn_c x 2 (by unfold Turns; omega) w
theorem turn_q6 (x : W32) (w : World) (m : Nat) : Calls Tryd.prog 62 #[.int .u32 (I x), .int .i64 6] (w.drewN m) fun e w'' => e = .returned (.int .u32 (I (rotS x 6))) ∧ ∃ m, w'' = w.drewN m :=
  Calls.quiet_of_same ((turn_c x 6 (by unfold Turns; omega) (w.drewN m)).mono fun e w' h => ⟨h.1, h.2.symm⟩)
theorem turn_c6 (x : W32) (w : World) : Calls Tryd.prog 62 #[.int .u32 (I x), .int .i64 6] w (RetW (rotS x 6) w) := turn_c x 6 (by unfold Turns; omega) w
theorem rturn_q6 (x : W32) (w : World) (m : Nat) : Calls Tryd.prog 60 #[.int .u32 (I x), .int .i64 6] (w.drewN m) fun e w'' => e = .returned (.int .u32 (I (rotS x 6))) ∧ ∃ m, w'' = w.drewN m :=
  Calls.quiet_of_same ((rturn_c x 6 (by unfold Turns; omega) (w.drewN m)).mono fun e w' h => ⟨h.1, h.2.symm⟩)
theorem rturn_c6 (x : W32) (w : World) : Calls Tryd.prog 60 #[.int .u32 (I x), .int .i64 6] w (RetW (rotS x 6) w) := rturn_c x 6 (by unfold Turns; omega) w
theorem turn_q7 (x : W32) (w : World) (m : Nat) : Calls Tryd.prog 62 #[.int .u32 (I x), .int .i64 7] (w.drewN m) fun e w'' => e = .returned (.int .u32 (I (rotS x 7))) ∧ ∃ m, w'' = w.drewN m :=
  Calls.quiet_of_same ((turn_c x 7 (by unfold Turns; omega) (w.drewN m)).mono fun e w' h => ⟨h.1, h.2.symm⟩)
theorem turn_c7 (x : W32) (w : World) : Calls Tryd.prog 62 #[.int .u32 (I x), .int .i64 7] w (RetW (rotS x 7) w) := turn_c x 7 (by unfold Turns; omega) w
theorem rturn_q7 (x : W32) (w : World) (m : Nat) : Calls Tryd.prog 60 #[.int .u32 (I x), .int .i64 7] (w.drewN m) fun e w'' => e = .returned (.int .u32 (I (rotS x 7))) ∧ ∃ m, w'' = w.drewN m :=
  Calls.quiet_of_same ((rturn_c x 7 (by unfold Turns; omega) (w.drewN m)).mono fun e w' h => ⟨h.1, h.2.symm⟩)
theorem rturn_c7 (x : W32) (w : World) : Calls Tryd.prog 60 #[.int .u32 (I x), .int .i64 7] w (RetW (rotS x 7) w) := rturn_c x 7 (by unfold Turns; omega) w
theorem turn_q11 (x : W32) (w : World) (m : Nat) : Calls Tryd.prog 62 #[.int .u32 (I x), .int .i64 11] (w.drewN m) fun e w'' => e = .returned (.int .u32 (I (rotS x 11))) ∧ ∃ m, w'' = w.drewN m :=
  Calls.quiet_of_same ((turn_c x 11 (by unfold Turns; omega) (w.drewN m)).mono fun e w' h => ⟨h.1, h.2.symm⟩)
theorem turn_c11 (x : W32) (w : World) : Calls Tryd.prog 62 #[.int .u32 (I x), .int .i64 11] w (RetW (rotS x 11) w) := turn_c x 11 (by unfold Turns; omega) w
theorem rturn_q11 (x : W32) (w : World) (m : Nat) : Calls Tryd.prog 60 #[.int .u32 (I x), .int .i64 11] (w.drewN m) fun e w'' => e = .returned (.int .u32 (I (rotS x 11))) ∧ ∃ m, w'' = w.drewN m :=
  Calls.quiet_of_same ((rturn_c x 11 (by unfold Turns; omega) (w.drewN m)).mono fun e w' h => ⟨h.1, h.2.symm⟩)
theorem rturn_c11 (x : W32) (w : World) : Calls Tryd.prog 60 #[.int .u32 (I x), .int .i64 11] w (RetW (rotS x 11) w) := rturn_c x 11 (by unfold Turns; omega) w
theorem turn_q13 (x : W32) (w : World) (m : Nat) : Calls Tryd.prog 62 #[.int .u32 (I x), .int .i64 13] (w.drewN m) fun e w'' => e = .returned (.int .u32 (I (rotS x 13))) ∧ ∃ m, w'' = w.drewN m :=
  Calls.quiet_of_same ((turn_c x 13 (by unfold Turns; omega) (w.drewN m)).mono fun e w' h => ⟨h.1, h.2.symm⟩)
theorem turn_c13 (x : W32) (w : World) : Calls Tryd.prog 62 #[.int .u32 (I x), .int .i64 13] w (RetW (rotS x 13) w) := turn_c x 13 (by unfold Turns; omega) w
theorem rturn_q13 (x : W32) (w : World) (m : Nat) : Calls Tryd.prog 60 #[.int .u32 (I x), .int .i64 13] (w.drewN m) fun e w'' => e = .returned (.int .u32 (I (rotS x 13))) ∧ ∃ m, w'' = w.drewN m :=
  Calls.quiet_of_same ((rturn_c x 13 (by unfold Turns; omega) (w.drewN m)).mono fun e w' h => ⟨h.1, h.2.symm⟩)
theorem rturn_c13 (x : W32) (w : World) : Calls Tryd.prog 60 #[.int .u32 (I x), .int .i64 13] w (RetW (rotS x 13) w) := rturn_c x 13 (by unfold Turns; omega) w
theorem turn_q17 (x : W32) (w : World) (m : Nat) : Calls Tryd.prog 62 #[.int .u32 (I x), .int .i64 17] (w.drewN m) fun e w'' => e = .returned (.int .u32 (I (rotS x 17))) ∧ ∃ m, w'' = w.drewN m :=
  Calls.quiet_of_same ((turn_c x 17 (by unfold Turns; omega) (w.drewN m)).mono fun e w' h => ⟨h.1, h.2.symm⟩)
theorem turn_c17 (x : W32) (w : World) : Calls Tryd.prog 62 #[.int .u32 (I x), .int .i64 17] w (RetW (rotS x 17) w) := turn_c x 17 (by unfold Turns; omega) w
theorem rturn_q17 (x : W32) (w : World) (m : Nat) : Calls Tryd.prog 60 #[.int .u32 (I x), .int .i64 17] (w.drewN m) fun e w'' => e = .returned (.int .u32 (I (rotS x 17))) ∧ ∃ m, w'' = w.drewN m :=
  Calls.quiet_of_same ((rturn_c x 17 (by unfold Turns; omega) (w.drewN m)).mono fun e w' h => ⟨h.1, h.2.symm⟩)
theorem rturn_c17 (x : W32) (w : World) : Calls Tryd.prog 60 #[.int .u32 (I x), .int .i64 17] w (RetW (rotS x 17) w) := rturn_c x 17 (by unfold Turns; omega) w
theorem turn_q18 (x : W32) (w : World) (m : Nat) : Calls Tryd.prog 62 #[.int .u32 (I x), .int .i64 18] (w.drewN m) fun e w'' => e = .returned (.int .u32 (I (rotS x 18))) ∧ ∃ m, w'' = w.drewN m :=
  Calls.quiet_of_same ((turn_c x 18 (by unfold Turns; omega) (w.drewN m)).mono fun e w' h => ⟨h.1, h.2.symm⟩)
theorem turn_c18 (x : W32) (w : World) : Calls Tryd.prog 62 #[.int .u32 (I x), .int .i64 18] w (RetW (rotS x 18) w) := turn_c x 18 (by unfold Turns; omega) w
theorem rturn_q18 (x : W32) (w : World) (m : Nat) : Calls Tryd.prog 60 #[.int .u32 (I x), .int .i64 18] (w.drewN m) fun e w'' => e = .returned (.int .u32 (I (rotS x 18))) ∧ ∃ m, w'' = w.drewN m :=
  Calls.quiet_of_same ((rturn_c x 18 (by unfold Turns; omega) (w.drewN m)).mono fun e w' h => ⟨h.1, h.2.symm⟩)
theorem rturn_c18 (x : W32) (w : World) : Calls Tryd.prog 60 #[.int .u32 (I x), .int .i64 18] w (RetW (rotS x 18) w) := rturn_c x 18 (by unfold Turns; omega) w
theorem turn_q19 (x : W32) (w : World) (m : Nat) : Calls Tryd.prog 62 #[.int .u32 (I x), .int .i64 19] (w.drewN m) fun e w'' => e = .returned (.int .u32 (I (rotS x 19))) ∧ ∃ m, w'' = w.drewN m :=
  Calls.quiet_of_same ((turn_c x 19 (by unfold Turns; omega) (w.drewN m)).mono fun e w' h => ⟨h.1, h.2.symm⟩)
theorem turn_c19 (x : W32) (w : World) : Calls Tryd.prog 62 #[.int .u32 (I x), .int .i64 19] w (RetW (rotS x 19) w) := turn_c x 19 (by unfold Turns; omega) w
theorem rturn_q19 (x : W32) (w : World) (m : Nat) : Calls Tryd.prog 60 #[.int .u32 (I x), .int .i64 19] (w.drewN m) fun e w'' => e = .returned (.int .u32 (I (rotS x 19))) ∧ ∃ m, w'' = w.drewN m :=
  Calls.quiet_of_same ((rturn_c x 19 (by unfold Turns; omega) (w.drewN m)).mono fun e w' h => ⟨h.1, h.2.symm⟩)
theorem rturn_c19 (x : W32) (w : World) : Calls Tryd.prog 60 #[.int .u32 (I x), .int .i64 19] w (RetW (rotS x 19) w) := rturn_c x 19 (by unfold Turns; omega) w
theorem turn_q22 (x : W32) (w : World) (m : Nat) : Calls Tryd.prog 62 #[.int .u32 (I x), .int .i64 22] (w.drewN m) fun e w'' => e = .returned (.int .u32 (I (rotS x 22))) ∧ ∃ m, w'' = w.drewN m :=
  Calls.quiet_of_same ((turn_c x 22 (by unfold Turns; omega) (w.drewN m)).mono fun e w' h => ⟨h.1, h.2.symm⟩)
theorem turn_c22 (x : W32) (w : World) : Calls Tryd.prog 62 #[.int .u32 (I x), .int .i64 22] w (RetW (rotS x 22) w) := turn_c x 22 (by unfold Turns; omega) w
theorem rturn_q22 (x : W32) (w : World) (m : Nat) : Calls Tryd.prog 60 #[.int .u32 (I x), .int .i64 22] (w.drewN m) fun e w'' => e = .returned (.int .u32 (I (rotS x 22))) ∧ ∃ m, w'' = w.drewN m :=
  Calls.quiet_of_same ((rturn_c x 22 (by unfold Turns; omega) (w.drewN m)).mono fun e w' h => ⟨h.1, h.2.symm⟩)
theorem rturn_c22 (x : W32) (w : World) : Calls Tryd.prog 60 #[.int .u32 (I x), .int .i64 22] w (RetW (rotS x 22) w) := rturn_c x 22 (by unfold Turns; omega) w
theorem turn_q25 (x : W32) (w : World) (m : Nat) : Calls Tryd.prog 62 #[.int .u32 (I x), .int .i64 25] (w.drewN m) fun e w'' => e = .returned (.int .u32 (I (rotS x 25))) ∧ ∃ m, w'' = w.drewN m :=
  Calls.quiet_of_same ((turn_c x 25 (by unfold Turns; omega) (w.drewN m)).mono fun e w' h => ⟨h.1, h.2.symm⟩)
theorem turn_c25 (x : W32) (w : World) : Calls Tryd.prog 62 #[.int .u32 (I x), .int .i64 25] w (RetW (rotS x 25) w) := turn_c x 25 (by unfold Turns; omega) w
theorem rturn_q25 (x : W32) (w : World) (m : Nat) : Calls Tryd.prog 60 #[.int .u32 (I x), .int .i64 25] (w.drewN m) fun e w'' => e = .returned (.int .u32 (I (rotS x 25))) ∧ ∃ m, w'' = w.drewN m :=
  Calls.quiet_of_same ((rturn_c x 25 (by unfold Turns; omega) (w.drewN m)).mono fun e w' h => ⟨h.1, h.2.symm⟩)
theorem rturn_c25 (x : W32) (w : World) : Calls Tryd.prog 60 #[.int .u32 (I x), .int .i64 25] w (RetW (rotS x 25) w) := rturn_c x 25 (by unfold Turns; omega) w
end Go.Proofs.YticcmhgahbnboaaDoor
