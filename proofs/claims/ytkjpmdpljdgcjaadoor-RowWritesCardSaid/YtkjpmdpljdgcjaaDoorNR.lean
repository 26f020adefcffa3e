import Derived.Test.YtkjpmdpljdgcjaaDoorNW
namespace Go.Proofs.YtkjpmdpljdgcjaaDoor
open Go.RowKit
set_option linter.unusedVariables false

set_option maxHeartbeats 400000 in
theorem rget_nil (a : Option Addr) (cap : Nat) (w : World) :
    Calls Tryd.prog 82 #[.slice a 0 cap] w (Ret3 (0, 0, 10) w) := by
  go_enter Tryd.func82, Tryd.ntmps82
  go_wp2
  go_ret3
  exact Ret3.mk rfl

set_option maxHeartbeats 800000 in
theorem rget_at0 (b off n cap : Nat) (c0 : UInt8) (r : List UInt8) (w : World) (hn : 0 < n) (h1 : n ≤ cap) (h2 : cap ≤ 9223372036854775807)
    (hq : c0.toNat / 64 = 0)
    (hc0 : w.cell? ⟨b, off, none⟩ = some (.int .u8 (c0.toNat : Int)))
    (hr : 0 ≤ r.length) (hlt : 1 ≤ n)
    (hc : ∀ i, i < 0 → w.cell? ⟨b, off + (i + 1), none⟩ = some (.int .u8 (by8 r i))) :
    Calls Tryd.prog 82 #[.slice (some ⟨b, off, none⟩) n cap] w (Ret3 (outS 1 (valS ((c0.toNat : Int) % 64) r 0)) w) := by
  have e1 : (c0.toNat : Int) / 64 = 0 := by omega
  have hp : (0 : Int) < (n : Int) := by omega
  have hne : ((n : Int) == 0) = false := by simp; omega
  have hm : 0 ≤ ((c0.toNat : Int) % 64) ∧ ((c0.toNat : Int) % 64) < 64 := by omega
  clear hq
  go_enter Tryd.func82, Tryd.ntmps82
  go_wp2
  go_loop [5, 6] (fun v i => ∃ j : Nat, j ≤ 0 ∧ i = .int .i64 j ∧ v = .int .i64 ((2 ^ j : Nat) : Int)) (fun _ i => 0 - (intOf i).toNat)
  case atStart => exact ⟨0, by omega, rfl, rfl⟩
  case round =>
    obtain ⟨j, hj, rfl, rfl⟩ := hrel
    by_cases hlt1 : j < 0
    · omega
    · obtain rfl : j = 0 := by omega
      clear hlt1 hj
      have hd : decide ((n : Int) < 1) = false := by simp; omega
      go_wp2
      go_loop [7, 8] (fun v i => ∃ k : Nat, k ≤ 0 ∧ i = .int .i64 ((k : Int) + 1) ∧ v = .int .i64 (valS ((c0.toNat : Int) % 64) r k)) (fun _ i => 1 - (intOf i).toNat)
      case atStart => exact ⟨0, by omega, rfl, by rw [valS_zero]⟩
      case round =>
        obtain ⟨k, hk, rfl, rfl⟩ := hrel
        by_cases hlt2 : k < 0
        · omega
        · obtain rfl : k = 0 := by omega
          have hb := valS_bd ((c0.toNat : Int) % 64) r 0 hm.1 hm.2 (by omega)
          clear hc hlt2
          generalize valS ((c0.toNat : Int) % 64) r 0 = v at *
          have hv0 : -9223372036854775808 ≤ v ∧ v ≤ 9223372036854775807 := by omega
          by_cases hv : sizeS v = 1
          · have hz : (sizeS v != 1) = false := by rw [hv]; rfl
            have HV := Lib.hid hv
            clear hv
            go_wp2_with (go_at_call 105; refine (rsize_c v hv0.1 hv0.2 _).mono ?_; rintro e w' ⟨rfl, rfl⟩)
            go_ret3
            exact Ret3.mk (outS_yes HV.out)
          · have hz : (sizeS v != 1) = true := by rw [bne_iff_ne]; exact hv
            have HV := Lib.hid hv
            clear hv
            go_wp2_with (go_at_call 105; refine (rsize_c v hv0.1 hv0.2 _).mono ?_; rintro e w' ⟨rfl, rfl⟩)
            go_ret3
            exact Ret3.mk (outS_no HV.out)

set_option maxHeartbeats 800000 in
theorem rget_cut1 (b off n cap : Nat) (c0 : UInt8) (w : World) (hn : 0 < n) (h1 : n ≤ cap) (h2 : cap ≤ 9223372036854775807)
    (hq : c0.toNat / 64 = 1)
    (hc0 : w.cell? ⟨b, off, none⟩ = some (.int .u8 (c0.toNat : Int)))
    (hlt : n < 2) :
    Calls Tryd.prog 82 #[.slice (some ⟨b, off, none⟩) n cap] w (Ret3 (0, 0, 10) w) := by
  have e1 : (c0.toNat : Int) / 64 = 1 := by omega
  have hp : (0 : Int) < (n : Int) := by omega
  have hne : ((n : Int) == 0) = false := by simp; omega
  have hm : 0 ≤ ((c0.toNat : Int) % 64) ∧ ((c0.toNat : Int) % 64) < 64 := by omega
  clear hq
  go_enter Tryd.func82, Tryd.ntmps82
  go_wp2
  go_loop [5, 6] (fun v i => ∃ j : Nat, j ≤ 1 ∧ i = .int .i64 j ∧ v = .int .i64 ((2 ^ j : Nat) : Int)) (fun _ i => 1 - (intOf i).toNat)
  case atStart => exact ⟨0, by omega, rfl, rfl⟩
  case round =>
    obtain ⟨j, hj, rfl, rfl⟩ := hrel
    by_cases hlt1 : j < 1
    · have hj3 : ((2 ^ j : Nat) : Int) ≤ 8 ∧ 0 ≤ ((2 ^ j : Nat) : Int) := by
        rcases (by omega : j = 0 ∨ j = 1 ∨ j = 2) with rfl | rfl | rfl <;> omega
      have hps := Lib.hid (show 2 * ((2 ^ j : Nat) : Int) = ((2 ^ (j + 1) : Nat) : Int) by rw [Nat.pow_succ]; omega)
      obtain ⟨p, hpp⟩ : ∃ p : Int, p = ((2 ^ j : Nat) : Int) := ⟨_, rfl⟩
      rw [← hpp] at hj3 hps ⊢
      clear hpp
      go_wp2
      go_round
      case rel => exact ⟨j + 1, by omega, by go_num, by rw [← hps.out]⟩
      case measure => simp [intOf]; omega
    · obtain rfl : j = 1 := by omega
      clear hlt1 hj
      have hd : decide ((n : Int) < 2) = true := by simp; omega
      go_wp2
      go_ret3
      exact Ret3.mk rfl

set_option maxHeartbeats 800000 in
theorem rget_at1 (b off n cap : Nat) (c0 : UInt8) (r : List UInt8) (w : World) (hn : 0 < n) (h1 : n ≤ cap) (h2 : cap ≤ 9223372036854775807)
    (hq : c0.toNat / 64 = 1)
    (hc0 : w.cell? ⟨b, off, none⟩ = some (.int .u8 (c0.toNat : Int)))
    (hr : 1 ≤ r.length) (hlt : 2 ≤ n)
    (hc : ∀ i, i < 1 → w.cell? ⟨b, off + (i + 1), none⟩ = some (.int .u8 (by8 r i))) :
    Calls Tryd.prog 82 #[.slice (some ⟨b, off, none⟩) n cap] w (Ret3 (outS 2 (valS ((c0.toNat : Int) % 64) r 1)) w) := by
  have e1 : (c0.toNat : Int) / 64 = 1 := by omega
  have hp : (0 : Int) < (n : Int) := by omega
  have hne : ((n : Int) == 0) = false := by simp; omega
  have hm : 0 ≤ ((c0.toNat : Int) % 64) ∧ ((c0.toNat : Int) % 64) < 64 := by omega
  clear hq
  go_enter Tryd.func82, Tryd.ntmps82
  go_wp2
  go_loop [5, 6] (fun v i => ∃ j : Nat, j ≤ 1 ∧ i = .int .i64 j ∧ v = .int .i64 ((2 ^ j : Nat) : Int)) (fun _ i => 1 - (intOf i).toNat)
  case atStart => exact ⟨0, by omega, rfl, rfl⟩
  case round =>
    obtain ⟨j, hj, rfl, rfl⟩ := hrel
    by_cases hlt1 : j < 1
    · have hj3 : ((2 ^ j : Nat) : Int) ≤ 8 ∧ 0 ≤ ((2 ^ j : Nat) : Int) := by
        rcases (by omega : j = 0 ∨ j = 1 ∨ j = 2) with rfl | rfl | rfl <;> omega
      have hps := Lib.hid (show 2 * ((2 ^ j : Nat) : Int) = ((2 ^ (j + 1) : Nat) : Int) by rw [Nat.pow_succ]; omega)
      obtain ⟨p, hpp⟩ : ∃ p : Int, p = ((2 ^ j : Nat) : Int) := ⟨_, rfl⟩
      rw [← hpp] at hj3 hps ⊢
      clear hpp
      go_wp2
      go_round
      case rel => exact ⟨j + 1, by omega, by go_num, by rw [← hps.out]⟩
      case measure => simp [intOf]; omega
    · obtain rfl : j = 1 := by omega
      clear hlt1 hj
      have hd : decide ((n : Int) < 2) = false := by simp; omega
      go_wp2
      go_loop [7, 8] (fun v i => ∃ k : Nat, k ≤ 1 ∧ i = .int .i64 ((k : Int) + 1) ∧ v = .int .i64 (valS ((c0.toNat : Int) % 64) r k)) (fun _ i => 2 - (intOf i).toNat)
      case atStart => exact ⟨0, by omega, rfl, by rw [valS_zero]⟩
      case round =>
        obtain ⟨k, hk, rfl, rfl⟩ := hrel
        by_cases hlt2 : k < 1
        · have hb := valS_lt54 ((c0.toNat : Int) % 64) r k hm.1 hm.2 (by omega) (by omega)
          have hcell := hc k hlt2
          have hs := Lib.hid (valS_succ ((c0.toNat : Int) % 64) r k (by omega))
          have h8 := by8_bd r k
          have hk2 : (k : Int) + 1 < n := by omega
          go_wp2
          go_round
          case rel => exact ⟨k + 1, by omega, by go_num, by rw [hs.out, Int.mul_comm]⟩
          case measure => simp [intOf]; omega
        · obtain rfl : k = 1 := by omega
          have hb := valS_bd ((c0.toNat : Int) % 64) r 1 hm.1 hm.2 (by omega)
          clear hc hlt2
          generalize valS ((c0.toNat : Int) % 64) r 1 = v at *
          have hv0 : -9223372036854775808 ≤ v ∧ v ≤ 9223372036854775807 := by omega
          by_cases hv : sizeS v = 2
          · have hz : (sizeS v != 2) = false := by rw [hv]; rfl
            have HV := Lib.hid hv
            clear hv
            go_wp2_with (go_at_call 105; refine (rsize_c v hv0.1 hv0.2 _).mono ?_; rintro e w' ⟨rfl, rfl⟩)
            go_ret3
            exact Ret3.mk (outS_yes HV.out)
          · have hz : (sizeS v != 2) = true := by rw [bne_iff_ne]; exact hv
            have HV := Lib.hid hv
            clear hv
            go_wp2_with (go_at_call 105; refine (rsize_c v hv0.1 hv0.2 _).mono ?_; rintro e w' ⟨rfl, rfl⟩)
            go_ret3
            exact Ret3.mk (outS_no HV.out)

set_option maxHeartbeats 800000 in
theorem rget_cut2 (b off n cap : Nat) (c0 : UInt8) (w : World) (hn : 0 < n) (h1 : n ≤ cap) (h2 : cap ≤ 9223372036854775807)
    (hq : c0.toNat / 64 = 2)
    (hc0 : w.cell? ⟨b, off, none⟩ = some (.int .u8 (c0.toNat : Int)))
    (hlt : n < 4) :
    Calls Tryd.prog 82 #[.slice (some ⟨b, off, none⟩) n cap] w (Ret3 (0, 0, 10) w) := by
  have e1 : (c0.toNat : Int) / 64 = 2 := by omega
  have hp : (0 : Int) < (n : Int) := by omega
  have hne : ((n : Int) == 0) = false := by simp; omega
  have hm : 0 ≤ ((c0.toNat : Int) % 64) ∧ ((c0.toNat : Int) % 64) < 64 := by omega
  clear hq
  go_enter Tryd.func82, Tryd.ntmps82
  go_wp2
  go_loop [5, 6] (fun v i => ∃ j : Nat, j ≤ 2 ∧ i = .int .i64 j ∧ v = .int .i64 ((2 ^ j : Nat) : Int)) (fun _ i => 2 - (intOf i).toNat)
  case atStart => exact ⟨0, by omega, rfl, rfl⟩
  case round =>
    obtain ⟨j, hj, rfl, rfl⟩ := hrel
    by_cases hlt1 : j < 2
    · have hj3 : ((2 ^ j : Nat) : Int) ≤ 8 ∧ 0 ≤ ((2 ^ j : Nat) : Int) := by
        rcases (by omega : j = 0 ∨ j = 1 ∨ j = 2) with rfl | rfl | rfl <;> omega
      have hps := Lib.hid (show 2 * ((2 ^ j : Nat) : Int) = ((2 ^ (j + 1) : Nat) : Int) by rw [Nat.pow_succ]; omega)
      obtain ⟨p, hpp⟩ : ∃ p : Int, p = ((2 ^ j : Nat) : Int) := ⟨_, rfl⟩
      rw [← hpp] at hj3 hps ⊢
      clear hpp
      go_wp2
      go_round
      case rel => exact ⟨j + 1, by omega, by go_num, by rw [← hps.out]⟩
      case measure => simp [intOf]; omega
    · obtain rfl : j = 2 := by omega
      clear hlt1 hj
      have hd : decide ((n : Int) < 4) = true := by simp; omega
      go_wp2
      go_ret3
      exact Ret3.mk rfl

set_option maxHeartbeats 800000 in
theorem rget_at2 (b off n cap : Nat) (c0 : UInt8) (r : List UInt8) (w : World) (hn : 0 < n) (h1 : n ≤ cap) (h2 : cap ≤ 9223372036854775807)
    (hq : c0.toNat / 64 = 2)
    (hc0 : w.cell? ⟨b, off, none⟩ = some (.int .u8 (c0.toNat : Int)))
    (hr : 3 ≤ r.length) (hlt : 4 ≤ n)
    (hc : ∀ i, i < 3 → w.cell? ⟨b, off + (i + 1), none⟩ = some (.int .u8 (by8 r i))) :
    Calls Tryd.prog 82 #[.slice (some ⟨b, off, none⟩) n cap] w (Ret3 (outS 4 (valS ((c0.toNat : Int) % 64) r 3)) w) := by
  have e1 : (c0.toNat : Int) / 64 = 2 := by omega
  have hp : (0 : Int) < (n : Int) := by omega
  have hne : ((n : Int) == 0) = false := by simp; omega
  have hm : 0 ≤ ((c0.toNat : Int) % 64) ∧ ((c0.toNat : Int) % 64) < 64 := by omega
  clear hq
  go_enter Tryd.func82, Tryd.ntmps82
  go_wp2
  go_loop [5, 6] (fun v i => ∃ j : Nat, j ≤ 2 ∧ i = .int .i64 j ∧ v = .int .i64 ((2 ^ j : Nat) : Int)) (fun _ i => 2 - (intOf i).toNat)
  case atStart => exact ⟨0, by omega, rfl, rfl⟩
  case round =>
    obtain ⟨j, hj, rfl, rfl⟩ := hrel
    by_cases hlt1 : j < 2
    · have hj3 : ((2 ^ j : Nat) : Int) ≤ 8 ∧ 0 ≤ ((2 ^ j : Nat) : Int) := by
        rcases (by omega : j = 0 ∨ j = 1 ∨ j = 2) with rfl | rfl | rfl <;> omega
      have hps := Lib.hid (show 2 * ((2 ^ j : Nat) : Int) = ((2 ^ (j + 1) : Nat) : Int) by rw [Nat.pow_succ]; omega)
      obtain ⟨p, hpp⟩ : ∃ p : Int, p = ((2 ^ j : Nat) : Int) := ⟨_, rfl⟩
      rw [← hpp] at hj3 hps ⊢
      clear hpp
      go_wp2
      go_round
      case rel => exact ⟨j + 1, by omega, by go_num, by rw [← hps.out]⟩
      case measure => simp [intOf]; omega
    · obtain rfl : j = 2 := by omega
      clear hlt1 hj
      have hd : decide ((n : Int) < 4) = false := by simp; omega
      go_wp2
      go_loop [7, 8] (fun v i => ∃ k : Nat, k ≤ 3 ∧ i = .int .i64 ((k : Int) + 1) ∧ v = .int .i64 (valS ((c0.toNat : Int) % 64) r k)) (fun _ i => 4 - (intOf i).toNat)
      case atStart => exact ⟨0, by omega, rfl, by rw [valS_zero]⟩
      case round =>
        obtain ⟨k, hk, rfl, rfl⟩ := hrel
        by_cases hlt2 : k < 3
        · have hb := valS_lt54 ((c0.toNat : Int) % 64) r k hm.1 hm.2 (by omega) (by omega)
          have hcell := hc k hlt2
          have hs := Lib.hid (valS_succ ((c0.toNat : Int) % 64) r k (by omega))
          have h8 := by8_bd r k
          have hk2 : (k : Int) + 1 < n := by omega
          go_wp2
          go_round
          case rel => exact ⟨k + 1, by omega, by go_num, by rw [hs.out, Int.mul_comm]⟩
          case measure => simp [intOf]; omega
        · obtain rfl : k = 3 := by omega
          have hb := valS_bd ((c0.toNat : Int) % 64) r 3 hm.1 hm.2 (by omega)
          clear hc hlt2
          generalize valS ((c0.toNat : Int) % 64) r 3 = v at *
          have hv0 : -9223372036854775808 ≤ v ∧ v ≤ 9223372036854775807 := by omega
          by_cases hv : sizeS v = 4
          · have hz : (sizeS v != 4) = false := by rw [hv]; rfl
            have HV := Lib.hid hv
            clear hv
            go_wp2_with (go_at_call 105; refine (rsize_c v hv0.1 hv0.2 _).mono ?_; rintro e w' ⟨rfl, rfl⟩)
            go_ret3
            exact Ret3.mk (outS_yes HV.out)
          · have hz : (sizeS v != 4) = true := by rw [bne_iff_ne]; exact hv
            have HV := Lib.hid hv
            clear hv
            go_wp2_with (go_at_call 105; refine (rsize_c v hv0.1 hv0.2 _).mono ?_; rintro e w' ⟨rfl, rfl⟩)
            go_ret3
            exact Ret3.mk (outS_no HV.out)

set_option maxHeartbeats 800000 in
theorem rget_cut3 (b off n cap : Nat) (c0 : UInt8) (w : World) (hn : 0 < n) (h1 : n ≤ cap) (h2 : cap ≤ 9223372036854775807)
    (hq : c0.toNat / 64 = 3)
    (hc0 : w.cell? ⟨b, off, none⟩ = some (.int .u8 (c0.toNat : Int)))
    (hlt : n < 8) :
    Calls Tryd.prog 82 #[.slice (some ⟨b, off, none⟩) n cap] w (Ret3 (0, 0, 10) w) := by
  have e1 : (c0.toNat : Int) / 64 = 3 := by omega
  have hp : (0 : Int) < (n : Int) := by omega
  have hne : ((n : Int) == 0) = false := by simp; omega
  have hm : 0 ≤ ((c0.toNat : Int) % 64) ∧ ((c0.toNat : Int) % 64) < 64 := by omega
  clear hq
  go_enter Tryd.func82, Tryd.ntmps82
  go_wp2
  go_loop [5, 6] (fun v i => ∃ j : Nat, j ≤ 3 ∧ i = .int .i64 j ∧ v = .int .i64 ((2 ^ j : Nat) : Int)) (fun _ i => 3 - (intOf i).toNat)
  case atStart => exact ⟨0, by omega, rfl, rfl⟩
  case round =>
    obtain ⟨j, hj, rfl, rfl⟩ := hrel
    by_cases hlt1 : j < 3
    · have hj3 : ((2 ^ j : Nat) : Int) ≤ 8 ∧ 0 ≤ ((2 ^ j : Nat) : Int) := by
        rcases (by omega : j = 0 ∨ j = 1 ∨ j = 2) with rfl | rfl | rfl <;> omega
      have hps := Lib.hid (show 2 * ((2 ^ j : Nat) : Int) = ((2 ^ (j + 1) : Nat) : Int) by rw [Nat.pow_succ]; omega)
      obtain ⟨p, hpp⟩ : ∃ p : Int, p = ((2 ^ j : Nat) : Int) := ⟨_, rfl⟩
      rw [← hpp] at hj3 hps ⊢
      clear hpp
      go_wp2
      go_round
      case rel => exact ⟨j + 1, by omega, by go_num, by rw [← hps.out]⟩
      case measure => simp [intOf]; omega
    · obtain rfl : j = 3 := by omega
      clear hlt1 hj
      have hd : decide ((n : Int) < 8) = true := by simp; omega
      go_wp2
      go_ret3
      exact Ret3.mk rfl

set_option maxHeartbeats 800000 in
theorem rget_at3 (b off n cap : Nat) (c0 : UInt8) (r : List UInt8) (w : World) (hn : 0 < n) (h1 : n ≤ cap) (h2 : cap ≤ 9223372036854775807)
    (hq : c0.toNat / 64 = 3)
    (hc0 : w.cell? ⟨b, off, none⟩ = some (.int .u8 (c0.toNat : Int)))
    (hr : 7 ≤ r.length) (hlt : 8 ≤ n)
    (hc : ∀ i, i < 7 → w.cell? ⟨b, off + (i + 1), none⟩ = some (.int .u8 (by8 r i))) :
    Calls Tryd.prog 82 #[.slice (some ⟨b, off, none⟩) n cap] w (Ret3 (outS 8 (valS ((c0.toNat : Int) % 64) r 7)) w) := by
  have e1 : (c0.toNat : Int) / 64 = 3 := by omega
  have hp : (0 : Int) < (n : Int) := by omega
  have hne : ((n : Int) == 0) = false := by simp; omega
  have hm : 0 ≤ ((c0.toNat : Int) % 64) ∧ ((c0.toNat : Int) % 64) < 64 := by omega
  clear hq
  go_enter Tryd.func82, Tryd.ntmps82
  go_wp2
  go_loop [5, 6] (fun v i => ∃ j : Nat, j ≤ 3 ∧ i = .int .i64 j ∧ v = .int .i64 ((2 ^ j : Nat) : Int)) (fun _ i => 3 - (intOf i).toNat)
  case atStart => exact ⟨0, by omega, rfl, rfl⟩
  case round =>
    obtain ⟨j, hj, rfl, rfl⟩ := hrel
    by_cases hlt1 : j < 3
    · have hj3 : ((2 ^ j : Nat) : Int) ≤ 8 ∧ 0 ≤ ((2 ^ j : Nat) : Int) := by
        rcases (by omega : j = 0 ∨ j = 1 ∨ j = 2) with rfl | rfl | rfl <;> omega
      have hps := Lib.hid (show 2 * ((2 ^ j : Nat) : Int) = ((2 ^ (j + 1) : Nat) : Int) by rw [Nat.pow_succ]; omega)
      obtain ⟨p, hpp⟩ : ∃ p : Int, p = ((2 ^ j : Nat) : Int) := ⟨_, rfl⟩
      rw [← hpp] at hj3 hps ⊢
      clear hpp
      go_wp2
      go_round
      case rel => exact ⟨j + 1, by omega, by go_num, by rw [← hps.out]⟩
      case measure => simp [intOf]; omega
    · obtain rfl : j = 3 := by omega
      clear hlt1 hj
      have hd : decide ((n : Int) < 8) = false := by simp; omega
      go_wp2
      go_loop [7, 8] (fun v i => ∃ k : Nat, k ≤ 7 ∧ i = .int .i64 ((k : Int) + 1) ∧ v = .int .i64 (valS ((c0.toNat : Int) % 64) r k)) (fun _ i => 8 - (intOf i).toNat)
      case atStart => exact ⟨0, by omega, rfl, by rw [valS_zero]⟩
      case round =>
        obtain ⟨k, hk, rfl, rfl⟩ := hrel
        by_cases hlt2 : k < 7
        · have hb := valS_lt54 ((c0.toNat : Int) % 64) r k hm.1 hm.2 (by omega) (by omega)
          have hcell := hc k hlt2
          have hs := Lib.hid (valS_succ ((c0.toNat : Int) % 64) r k (by omega))
          have h8 := by8_bd r k
          have hk2 : (k : Int) + 1 < n := by omega
          go_wp2
          go_round
          case rel => exact ⟨k + 1, by omega, by go_num, by rw [hs.out, Int.mul_comm]⟩
          case measure => simp [intOf]; omega
        · obtain rfl : k = 7 := by omega
          have hb := valS_bd ((c0.toNat : Int) % 64) r 7 hm.1 hm.2 (by omega)
          clear hc hlt2
          generalize valS ((c0.toNat : Int) % 64) r 7 = v at *
          have hv0 : -9223372036854775808 ≤ v ∧ v ≤ 9223372036854775807 := by omega
          by_cases hv : sizeS v = 8
          · have hz : (sizeS v != 8) = false := by rw [hv]; rfl
            have HV := Lib.hid hv
            clear hv
            go_wp2_with (go_at_call 105; refine (rsize_c v hv0.1 hv0.2 _).mono ?_; rintro e w' ⟨rfl, rfl⟩)
            go_ret3
            exact Ret3.mk (outS_yes HV.out)
          · have hz : (sizeS v != 8) = true := by rw [bne_iff_ne]; exact hv
            have HV := Lib.hid hv
            clear hv
            go_wp2_with (go_at_call 105; refine (rsize_c v hv0.1 hv0.2 _).mono ?_; rintro e w' ⟨rfl, rfl⟩)
            go_ret3
            exact Ret3.mk (outS_no HV.out)

/-- rget: what bytes begin with. -/
theorem rget_c {w : World} {a : Option Addr} {n cap : Nat} {l : List UInt8} (h : Bys w a n cap l) : Calls Tryd.prog 82 #[.slice a n cap] w (Ret3 (getS l) w) := by
  obtain ⟨hlen, hle, hmax, hadr⟩ := h
  cases l with
  | nil => simp at hlen; subst hlen; exact rget_nil a cap w
  | cons c0 r =>
    simp at hlen
    rcases hadr with h0 | ⟨b, off, rfl, hc⟩
    · omega
    have hc0 : w.cell? ⟨b, off, none⟩ = some (.int .u8 (c0.toNat : Int)) := by simpa [by8] using hc 0 (by omega)
    have hcs : ∀ i, i < n - 1 → w.cell? ⟨b, off + (i + 1), none⟩ = some (.int .u8 (by8 r i)) := fun i hi => by
      have := hc (i + 1) (by omega)
      rw [by8_cons] at this
      rw [show off + (i + 1) = off + (i + 1) by omega]; exact this
    have hlt := c0.toNat_lt
    rcases (by omega : c0.toNat / 64 = 0 ∨ c0.toNat / 64 = 1 ∨ c0.toNat / 64 = 2 ∨ c0.toNat / 64 = 3) with hq | hq | hq | hq
    · simp only [getS, hq]; rw [if_neg (by omega)]
      exact rget_at0 b off n cap c0 r w (by omega) hle hmax hq hc0 (by omega) (by omega) (fun i hi => hcs i (by omega))
    · simp only [getS, hq]
      by_cases hs : n < 2
      · rw [if_pos (by omega)]; exact rget_cut1 b off n cap c0 w (by omega) hle hmax hq hc0 hs
      · rw [if_neg (by omega)]; exact rget_at1 b off n cap c0 r w (by omega) hle hmax hq hc0 (by omega) (by omega) (fun i hi => hcs i (by omega))
    · simp only [getS, hq]
      by_cases hs : n < 4
      · rw [if_pos (by omega)]; exact rget_cut2 b off n cap c0 w (by omega) hle hmax hq hc0 hs
      · rw [if_neg (by omega)]; exact rget_at2 b off n cap c0 r w (by omega) hle hmax hq hc0 (by omega) (by omega) (fun i hi => hcs i (by omega))
    · simp only [getS, hq]
      by_cases hs : n < 8
      · rw [if_pos (by omega)]; exact rget_cut3 b off n cap c0 w (by omega) hle hmax hq hc0 hs
      · rw [if_neg (by omega)]; exact rget_at3 b off n cap c0 r w (by omega) hle hmax hq hc0 (by omega) (by omega) (fun i hi => hcs i (by omega))
end Go.Proofs.YtkjpmdpljdgcjaaDoor
