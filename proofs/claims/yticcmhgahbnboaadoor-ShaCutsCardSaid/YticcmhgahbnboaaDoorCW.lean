/-
  THE WALKS over crc's functions and the reference's that only read: each tells what the plain mathematics tells.
-/
import Derived.Test.YticcmhgahbnboaaDoorRows
import Derived.Test.YticcmhgahbnboaaDoorCB
import Derived.WalkSpells
import Derived.WalkLawsBesides
import Derived.BigQuiet
import Derived.Deep.QuietTactic
namespace Go.Proofs.YticcmhgahbnboaaDoor
open Go.RowKit
set_option linter.unusedVariables false

/-- A word comes back, and the world is as it was. -/
def RetW (x : W32) (w : World) (e : Ending) (w' : World) : Prop := e = .returned (.int .u32 (I x)) ∧ w = w'
theorem RetW.mk {a : Int} {x : W32} {w : World} (h : a = I x) : RetW x w (.returned (.int .u32 a)) w := by subst h; exact ⟨rfl, rfl⟩

set_option maxHeartbeats 400000 in
theorem up_c (x : W32) (w : World) : Calls Tryd.prog 73 #[.int .u32 (I x)] w (RetW (upS x) w) := by
  have h := I_bd x
  go_enter Tryd.func73, Tryd.ntmps73
  go_wp2
  go_ret
  exact RetW.mk (up_val x)

set_option maxHeartbeats 400000 in
theorem bit_c (x : W32) (b : Bool) (bv : Int) (hb : bv = if b then 1 else 0) (w : World) : Calls Tryd.prog 72 #[.int .u32 (I x), .int .u32 bv] w (RetW (bitS x b) w) := by
  have h := I_bd x
  have hn : (I x / 2147483648 != bv) = (x.msb != b) := by rw [hb]; exact top_ne x b
  clear hb
  cases hx : (x.msb != b) with
  | true =>
    rw [hx] at hn
    have HX := Lib.hid hx
    clear hx
    go_enter Tryd.func72, Tryd.ntmps72
    go_wp2
    go_ret
    exact RetW.mk (bit_yes x b HX.out)
  | false =>
    rw [hx] at hn
    have HX := Lib.hid hx
    clear hx
    go_enter Tryd.func72, Tryd.ntmps72
    go_wp2
    go_ret
    exact RetW.mk (bit_no x b HX.out)

set_option maxHeartbeats 400000 in
theorem come_c (r : W32) (c : UInt8) (cv : Int) (hcv : cv = (c.toNat : Int)) (w : World) : Calls Tryd.prog 69 #[.int .u32 (I r), .int .u8 cv] w (RetW (comeS r c) w) := by
  have h := I_bd r
  have hc : 0 ≤ cv ∧ cv ≤ 255 := by have := c.toNat_lt; omega
  have hv := come_val r c cv hcv
  clear hcv
  go_enter Tryd.func69, Tryd.ntmps69
  go_wp2
  go_loop [0, 10] (fun v i => ∃ k : Nat, k ≤ 8 ∧ i = .int .i64 k ∧ v = .int .u32 (I (ups k (r ^^^ wd c <<< 24)))) (fun _ i => 8 - (intOf i).toNat)
  case atStart => exact ⟨0, by omega, rfl, rfl⟩
  case round =>
    obtain ⟨k, hk, rfl, rfl⟩ := hrel
    by_cases hlt : k < 8
    · go_wp2_with (go_at_call 73; refine (up_c _ _).mono ?_; rintro e w' ⟨rfl, rfl⟩)
      go_round
      case rel => exact ⟨k + 1, by omega, by go_num, by rw [ups_succ]⟩
      case measure => simp [intOf]; omega
    · obtain rfl : k = 8 := by omega
      go_wp2
      go_ret
      exact RetW.mk rfl

set_option maxHeartbeats 800000 in
theorem more_c (s : W32) {w : World} {a : Option Addr} {n cap : Nat} {l : List UInt8} (hb : Bys w a n cap l) : Calls Tryd.prog 64 #[.int .u32 (I s), .slice a n cap] w (RetW (moreS s l) w) := by
  obtain ⟨hlen, hle, hmax, hadr⟩ := hb
  have h := I_bd s
  have hno := I_not' s
  have hsg : IntKind.u32.signed = false := rfl
  have hlim : n ≤ 9223372036854775807 := by omega
  have HN := Lib.hid hlen
  clear hlen
  go_enter Tryd.func64, Tryd.ntmps64
  go_wp2
  go_loop [5, 12] (fun v i => ∃ k : Nat, k ≤ n ∧ i = .int .i64 k ∧ v = .int .u32 (I (crcK (~~~ s) l k))) (fun _ i => n - (intOf i).toNat)
  case atStart => exact ⟨0, by omega, rfl, by rw [crcK_zero]⟩
  case round =>
    obtain ⟨k, hk, rfl, rfl⟩ := hrel
    by_cases hlt : k < n
    · rcases hadr with h0 | ⟨b, off, rfl, hc⟩
      · omega
      have hcell := hc k hlt
      have h8 := by8_bd l k
      have HS := Lib.hid (crcK_succ (~~~ s) l k (by rw [HN.out]; exact hlt))
      clear hc
      go_wp2_with (go_at_call 69; refine (come_c _ (byt l k) _ (by8_byt l k) _).mono ?_; rintro e w' ⟨rfl, rfl⟩)
      go_round
      case rel => exact ⟨k + 1, by omega, by go_num, by rw [HS.out]⟩
      case measure => simp [intOf]; omega
    · obtain rfl : k = n := by omega
      clear hadr
      have hn2 := Lib.hid (I_not' (crcK (~~~ s) l k))
      go_wp2
      go_ret
      exact RetW.mk (by rw [hn2.out]; unfold moreS; rw [← crcK_all, HN.out])

set_option maxHeartbeats 400000 in
theorem sum_c {w : World} {a : Option Addr} {n cap : Nat} {l : List UInt8} (hb : Bys w a n cap l) : Calls Tryd.prog 51 #[.slice a n cap] w (RetW (sumS l) w) := by
  have h0 : (0 : Int) = I 0#32 := by decide
  have hm := more_c 0#32 hb
  rw [← h0] at hm
  have HM := Lib.hid hm
  clear hm h0
  go_enter Tryd.func51, Tryd.ntmps51
  go_wp2_with (go_at_call 64; refine (HM.out).mono ?_; rintro e w' ⟨rfl, rfl⟩)
  go_ret
  exact RetW.mk rfl

set_option maxHeartbeats 1600000 in
theorem comes_c (r : W32) {w : World} {a : Option Addr} {n cap : Nat} {l : List UInt8} (hb : Bys w a n cap l) : Calls Tryd.prog 66 #[.int .u32 (I r), .slice a n cap] w (RetW (crcS r l) w) := by
  obtain ⟨hlen, hle, hmax, hadr⟩ := hb
  have hlim : n ≤ 9223372036854775807 := by omega
  have HN := Lib.hid hlen
  clear hlen
  go_enter Tryd.func66, Tryd.ntmps66
  go_wp2
  go_loop [0, 5] (fun v i => ∃ k : Nat, k ≤ n ∧ i = .int .i64 k ∧ v = .int .u32 (I (crcK r l k))) (fun _ i => n - (intOf i).toNat)
  case atStart => exact ⟨0, by omega, rfl, by rw [crcK_zero]⟩
  case round =>
    obtain ⟨k, hk, rfl, rfl⟩ := hrel
    by_cases hlt : k < n
    · rcases hadr with h0 | ⟨b, off, rfl, hc⟩
      · omega
      have hcell := hc k hlt
      have h8 := by8_bd l k
      have HS := Lib.hid (crcK_succ r l k (by rw [HN.out]; exact hlt))
      clear hc
      go_wp2
      go_loop [0, 6] (fun v i => ∃ j : Nat, j ≤ 8 ∧ i = .int .i64 (7 - (j : Int)) ∧ v = .int .u32 (I (bitsS (crcK r l k) (byt l k) j))) (fun _ i => (intOf i + 1).toNat)
      case atStart => exact ⟨0, by omega, rfl, rfl⟩
      case round =>
        obtain ⟨j, hj, rfl, rfl⟩ := hrel
        by_cases hlt2 : j < 8
        · have HV := Lib.hid (bit_val (byt l k) (by8 l k) (by8_byt l k) (7 - j))
          go_wp2_with (go_at_call 72; refine (bit_c _ (bitAt (byt l k) (7 - j)) _ HV.out _).mono ?_; rintro e w' ⟨rfl, rfl⟩)
          go_round
          case rel => exact ⟨j + 1, by omega, by congr 1; omega, rfl⟩
          case measure => simp [intOf]; omega
        · obtain rfl : j = 8 := by omega
          go_wp2
          go_round
          case rel => exact ⟨k + 1, by omega, by go_num, by rw [HS.out, bitsS_come]⟩
          case measure => simp [intOf]; omega
    · obtain rfl : k = n := by omega
      clear hadr
      go_wp2
      go_ret
      exact RetW.mk (by rw [← crcK_all, HN.out])
end Go.Proofs.YticcmhgahbnboaaDoor
