/-
  sha.tail.
-/
import Derived.Test.YticcmhgahbnboaaDoorSB
import Derived.Deep.QuietTactic
import Derived.BigQuiet
import Derived.Outline
namespace Go.Proofs.YticcmhgahbnboaaDoor
open Go.RowKit Go
set_option linter.unusedVariables false

/-- A row of bytes of its own comes back. -/
def FreshPost (l : List UInt8) (w : World) (e : Ending) (w' : World) : Prop :=
  e = .returned (.slice (some ⟨w.heap.size, 0, none⟩) l.length l.length) ∧ RowB w' w.heap.size 5 l ∧ Below w.heap.size w w'

theorem wrapLen (n : Nat) : IntKind.u64.wrap ((n : Int) * 8) = ((8 * n % 18446744073709551616 : Nat) : Int) := by
  have : IntKind.u64.wrap ((n : Int) * 8) = ((n : Int) * 8) % 18446744073709551616 := by simp [IntKind.wrap, IntKind.signed, IntKind.bits]
  rw [this]; omega
theorem u8v_zeros (n : Nat) : u8v (List.replicate n 0) = List.replicate n (.int .u8 0) := by unfold u8v; rw [List.map_replicate]; rfl

set_option maxRecDepth 100000 in
set_option maxHeartbeats 1600000 in
theorem tail_c (n : Nat) (hn : n ≤ 9223372036854775807) {w : World} : Calls Tryd.prog 47 #[.int .i64 n] w (FreshPost (tailS n) w) := by
  obtain ⟨i0, hi, hz0, hz1, hz2⟩ := info_parts Tryd.info5
  have hr : Int.tmod (n : Int) 64 = ((n % 64 : Nat) : Int) := by rw [Int.tmod_eq_emod_of_nonneg (by omega)]; omega
  obtain ⟨q, hq⟩ : ∃ q, n % 64 = q := ⟨_, rfl⟩
  obtain ⟨z, hz⟩ : ∃ z, nilS n = z := ⟨_, rfl⟩
  have hq64 : q < 64 := by omega
  have hzq : Int.tmod (128 - ((q : Int) + 1 + 8)) 64 = (z : Int) := by rw [Int.tmod_eq_emod_of_nonneg (by omega), ← hz]; unfold nilS; omega
  rw [hq] at hr
  have hz64 : z < 64 := by rw [← hz]; unfold nilS; omega
  go_enter Tryd.func47, Tryd.ntmps47
  go_wp2_with (at_make; refine wpList_make_full _ rfl _ _ 22 rfl w.heap.size 5 i0 (.int .u8 0) 1 Tryd.underlying22 hi hz0 hz1 .i64 .i64 _ _ (z + 9) rfl rfl ?c1 ?c2 ?c3 ?c4 ?c5 ?_)
  case c1 => omega
  case c2 => omega
  case c3 => rw [hz2]; omega
  case c4 => unfold maxLen; omega
  case c5 => exact Nat.le_refl _
  intro w1 hown hgr
  have hbel : Below w.heap.size w w1 := (Below.refl _ _).grown hgr (Nat.le_refl _) (fun k hk => by cases hk)
  have hh : w1.heap[w.heap.size]? = some (.cells (List.replicate (z + 9) (Value.int .u8 0)).toArray 5 (0, 0)) := heap_of_made hown
  have hR : RowB w1 w.heap.size 5 (List.replicate (z + 9) 0) := by
    unfold RowB; rw [u8v_zeros]; exact hh
  have hR0 : RowB (w1.setCell ⟨w.heap.size, 0, none⟩ (.int .u8 128)) w.heap.size 5 (tailK n 0) := by
    have := hR.set 0 0x80
    rw [List.replicate_succ] at this
    unfold tailK
    rw [hz]
    exact this
  have hc := hR.cell 0 (by simp)
  have hf := hR.frozen 0
  have hb0 : Below w.heap.size w (w1.setCell ⟨w.heap.size, 0, none⟩ (.int .u8 128)) := hbel.setCell (Nat.le_refl _) _
  have HT := Lib.hid (tailK_all n)
  have HL := Lib.hid (show ∀ k, (tailK n k).length = z + 9 by intro k; rw [tailK_length, hz])
  obtain ⟨m, hm⟩ : ∃ m, z + 9 = m := ⟨_, rfl⟩
  rw [hm] at HL hown hh ⊢
  clear hown hgr hh hR hbel
  go_wp2
  clear hc hf
  generalize w1.setCell ⟨w.heap.size, 0, none⟩ (.int .u8 128) = W0 at *
  go_loopw [24] (fun i wr => ∃ k : Nat, k ≤ 8 ∧ i = .int .i64 k ∧ RowB wr w.heap.size 5 (tailK n k) ∧ Below w.heap.size w wr) (fun i _ => 8 - (intOf i).toNat)
  case atStart => exact ⟨0, by omega, rfl, hR0, hb0⟩
  case round =>
    clear hR0 hb0
    obtain ⟨k, hk, rfl, hA, hbw⟩ := hrel
    rcases (by omega : k = 0 ∨ k = 1 ∨ k = 2 ∨ k = 3 ∨ k = 4 ∨ k = 5 ∨ k = 6 ∨ k = 7 ∨ k = 8) with rfl | rfl | rfl | rfl | rfl | rfl | rfl | rfl | rfl
    · obtain ⟨o, ho⟩ : ∃ o, z + 8 - 0 = o := ⟨_, rfl⟩
      have hoi : (m : Int) - 1 = (o : Int) := by omega
      have hom : o < m := by omega
      have hc := hA.cell o (by rw [HL.out]; omega)
      have hf := hA.frozen o
      have hs := hA.set o (nByte (8 * n) 0)
      rw [show (tailK n 0).set o (nByte (8 * n) 0) = tailK n (0 + 1) by rw [← ho, ← hz]; rfl, nByte_nat, show ((8 * n / 256 ^ 0 % 256 : Nat) : Int) = IntKind.u64.wrap ((n : Int) * 8) % 256 by rw [wrapLen]; omega] at hs
      have HS := Lib.hid hs
      have HB := Lib.hid hbw
      clear hs hA hbw
      go_wp2
      go_roundw
      case rel => exact ⟨_, by decide, rfl, HS.out, HB.out.setCell (Nat.le_refl _) _⟩
      case measure => simp [intOf]
    · obtain ⟨o, ho⟩ : ∃ o, z + 8 - 1 = o := ⟨_, rfl⟩
      have hoi : (m : Int) - 1 - 1 = (o : Int) := by omega
      have hom : o < m := by omega
      have hc := hA.cell o (by rw [HL.out]; omega)
      have hf := hA.frozen o
      have hs := hA.set o (nByte (8 * n) 1)
      rw [show (tailK n 1).set o (nByte (8 * n) 1) = tailK n (1 + 1) by rw [← ho, ← hz]; rfl, nByte_nat, show ((8 * n / 256 ^ 1 % 256 : Nat) : Int) = IntKind.u64.wrap ((n : Int) * 8) / 256 % 256 by rw [wrapLen]; omega] at hs
      have HS := Lib.hid hs
      have HB := Lib.hid hbw
      clear hs hA hbw
      go_wp2
      go_roundw
      case rel => exact ⟨_, by decide, rfl, HS.out, HB.out.setCell (Nat.le_refl _) _⟩
      case measure => simp [intOf]
    · obtain ⟨o, ho⟩ : ∃ o, z + 8 - 2 = o := ⟨_, rfl⟩
      have hoi : (m : Int) - 1 - 2 = (o : Int) := by omega
      have hom : o < m := by omega
      have hc := hA.cell o (by rw [HL.out]; omega)
      have hf := hA.frozen o
      have hs := hA.set o (nByte (8 * n) 2)
      rw [show (tailK n 2).set o (nByte (8 * n) 2) = tailK n (2 + 1) by rw [← ho, ← hz]; rfl, nByte_nat, show ((8 * n / 256 ^ 2 % 256 : Nat) : Int) = IntKind.u64.wrap ((n : Int) * 8) / 65536 % 256 by rw [wrapLen]; omega] at hs
      have HS := Lib.hid hs
      have HB := Lib.hid hbw
      clear hs hA hbw
      go_wp2
      go_roundw
      case rel => exact ⟨_, by decide, rfl, HS.out, HB.out.setCell (Nat.le_refl _) _⟩
      case measure => simp [intOf]
    · obtain ⟨o, ho⟩ : ∃ o, z + 8 - 3 = o := ⟨_, rfl⟩
      have hoi : (m : Int) - 1 - 3 = (o : Int) := by omega
      have hom : o < m := by omega
      have hc := hA.cell o (by rw [HL.out]; omega)
      have hf := hA.frozen o
      have hs := hA.set o (nByte (8 * n) 3)
      rw [show (tailK n 3).set o (nByte (8 * n) 3) = tailK n (3 + 1) by rw [← ho, ← hz]; rfl, nByte_nat, show ((8 * n / 256 ^ 3 % 256 : Nat) : Int) = IntKind.u64.wrap ((n : Int) * 8) / 16777216 % 256 by rw [wrapLen]; omega] at hs
      have HS := Lib.hid hs
      have HB := Lib.hid hbw
      clear hs hA hbw
      go_wp2
      go_roundw
      case rel => exact ⟨_, by decide, rfl, HS.out, HB.out.setCell (Nat.le_refl _) _⟩
      case measure => simp [intOf]
    · obtain ⟨o, ho⟩ : ∃ o, z + 8 - 4 = o := ⟨_, rfl⟩
      have hoi : (m : Int) - 1 - 4 = (o : Int) := by omega
      have hom : o < m := by omega
      have hc := hA.cell o (by rw [HL.out]; omega)
      have hf := hA.frozen o
      have hs := hA.set o (nByte (8 * n) 4)
      rw [show (tailK n 4).set o (nByte (8 * n) 4) = tailK n (4 + 1) by rw [← ho, ← hz]; rfl, nByte_nat, show ((8 * n / 256 ^ 4 % 256 : Nat) : Int) = IntKind.u64.wrap ((n : Int) * 8) / 4294967296 % 256 by rw [wrapLen]; omega] at hs
      have HS := Lib.hid hs
      have HB := Lib.hid hbw
      clear hs hA hbw
      go_wp2
      go_roundw
      case rel => exact ⟨_, by decide, rfl, HS.out, HB.out.setCell (Nat.le_refl _) _⟩
      case measure => simp [intOf]
    · obtain ⟨o, ho⟩ : ∃ o, z + 8 - 5 = o := ⟨_, rfl⟩
      have hoi : (m : Int) - 1 - 5 = (o : Int) := by omega
      have hom : o < m := by omega
      have hc := hA.cell o (by rw [HL.out]; omega)
      have hf := hA.frozen o
      have hs := hA.set o (nByte (8 * n) 5)
      rw [show (tailK n 5).set o (nByte (8 * n) 5) = tailK n (5 + 1) by rw [← ho, ← hz]; rfl, nByte_nat, show ((8 * n / 256 ^ 5 % 256 : Nat) : Int) = IntKind.u64.wrap ((n : Int) * 8) / 1099511627776 % 256 by rw [wrapLen]; omega] at hs
      have HS := Lib.hid hs
      have HB := Lib.hid hbw
      clear hs hA hbw
      go_wp2
      go_roundw
      case rel => exact ⟨_, by decide, rfl, HS.out, HB.out.setCell (Nat.le_refl _) _⟩
      case measure => simp [intOf]
    · obtain ⟨o, ho⟩ : ∃ o, z + 8 - 6 = o := ⟨_, rfl⟩
      have hoi : (m : Int) - 1 - 6 = (o : Int) := by omega
      have hom : o < m := by omega
      have hc := hA.cell o (by rw [HL.out]; omega)
      have hf := hA.frozen o
      have hs := hA.set o (nByte (8 * n) 6)
      rw [show (tailK n 6).set o (nByte (8 * n) 6) = tailK n (6 + 1) by rw [← ho, ← hz]; rfl, nByte_nat, show ((8 * n / 256 ^ 6 % 256 : Nat) : Int) = IntKind.u64.wrap ((n : Int) * 8) / 281474976710656 % 256 by rw [wrapLen]; omega] at hs
      have HS := Lib.hid hs
      have HB := Lib.hid hbw
      clear hs hA hbw
      go_wp2
      go_roundw
      case rel => exact ⟨_, by decide, rfl, HS.out, HB.out.setCell (Nat.le_refl _) _⟩
      case measure => simp [intOf]
    · obtain ⟨o, ho⟩ : ∃ o, z + 8 - 7 = o := ⟨_, rfl⟩
      have hoi : (m : Int) - 1 - 7 = (o : Int) := by omega
      have hom : o < m := by omega
      have hc := hA.cell o (by rw [HL.out]; omega)
      have hf := hA.frozen o
      have hs := hA.set o (nByte (8 * n) 7)
      rw [show (tailK n 7).set o (nByte (8 * n) 7) = tailK n (7 + 1) by rw [← ho, ← hz]; rfl, nByte_nat, show ((8 * n / 256 ^ 7 % 256 : Nat) : Int) = IntKind.u64.wrap ((n : Int) * 8) / 72057594037927936 % 256 by rw [wrapLen]; omega] at hs
      have HS := Lib.hid hs
      have HB := Lib.hid hbw
      clear hs hA hbw
      go_wp2
      go_roundw
      case rel => exact ⟨_, by decide, rfl, HS.out, HB.out.setCell (Nat.le_refl _) _⟩
      case measure => simp [intOf]
    · rw [HT.out] at hA
      have hm2 := HL.out 8
      rw [HT.out] at hm2
      have HA := Lib.hid hA
      have HB := Lib.hid hbw
      clear hA hbw
      go_wp2
      go_ret
      exact ⟨by rw [hm2]; rfl, HA.out, HB.out⟩
end Go.Proofs.YticcmhgahbnboaaDoor
