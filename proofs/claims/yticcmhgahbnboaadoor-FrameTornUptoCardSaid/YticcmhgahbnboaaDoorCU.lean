/-
  BURSTS: fixed bytes of which some within four side by side are turned are not right: the plain mathematics. No program is named here.
-/
import Derived.Test.YticcmhgahbnboaaDoorCF
namespace Go.Proofs.YticcmhgahbnboaaDoor
open Go.RowKit
set_option linter.unusedVariables false

/-- The bytes F of which the first i of the four from k on are turned by e's. -/
def burstK (F : List UInt8) (k : Nat) (e : W32) (i : Nat) : List UInt8 := F.mapIdx (fun j c => if k ≤ j ∧ j < k + i then c ^^^ byt (four e) (j - k) else c)

theorem burstK_length (F : List UInt8) (k : Nat) (e : W32) (i : Nat) : (burstK F k e i).length = F.length := by simp [burstK]
theorem burstK_zero (F : List UInt8) (k : Nat) (e : W32) : burstK F k e 0 = F := by
  unfold burstK
  apply List.ext_getElem (by simp)
  intro j h1 h2
  simp only [List.getElem_mapIdx]
  rw [if_neg (by omega)]
theorem burstK_byt (F : List UInt8) (k : Nat) (e : W32) (i : Nat) (h : k + i < F.length) : byt (burstK F k e i) (k + i) = byt F (k + i) := by
  unfold byt burstK
  simp [List.getD, h]
theorem burstK_succ (F : List UInt8) (k : Nat) (e : W32) (i : Nat) (h : k + i < F.length) : (burstK F k e i).set (k + i) (byt F (k + i) ^^^ byt (four e) i) = burstK F k e (i + 1) := by
  unfold burstK
  apply List.ext_getElem (by simp)
  intro j h1 h2
  simp only [List.length_set, List.length_mapIdx] at h1 h2
  simp only [List.getElem_set, List.getElem_mapIdx]
  by_cases hj : k + i = j
  · subst hj
    rw [if_pos rfl, if_pos (by omega), Nat.add_sub_cancel_left]
    congr 1
    simp [byt, List.getD, h]
  · rw [if_neg hj]
    by_cases hc : k ≤ j ∧ j < k + i
    · rw [if_pos hc, if_pos (by omega)]
    · rw [if_neg hc, if_neg (by omega)]

theorem burst_zip (F : List UInt8) (k : Nat) (e : W32) (h : k + 4 ≤ F.length) : burstK F k e 4 = zipx F (List.replicate k 0 ++ four e ++ List.replicate (F.length - (k + 4)) 0) := by
  unfold burstK zipx
  have h4 : (four e).length = 4 := by simp [four]
  apply List.ext_getElem
  · simp [h4]; omega
  intro j h1 h2
  simp only [List.length_mapIdx] at h1
  simp only [List.getElem_mapIdx, List.getElem_zipWith]
  by_cases hc : k ≤ j ∧ j < k + 4
  · rw [if_pos hc]
    congr 1
    rw [List.getElem_append_left (by simp [h4]; omega), List.getElem_append_right (by simp; omega)]
    simp [byt, List.getD, h4, show j - k < 4 by omega]
  · rw [if_neg hc]
    by_cases hk : j < k
    · rw [List.getElem_append_left (by simp [h4]; omega), List.getElem_append_left (by simp; omega)]
      simp
    · rw [List.getElem_append_right (by simp [h4]; omega)]
      simp

theorem right_crc (l : List UInt8) (h : ¬ l.length < 4) (hr : rightS l = true) : crcS (~~~ 0#32) l = ups 32 (BitVec.allOnes 32) := by
  rw [rightS_iff l h, decide_eq_true_eq] at hr
  have := (right_iff (l.take (l.length - 4)) _).1 rfl
  rw [← hr]
  exact this

theorem burst_bad (l : List UInt8) (k : Nat) (e : W32) (hk : k ≤ l.length) (he : e ≠ 0#32) : rightS (burstK (fixS l) k e 4) = false := by
  cases hr : rightS (burstK (fixS l) k e 4) with
  | false => rfl
  | true =>
    exfalso
    apply he
    have hl : (fixS l).length = l.length + 4 := fixS_length l
    have h1 := right_crc _ (by rw [burstK_length, hl]; omega) hr
    have h2 := right_crc (fixS l) (by rw [hl]; omega) (rightS_fix l)
    rw [burst_zip _ _ _ (by rw [hl]; omega)] at h1
    have h4 : (four e).length = 4 := by simp [four]
    have hz := crcS_zip (fixS l) (List.replicate k 0 ++ four e ++ List.replicate ((fixS l).length - (k + 4)) 0) (by simp [h4]; omega) (~~~ 0#32) 0#32
    rw [show (~~~ 0#32 : W32) ^^^ 0#32 = ~~~ 0#32 by simp] at hz
    rw [h1, h2] at hz
    have h5 : crcS 0#32 (List.replicate k 0 ++ four e ++ List.replicate ((fixS l).length - (k + 4)) 0) = 0#32 := by
      have := congrArg (fun y => ups 32 (BitVec.allOnes 32) ^^^ y) hz
      simp only [xss] at this
      rw [← this]; simp
    rw [crcS_append, crcS_append, crcS_zeros, crcS_four, crcS_ups_zeros] at h5
    have h6 := ups_inj0 _ _ (ups_inj0 _ _ h5)
    simpa using h6

/-- The byte that turns, in the walk's spelling. -/
theorem turn_val (e : W32) (i : Nat) (hi : i < 4) (c : UInt8) (cv : Int) (hc : cv = (c.toNat : Int)) :
    bits .xor .u8 cv (I e / 2 ^ (24 - 8 * i) % 256) = ((c ^^^ byt (four e) i).toNat : Int) := by
  have hv : I e / 2 ^ (24 - 8 * i) % 256 = ((byt (four e) i).toNat : Int) := by
    have := four_val e i hi
    rw [by8_byt] at this
    rw [this, show 8 * (3 - i) = 24 - 8 * i by omega]
  subst hc
  rw [hv, u8_xor_nat _ _ (by have := c.toNat_lt; omega) (by have := (byt (four e) i).toNat_lt; omega), UInt8.toNat_xor]
end Go.Proofs.YticcmhgahbnboaaDoor
