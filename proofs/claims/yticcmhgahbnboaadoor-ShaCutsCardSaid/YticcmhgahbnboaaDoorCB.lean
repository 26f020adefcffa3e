/-
  THE SUM's WORDS IN THE WALK's SPELLING: Go's operations on 32 bits, as integers, against the plain mathematics. No program is named here.
-/
import Derived.Test.YticcmhgahbnboaaDoorCM
import Derived.Lib.Hide
namespace Go.Proofs.YticcmhgahbnboaaDoor
open Go.RowKit
set_option linter.unusedVariables false

/-- A word as the walk's number. -/
def I (x : W32) : Int := (x.toNat : Int)
theorem I_bd (x : W32) : 0 ≤ I x ∧ I x ≤ 4294967295 := by unfold I; have := x.isLt; omega
theorem I_inj {x y : W32} (h : I x = I y) : x = y := by unfold I at h; exact BitVec.eq_of_toNat_eq (by omega)
theorem I_of (n : Int) (h0 : 0 ≤ n) (h1 : n ≤ 4294967295) : ∃ x, n = I x := by
  refine ⟨BitVec.ofNat 32 n.toNat, ?_⟩
  unfold I; rw [BitVec.toNat_ofNat]; omega

theorem I_xor (x y : W32) : bits .xor .u32 (I x) (I y) = I (x ^^^ y) := by
  unfold I; rw [u32_xor_nat _ _ (by have := x.isLt; omega) (by have := y.isLt; omega), BitVec.toNat_xor]
theorem I_and (x y : W32) : bits .and .u32 (I x) (I y) = I (x &&& y) := by
  unfold I; rw [u32_and_nat _ _ (by have := x.isLt; omega) (by have := y.isLt; omega), BitVec.toNat_and]
theorem I_or (x y : W32) : bits .or .u32 (I x) (I y) = I (x ||| y) := by
  unfold I; rw [u32_or_nat _ _ (by have := x.isLt; omega) (by have := y.isLt; omega), BitVec.toNat_or]
theorem I_not (x : W32) : bits .xor .u32 4294967295 (I x) = I (~~~ x) := by
  have : (4294967295 : Int) = I (BitVec.allOnes 32) := by decide
  rw [this, I_xor, BitVec.xor_comm, ← not_xor32]
theorem I_not' (x : W32) : bits .xor .u32 IntKind.u32.max (I x) = I (~~~ x) := by
  rw [show IntKind.u32.max = 4294967295 by decide]; exact I_not x
theorem I_shl1 (x : W32) : I x * (2 : Int) % (4294967296 : Int) = I (x <<< 1) := by
  unfold I; rw [BitVec.toNat_shiftLeft]; simp [Nat.shiftLeft_eq]
theorem I_top (x : W32) : I x / 2147483648 = if x.msb then 1 else 0 := by
  unfold I; rw [BitVec.msb_eq_decide]
  have := x.isLt
  split <;> simp_all <;> omega
theorem I_poly : (79764919 : Int) = I polyS := by decide

theorem up_val (x : W32) : bits .xor .u32 (I x * 2 % 4294967296) (bits .and .u32 79764919 (-(I x / 2147483648) % 4294967296)) = I (upS x) := by
  rw [I_shl1, I_top, I_poly]
  unfold upS
  cases x.msb with
  | true =>
    rw [show (-(if true = true then 1 else 0 : Int) % 4294967296) = I (BitVec.allOnes 32) by decide, I_and, I_xor, BitVec.and_allOnes, if_pos rfl]
  | false =>
    rw [show (-(if false = true then 1 else 0 : Int) % 4294967296) = I 0#32 by decide, I_and, I_xor]; simp

/-- A bit that comes, as the document has it. -/
def bitS (r : W32) (b : Bool) : W32 := (r <<< 1) ^^^ (if r.msb != b then polyS else 0#32)
theorem bit_yes (x : W32) (b : Bool) (h : (x.msb != b) = true) : bits .xor .u32 (I x * 2 % 4294967296) 79764919 = I (bitS x b) := by
  unfold bitS; rw [h, I_shl1, I_poly, I_xor]; simp
theorem bit_no (x : W32) (b : Bool) (h : (x.msb != b) = false) : I x * 2 % 4294967296 = I (bitS x b) := by
  unfold bitS; rw [h, I_shl1]; simp
theorem top_ne (x : W32) (b : Bool) : (I x / 2147483648 != (if b then 1 else 0)) = (x.msb != b) := by
  rw [I_top]; cases x.msb <;> cases b <;> decide

theorem bitS_up (r : W32) (b : Bool) : bitS r b = upS r ^^^ (if b then polyS else 0#32) := by
  unfold bitS upS
  cases r.msb <;> cases b <;> simp [BitVec.xor_assoc]

/-- The bit of weight 2 to the k of a byte. -/
def bitAt (c : UInt8) (k : Nat) : Bool := c.toNat.testBit k
/-- The first j bits of a byte come, the highest first. -/
def bitsS (r : W32) (c : UInt8) : Nat → W32
  | 0 => r
  | j + 1 => bitS (bitsS r c j) (bitAt c (7 - j))

theorem wd_shl_msb (c : UInt8) (j : Nat) (hj : j < 8) : (wd c <<< (24 + j)).msb = bitAt c (7 - j) := by
  rw [BitVec.msb_eq_getLsbD_last]
  unfold wd bitAt
  simp only [BitVec.getLsbD_shiftLeft, BitVec.getLsbD_ofNat]
  rw [show 32 - 1 - (24 + j) = 7 - j by omega]
  simp [show 7 - j < 32 by omega, show ¬ 31 < 24 + j by omega]

theorem bitsS_ups (r : W32) (c : UInt8) (j : Nat) (hj : j ≤ 8) : ups j (r ^^^ wd c <<< 24) = bitsS r c j ^^^ wd c <<< (24 + j) := by
  induction j with
  | zero => rfl
  | succ j ih =>
    rw [ups_succ, ih (by omega), upS_xor, bitsS, bitS_up]
    have e : upS (wd c <<< (24 + j)) = wd c <<< (24 + (j + 1)) ^^^ (if bitAt c (7 - j) then polyS else 0#32) := by
      unfold upS
      rw [wd_shl_msb c j (by omega), ← BitVec.shiftLeft_add]
      rfl
    rw [e]
    generalize upS (bitsS r c j) = a
    generalize wd c <<< (24 + (j + 1)) = b
    generalize (if bitAt c (7 - j) then polyS else 0#32) = d
    rw [BitVec.xor_assoc, BitVec.xor_comm d]
theorem bitsS_come (r : W32) (c : UInt8) : bitsS r c 8 = comeS r c := by
  have h := bitsS_ups r c 8 (by omega)
  unfold comeS
  rw [h]
  have : wd c <<< (24 + 8) = 0#32 := by simp
  rw [this]; simp

/-- Byte i of l. -/
def byt (l : List UInt8) (i : Nat) : UInt8 := l.getD i 0
theorem by8_byt (l : List UInt8) (i : Nat) : by8 l i = ((byt l i).toNat : Int) := rfl

theorem come_val (r : W32) (c : UInt8) (cv : Int) (h : cv = (c.toNat : Int)) : bits .xor .u32 (I r) (cv * 16777216) = I (r ^^^ wd c <<< 24) := by
  have : cv * (16777216 : Int) = I (wd c <<< 24) := by
    subst h
    unfold I wd
    have := c.toNat_lt
    rw [BitVec.toNat_shiftLeft, BitVec.toNat_ofNat, Nat.shiftLeft_eq]; omega
  rw [this, I_xor]

theorem bit_val (c : UInt8) (cv : Int) (h : cv = (c.toNat : Int)) (k : Nat) : bits .and .u32 (cv / 2 ^ k) 1 = if bitAt c k then 1 else 0 := by
  subst h
  unfold bitAt
  rw [Nat.testBit_eq_decide_div_mod_eq]
  have hlt := c.toNat_lt
  have hle : c.toNat / 2 ^ k ≤ c.toNat := Nat.div_le_self _ _
  have e := u32_and_nat (c.toNat / 2 ^ k) 1 (by omega) (by omega)
  rw [show ((c.toNat / 2 ^ k : Nat) : Int) = (c.toNat : Int) / 2 ^ k by simp] at e
  rw [show ((1 : Nat) : Int) = 1 by rfl] at e
  rw [e, Nat.and_one_is_mod]
  split <;> simp_all <;> omega

/-- The first k bytes of l have come. -/
def crcK (r : W32) (l : List UInt8) (k : Nat) : W32 := crcS r (l.take k)
theorem crcK_zero (r : W32) (l : List UInt8) : crcK r l 0 = r := by simp [crcK, crcS]
theorem crcK_all (r : W32) (l : List UInt8) : crcK r l l.length = crcS r l := by simp [crcK]
theorem crcK_succ (r : W32) (l : List UInt8) (k : Nat) (h : k < l.length) : crcK r l (k + 1) = comeS (crcK r l k) (byt l k) := by
  unfold crcK; rw [take_snoc8 l k h, crcS_append]; rfl
end Go.Proofs.YticcmhgahbnboaaDoor
