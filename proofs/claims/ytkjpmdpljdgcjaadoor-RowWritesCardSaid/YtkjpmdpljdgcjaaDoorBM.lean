/-
  THERE AND BACK: a number's bytes begin with that number; what bytes begin with is put as those bytes. The plain mathematics. No program is named here.
-/
import Derived.Test.YtkjpmdpljdgcjaaDoorPM
namespace Go.Proofs.YtkjpmdpljdgcjaaDoor
open Go.RowKit
set_option linter.unusedVariables false

theorem by8_append_left (l m : List UInt8) (i : Nat) (h : i < l.length) : by8 (l ++ m) i = by8 l i := by
  unfold by8; rw [List.getD_eq_getElem?_getD, List.getElem?_append_left h, List.getD_eq_getElem?_getD]

/-- The digits of n, the highest first, from a on. -/
theorem valS_digits (n : Int) (h0 : 0 ≤ n) (r : List UInt8) (c : Nat) (hr : ∀ j, j < c → by8 r j = ((rawAt n (c - 1 - j)).toNat : Int)) (hl : c ≤ r.length) :
    ∀ j, j ≤ c → valS (n / 256 ^ c) r j = n / 256 ^ (c - j) := by
  intro j
  induction j with
  | zero => intro _; rw [valS_zero, Nat.sub_zero]
  | succ j ih =>
    intro hj
    rw [valS_succ _ _ _ (by omega), ih (by omega), hr j (by omega)]
    have e : (256 : Int) ^ (c - j) = 256 ^ (c - (j + 1)) * 256 := by rw [← Int.pow_succ]; congr 1; omega
    have hv := rawAt_val n h0 (c - 1 - j)
    rw [show (2 : Int) ^ (8 * (c - 1 - j)) = 256 ^ (c - 1 - j) by rw [Int.pow_mul]; rfl, show c - 1 - j = c - (j + 1) by omega] at hv
    rw [show c - 1 - j = c - (j + 1) by omega, e, ← hv, ← Int.ediv_ediv_of_nonneg (Int.pow_nonneg (by omega))]
    omega

theorem markS_div (k : Nat) (hk : k = 1 ∨ k = 2 ∨ k = 4 ∨ k = 8) : 2 ^ (markS k / 64) = k ∧ markS k % 64 = 0 ∧ markS k ≤ 192 := by
  rcases hk with rfl | rfl | rfl | rfl <;> decide

theorem numK_cons (n : Int) (k : Nat) (hk : 0 < k) : numK n k = UInt8.ofNat (n.toNat / 256 ^ (k - 1) % 256 + markS k) :: (rawB n k).tail := by
  unfold numK
  cases h : rawB n k with
  | nil => have := rawB_length n k; rw [h] at this; simp at this; omega
  | cons a t => rfl
theorem rawB_tail (n : Int) (k j : Nat) (h : j + 1 < k) : by8 (rawB n k).tail j = ((rawAt n (k - 2 - j)).toNat : Int) := by
  have h1 := rawB_get n k (j + 1) h
  rw [show k - 1 - (j + 1) = k - 2 - j by omega] at h1
  rw [← h1]
  unfold by8 byt8
  simp [List.getD]

/-- A number's bytes begin with that number, whatever stands behind them. -/
theorem getS_num (n : Int) (t : List UInt8) (h0 : 0 ≤ n) (h1 : n ≤ 4611686018427387903) : getS (numB n ++ t) = (n, sizeS n, 0) := by
  obtain ⟨k, hs, hk, hlow⟩ := sizeS_cases h0 h1
  have hnb : numB n = numK n k := by unfold numB; rw [hs]; rfl
  obtain ⟨m1, m2, m3⟩ := markS_div k hk
  have hk0 : 0 < k := by omega
  rw [hnb, numK_cons n k hk0]
  show getS (_ :: ((rawB n k).tail ++ t)) = _
  have hb : (UInt8.ofNat (n.toNat / 256 ^ (k - 1) % 256 + markS k)).toNat = n.toNat / 256 ^ (k - 1) + markS k := by
    generalize n.toNat / 256 ^ (k - 1) = x at *
    simp; omega
  have hbd : (n.toNat / 256 ^ (k - 1) + markS k) / 64 = markS k / 64 := by
    generalize n.toNat / 256 ^ (k - 1) = x at *
    omega
  have hbm : (((n.toNat / 256 ^ (k - 1) + markS k : Nat) : Int) % 64) = n / 256 ^ (k - 1) := by
    obtain ⟨m, rfl⟩ := Int.eq_ofNat_of_zero_le h0
    rw [show ((m : Int) / 256 ^ (k - 1)) = ((m / 256 ^ (k - 1) : Nat) : Int) by simp]
    rw [Int.toNat_natCast] at hlow ⊢
    generalize m / 256 ^ (k - 1) = x at *
    omega
  simp only [getS]
  rw [hb, hbd, m1, hbm]
  have hlen : (rawB n k).tail.length = k - 1 := by rw [List.length_tail, rawB_length]
  rw [if_neg (by simp [rawB_length]; omega)]
  have hv := valS_digits n h0 ((rawB n k).tail ++ t) (k - 1) (fun j hj => by
    rw [by8_append_left _ _ _ (by rw [hlen]; exact hj), rawB_tail n k j (by omega), show k - 1 - 1 - j = k - 2 - j by omega]) (by simp [rawB_length]) (k - 1) (Nat.le_refl _)
  rw [hv, Nat.sub_self, Int.pow_zero, Int.ediv_one, outS_yes hs, hs]

theorem valS_div (a : Int) (r : List UInt8) (c : Nat) (hl : c ≤ r.length) : ∀ j, j ≤ c → valS a r c / 256 ^ j = valS a r (c - j) := by
  intro j
  induction j with
  | zero => intro _; simp
  | succ j ih =>
    intro hj
    rw [Int.pow_succ, ← Int.ediv_ediv_of_nonneg (Int.pow_nonneg (by omega)), ih (by omega)]
    have e : c - j = (c - (j + 1)) + 1 := by omega
    rw [e, valS_succ _ _ _ (by omega)]
    have h8 := by8_bd r (c - (j + 1))
    omega

theorem byt8_eq {l m : List UInt8} (hl : l.length = m.length) (h : ∀ i, i < l.length → byt8 l i = byt8 m i) : l = m := by
  apply List.ext_getElem hl
  intro i h1 h2
  have := h i h1
  unfold byt8 at this
  simpa [List.getD, h1, h2] using this

/-- What is got is put as the bytes that it was got from. -/
theorem getS_form (l : List UInt8) (q : Nat) (h : (getS l).2.2 = 0) (hq : (getS l).2.1 = (q : Int)) : numB (getS l).1 = l.take q := by
  cases l with
  | nil => simp [getS] at h
  | cons b r =>
    simp only [getS] at h hq ⊢
    have hb := b.toNat_lt
    by_cases hc : r.length + 1 < 2 ^ (b.toNat / 64)
    · rw [if_pos hc] at h; simp at h
    rw [if_neg hc] at h hq ⊢
    generalize hv : valS ((b.toNat : Int) % 64) r (2 ^ (b.toNat / 64) - 1) = v at *
    by_cases hs : sizeS v = ((2 ^ (b.toNat / 64) : Nat) : Int)
    · rw [outS_yes hs] at hq ⊢
      simp only at hq ⊢
      obtain ⟨k, hk⟩ : ∃ k, k = 2 ^ (b.toNat / 64) := ⟨_, rfl⟩
      rw [← hk] at hs hv hc hq
      obtain rfl : q = k := by omega
      have hkk : q = 1 ∨ q = 2 ∨ q = 4 ∨ q = 8 := by
        rcases (by omega : b.toNat / 64 = 0 ∨ b.toNat / 64 = 1 ∨ b.toNat / 64 = 2 ∨ b.toNat / 64 = 3) with e | e | e | e <;> rw [e] at hk <;> omega
      have hm : markS q = 64 * (b.toNat / 64) := by
        rcases (by omega : b.toNat / 64 = 0 ∨ b.toNat / 64 = 1 ∨ b.toNat / 64 = 2 ∨ b.toNat / 64 = 3) with e | e | e | e <;> rw [e] at hk ⊢ <;> subst hk <;> rfl
      have hbd := valS_bd ((b.toNat : Int) % 64) r (q - 1) (by omega) (by omega) (by omega)
      rw [hv] at hbd
      have h0 : 0 ≤ v := hbd.1
      have hnb : numB v = numK v q := by unfold numB; rw [hs]; rfl
      have hdiv := fun j (hj : j ≤ q - 1) => valS_div ((b.toNat : Int) % 64) r (q - 1) (by omega) j hj
      rw [hv] at hdiv
      rw [hnb]
      apply byt8_eq
      · rw [numK_length, List.length_take]; simp; omega
      · rw [numK_length]
        intro i hi
        have htk : byt8 ((b :: r).take q) i = byt8 (b :: r) i := by unfold byt8; simp [List.getD, hi]
        rw [htk]
        have htop : v.toNat / 256 ^ (q - 1) = b.toNat % 64 := by
          have := hdiv (q - 1) (Nat.le_refl _)
          rw [Nat.sub_self, valS_zero] at this
          obtain ⟨m, rfl⟩ := Int.eq_ofNat_of_zero_le h0
          rw [show ((m : Int) / 256 ^ (q - 1)) = ((m / 256 ^ (q - 1) : Nat) : Int) by simp] at this
          rw [Int.toNat_natCast]
          omega
        by_cases hi0 : i = 0
        · subst hi0
          rw [numK_cons v q (by omega)]
          show UInt8.ofNat _ = b
          rw [htop, hm, show b.toNat % 64 % 256 + 64 * (b.toNat / 64) = b.toNat by omega]
          simp
        · have hraw : byt8 (numK v q) i = rawAt v (q - 1 - i) := by
            rw [← rawB_get v q i hi]
            unfold byt8 numK
            simp [List.getD, show ¬ 0 = i by omega]
          rw [hraw]
          apply UInt8.toNat_inj.1
          have e1 := rawAt_val v h0 (q - 1 - i)
          rw [show (2 : Int) ^ (8 * (q - 1 - i)) = 256 ^ (q - 1 - i) by rw [Int.pow_mul]; rfl, hdiv (q - 1 - i) (by omega),
            show q - 1 - (q - 1 - i) = (i - 1) + 1 by omega, valS_succ _ _ _ (by omega)] at e1
          have h8 := by8_bd r (i - 1)
          have e2 : by8 r (i - 1) = ((byt8 (b :: r) i).toNat : Int) := by
            obtain ⟨j, rfl⟩ : ∃ j, i = j + 1 := ⟨i - 1, by omega⟩
            rw [Nat.add_sub_cancel]; rfl
          omega
    · rw [outS_no hs] at h; simp at h
theorem sizeS_pos {v : Int} {k : Int} (h : sizeS v = k) (hk : 0 < k) : 0 ≤ v ∧ v ≤ 4611686018427387903 := by
  by_cases hv : v < 0 ∨ 4611686018427387903 < v
  · rw [sizeS_neg hv] at h; omega
  · omega

theorem getS_ok (l : List UInt8) (h : (getS l).2.2 = 0) : ∃ q : Nat, (getS l).2.1 = (q : Int) ∧ 1 ≤ q ∧ q ≤ l.length ∧ 0 ≤ (getS l).1 ∧ (getS l).1 ≤ 4611686018427387903 := by
  cases l with
  | nil => simp [getS] at h
  | cons b r =>
    simp only [getS] at h ⊢
    have hp : 1 ≤ 2 ^ (b.toNat / 64) := Nat.one_le_two_pow
    by_cases hc : r.length + 1 < 2 ^ (b.toNat / 64)
    · rw [if_pos hc] at h; simp at h
    · rw [if_neg hc] at h ⊢
      generalize hv : valS ((b.toNat : Int) % 64) r (2 ^ (b.toNat / 64) - 1) = v at *
      by_cases hs : sizeS v = ((2 ^ (b.toNat / 64) : Nat) : Int)
      · rw [outS_yes hs] at h ⊢
        exact ⟨2 ^ (b.toNat / 64), rfl, hp, by simp; omega, sizeS_pos hs (by omega)⟩
      · rw [outS_no hs] at h; simp at h


theorem getS_bad (l : List UInt8) (h : ¬ (getS l).2.2 = 0) : (getS l).1 = 0 ∧ (getS l).2.1 = 0 := by
  cases l with
  | nil => exact ⟨rfl, rfl⟩
  | cons b r =>
    simp only [getS] at h ⊢
    by_cases hc : r.length + 1 < 2 ^ (b.toNat / 64)
    · rw [if_pos hc]; exact ⟨rfl, rfl⟩
    · rw [if_neg hc] at h ⊢
      generalize valS ((b.toNat : Int) % 64) r (2 ^ (b.toNat / 64) - 1) = v at *
      by_cases hs : sizeS v = ((2 ^ (b.toNat / 64) : Nat) : Int)
      · rw [outS_yes hs] at h; simp at h
      · rw [outS_no hs]; exact ⟨rfl, rfl⟩

end Go.Proofs.YtkjpmdpljdgcjaaDoor
