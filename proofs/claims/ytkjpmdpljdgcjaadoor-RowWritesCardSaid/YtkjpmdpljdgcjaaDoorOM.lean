/-
  THE ORDER OF NUMBERS' BYTES: the plain mathematics. No program is named here.
-/
import Derived.Test.YtkjpmdpljdgcjaaDoorBM
namespace Go.Proofs.YtkjpmdpljdgcjaaDoor
open Go.RowKit
set_option linter.unusedVariables false

theorem push_lt : ∀ (l m : List UInt8) (a b : Int), l.length = m.length → a < b → l.foldl push1 a < m.foldl push1 b
  | [], [], a, b, _, h => h
  | [], _ :: _, _, _, h, _ => by simp at h
  | _ :: _, [], _, _, h, _ => by simp at h
  | c :: x, d :: y, a, b, h, e => by
    have hl : x.length = y.length := by simpa using h
    refine push_lt x y (push1 a c) (push1 b d) hl ?_
    have := c.toNat_lt
    unfold push1; omega

theorem less_fold : ∀ (l m : List UInt8) (a : Int), l.length = m.length →
    Op.bytesLess l m = decide (l.foldl push1 a < m.foldl push1 a)
  | [], [], a, _ => by simp [Op.bytesLess]
  | [], _ :: _, _, h => by simp at h
  | _ :: _, [], _, h => by simp at h
  | c :: x, d :: y, a, h => by
    have hl : x.length = y.length := by simpa using h
    show (decide (c < d) || (c == d && Op.bytesLess x y)) = decide (x.foldl push1 (push1 a c) < y.foldl push1 (push1 a d))
    by_cases hcd : c = d
    · subst hcd
      rw [less_fold x y (push1 a c) hl]
      have : ¬ c < c := by rw [UInt8.lt_iff_toNat_lt]; omega
      simp [this]
    · have hb : (c == d) = false := by simpa using hcd
      rw [hb, Bool.false_and, Bool.or_false]
      have hne : c.toNat ≠ d.toNat := fun h => hcd (UInt8.toNat_inj.1 h)
      by_cases hlt : c.toNat < d.toNat
      · have h1 : c < d := by rw [UInt8.lt_iff_toNat_lt]; exact hlt
        have h2 := push_lt x y (push1 a c) (push1 a d) hl (by unfold push1; omega)
        simp [h1, h2]
      · have h1 : ¬ c < d := by rw [UInt8.lt_iff_toNat_lt]; exact hlt
        have h2 := push_lt y x (push1 a d) (push1 a c) hl.symm (by unfold push1; omega)
        have h3 : ¬ x.foldl push1 (push1 a c) < y.foldl push1 (push1 a d) := by omega
        simp [h1, h3]

/-- What a number's bytes come to when they are read as one number: the number, and its mark far above. -/
theorem fold_num (n : Int) (h0 : 0 ≤ n) (k : Nat) (hk : k = 1 ∨ k = 2 ∨ k = 4 ∨ k = 8) (hs : sizeS n = (k : Int)) (hlow : n.toNat / 256 ^ (k - 1) < 64) :
    (numB n).foldl push1 0 = n + (markS k : Int) * 256 ^ (k - 1) := by
  have hnb : numB n = numK n k := by unfold numB; rw [hs]; rfl
  obtain ⟨m1, m2, m3⟩ := markS_div k hk
  have hk0 : 0 < k := by omega
  have hadd : ∀ (l : List UInt8) (a c : Int), l.foldl push1 (a + c) = l.foldl push1 a + c * 256 ^ l.length := by
    intro l
    induction l with
    | nil => intro a c; simp
    | cons d t ih =>
      intro a c
      show t.foldl push1 (push1 (a + c) d) = t.foldl push1 (push1 a d) + _
      rw [show push1 (a + c) d = push1 a d + c * 256 by unfold push1; omega, ih, List.length_cons, Int.pow_succ]
      rw [Int.mul_assoc, Int.mul_comm 256]
  rw [hnb, numK_cons n k hk0]
  show (rawB n k).tail.foldl push1 (push1 0 _) = _
  have hlen : (rawB n k).tail.length = k - 1 := by rw [List.length_tail, rawB_length]
  have hb : push1 0 (UInt8.ofNat (n.toNat / 256 ^ (k - 1) % 256 + markS k)) = n / 256 ^ (k - 1) + (markS k : Int) := by
    obtain ⟨m, rfl⟩ := Int.eq_ofNat_of_zero_le h0
    rw [show ((m : Int) / 256 ^ (k - 1)) = ((m / 256 ^ (k - 1) : Nat) : Int) by simp]
    rw [Int.toNat_natCast] at hlow ⊢
    generalize m / 256 ^ (k - 1) = x at *
    unfold push1
    simp; omega
  rw [hb, hadd, hlen]
  have hv := valS_digits n h0 (rawB n k).tail (k - 1) (fun j hj => by
    rw [rawB_tail n k j (by omega), show k - 1 - 1 - j = k - 2 - j by omega]) (by omega) (k - 1) (Nat.le_refl _)
  unfold valS at hv
  rw [List.take_of_length_le (by omega), Nat.sub_self, Int.pow_zero, Int.ediv_one] at hv
  rw [hv]

theorem numB_len {n : Int} (h0 : 0 ≤ n) (h1 : n ≤ 4611686018427387903) : sizeS n = ((numB n).length : Int) ∧ 0 < (numB n).length := by
  obtain ⟨k, hs, hk, hlow⟩ := sizeS_cases h0 h1
  unfold numB; rw [numK_length, hs]
  exact ⟨rfl, by have : ((k : Int)).toNat = k := rfl; omega⟩

/-- Of as many bytes: the lesser number's bytes are the lesser ones. -/
theorem numB_less {m n : Int} (m0 : 0 ≤ m) (m1 : m ≤ 4611686018427387903) (n0 : 0 ≤ n) (n1 : n ≤ 4611686018427387903) (h : (numB m).length = (numB n).length) :
    Op.bytesLess (numB m) (numB n) = decide (m < n) := by
  obtain ⟨k, hs, hk, hlow⟩ := sizeS_cases m0 m1
  obtain ⟨j, hs', hj, hlow'⟩ := sizeS_cases n0 n1
  have e : k = j := by
    have a := (numB_len m0 m1).1
    have b := (numB_len n0 n1).1
    omega
  subst e
  rw [less_fold _ _ 0 h, fold_num m m0 k hk hs hlow, fold_num n n0 k hk hs' hlow']
  congr 1
  rw [eq_iff_iff]
  omega

theorem numB_inj {m n : Int} (m0 : 0 ≤ m) (m1 : m ≤ 4611686018427387903) (n0 : 0 ≤ n) (n1 : n ≤ 4611686018427387903) : numB m = numB n ↔ m = n := by
  constructor
  · intro h
    have a := getS_num m [] m0 m1
    have b := getS_num n [] n0 n1
    rw [h, b] at a
    exact (Prod.mk.inj a).1.symm
  · rintro rfl; rfl

/-- Of two numbers with more and fewer bytes: the one's do not begin the other's. -/
theorem numB_apart {m n : Int} (m0 : 0 ≤ m) (m1 : m ≤ 4611686018427387903) (n0 : 0 ≤ n) (n1 : n ≤ 4611686018427387903) (h : (numB m).length ≠ (numB n).length) (q : Nat) (hq : 0 < q) :
    (numB m).take q ≠ (numB n).take q := by
  obtain ⟨k, hs, hk, hlow⟩ := sizeS_cases m0 m1
  obtain ⟨j, hs', hj, hlow'⟩ := sizeS_cases n0 n1
  have a := (numB_len m0 m1).1
  have b := (numB_len n0 n1).1
  have hkj : k ≠ j := by omega
  rw [show numB m = numK m k by unfold numB; rw [hs]; rfl, show numB n = numK n j by unfold numB; rw [hs']; rfl, numK_cons m k (by omega), numK_cons n j (by omega)]
  obtain ⟨p, rfl⟩ : ∃ p, q = p + 1 := ⟨q - 1, by omega⟩
  rw [List.take_succ_cons, List.take_succ_cons]
  intro e
  have e1 := congrArg UInt8.toNat (List.cons.inj e).1
  have hm : markS k = 64 * (markS k / 64) ∧ markS k ≤ 192 := by rcases hk with rfl | rfl | rfl | rfl <;> decide
  have hn : markS j = 64 * (markS j / 64) ∧ markS j ≤ 192 := by rcases hj with rfl | rfl | rfl | rfl <;> decide
  have hne : markS k ≠ markS j := by
    rcases hk with rfl | rfl | rfl | rfl <;> rcases hj with rfl | rfl | rfl | rfl <;> first | exact absurd rfl hkj | decide
  generalize m.toNat / 256 ^ (k - 1) = x at *
  generalize n.toNat / 256 ^ (j - 1) = y at *
  simp at e1
  omega

theorem text_toList (l : List UInt8) : (text l).toList = l := by unfold text; simp
theorem text_size (l : List UInt8) : (text l).size = l.length := by unfold text; rfl
end Go.Proofs.YtkjpmdpljdgcjaaDoor
