/-
  FRAMES, TORN: of frames one behind the other that are cut anywhere just those are told that are whole: the plain mathematics. No program is named here.
-/
import Derived.Test.YticcmhgahbnboaaDoorFB
import Derived.Test.YticcmhgahbnboaaDoorRM
namespace Go.Proofs.YticcmhgahbnboaaDoor
open Go.RowKit
set_option linter.unusedVariables false

/-- Rows, by what is left. -/
def rowsH : Nat → List UInt8 → List (List UInt8) × Nat × Int
  | 0, _ => ([], 0, 0)
  | f + 1, l => if l = [] then ([], 0, 0) else if (openS l).2.2 = 0 then ((openS l).1 :: (rowsH f (l.drop (openS l).2.1.toNat)).1, (openS l).2.1.toNat + (rowsH f (l.drop (openS l).2.1.toNat)).2.1, (rowsH f (l.drop (openS l).2.1.toNat)).2.2) else ([], 0, (openS l).2.2)
theorem rowsF_H (f : Nat) (l : List UInt8) : ∀ (a : Nat) (acc : List (List UInt8)), rowsF f l a acc = (acc ++ (rowsH f (l.drop a)).1, a + (rowsH f (l.drop a)).2.1, (rowsH f (l.drop a)).2.2) := by
  induction f with
  | zero => intro a acc; simp [rowsF, rowsH]
  | succ f ih =>
    intro a acc
    by_cases ha : l.length ≤ a
    · rw [rowsF_end ha, List.drop_of_length_le ha]
      simp [rowsH]
    · have hne : ¬ l.drop a = [] := by
        intro h; have := congrArg List.length h; simp at this; omega
      rw [rowsF, if_neg ha, rowsH, if_neg hne]
      by_cases he : (openS (l.drop a)).2.2 = 0
      · rw [if_pos he, if_pos he, ih, List.drop_drop]
        simp only [List.append_assoc, List.singleton_append, Nat.add_assoc]
      · rw [if_neg he, if_neg he]; simp
theorem rowsS_H (l : List UInt8) : rowsS l = rowsH (l.length + 1) l := by
  unfold rowsS; rw [rowsF_H]; simp

theorem getS_torn (n : Nat) (h : n ≤ 1048576) (j : Nat) (hj : j < (numB (n : Int)).length) : getS ((numB (n : Int)).take j) = (0, 0, 10) := by
  obtain ⟨k, hs, hk, hlow⟩ := sizeS_cases (n := (n : Int)) (by omega) (by omega)
  have hnb : numB (n : Int) = numK (n : Int) k := by unfold numB; rw [hs]; rfl
  obtain ⟨m1, m2, m3⟩ := markS_div k hk
  have hk0 : 0 < k := by omega
  rw [hnb, numK_length] at hj
  rw [hnb, numK_cons _ k hk0]
  cases j with
  | zero => rfl
  | succ j =>
    rw [List.take_succ_cons]
    have hb : (UInt8.ofNat ((n : Int).toNat / 256 ^ (k - 1) % 256 + markS k)).toNat = (n : Int).toNat / 256 ^ (k - 1) + markS k := by
      generalize (n : Int).toNat / 256 ^ (k - 1) = x at *
      simp; omega
    have hbd : ((n : Int).toNat / 256 ^ (k - 1) + markS k) / 64 = markS k / 64 := by
      generalize (n : Int).toNat / 256 ^ (k - 1) = x at *
      omega
    simp only [getS]
    rw [hb, hbd, m1, if_pos (by rw [List.length_take, List.length_tail, rawB_length]; omega)]

theorem openS_torn (l : List UInt8) (h : l.length ≤ 1048576) (k : Nat) (h0 : 0 < k) (hk : k < (wrapS l).length) : openS ((wrapS l).take k) = ([], 0, 10) := by
  obtain ⟨q, hq, hl, q1, q8⟩ := headS_size l.length h
  have hwl := wrapS_length h
  have hF : wrapS l = headS l.length ++ (l ++ four (sumS (headS l.length ++ l))) := by rw [wrapS_head h, fixS_eq, List.append_assoc]
  have hXl : ((wrapS l).take k).length = k := by rw [List.length_take]; omega
  by_cases hc : 1 + q ≤ k
  · have hX : (wrapS l).take k = headS l.length ++ (l ++ four (sumS (headS l.length ++ l))).take (k - (1 + q)) := by
      rw [hF, List.take_append, hl, List.take_of_length_le (by omega)]
    have hg := head_get l.length ((l ++ four (sumS (headS l.length ++ l))).take (k - (1 + q))) h hq
    rw [← hX] at hg
    exact openS_bad (findS_cut (by omega) (by rw [hX]; exact head_mark _ _) hg (by omega) (by omega)) (by decide)
  · have hX : (wrapS l).take k = 181 :: (numB (l.length : Int)).take (k - 1) := by
      rw [hF, List.take_append_of_le_length (by omega)]
      unfold headS
      obtain ⟨k', rfl⟩ : ∃ k', k = k' + 1 := ⟨k - 1, by omega⟩
      simp
    have hnl : (numB (l.length : Int)).length = q := by have := hl; unfold headS at this; simp at this; omega
    have hg : getS (((wrapS l).take k).drop 1) = (0, 0, 10) := by
      rw [hX]
      exact getS_torn l.length h (k - 1) (by omega)
    exact openS_bad (findS_get (by omega) (by rw [hX]; rfl) hg (by decide)) (by decide)

/-- Frames one behind the other. -/
def framesS (bs : List (List UInt8)) : List UInt8 := (bs.map wrapS).flatten
theorem framesS_cons (b : List UInt8) (bs : List (List UInt8)) : framesS (b :: bs) = wrapS b ++ framesS bs := by simp [framesS]
theorem framesS_snoc (bs : List (List UInt8)) (b : List UInt8) : framesS (bs ++ [b]) = framesS bs ++ wrapS b := by simp [framesS]
/-- Where the first j of them end. -/
def endS (bs : List (List UInt8)) (j : Nat) : Nat := (framesS (bs.take j)).length
theorem endS_zero (bs : List (List UInt8)) : endS bs 0 = 0 := by simp [endS, framesS]
theorem endS_cons (b : List UInt8) (bs : List (List UInt8)) (j : Nat) : endS (b :: bs) (j + 1) = (wrapS b).length + endS bs j := by
  unfold endS; rw [List.take_succ_cons, framesS_cons, List.length_append]

theorem rowsH_torn : ∀ (bs : List (List UInt8)), (∀ b ∈ bs, b.length ≤ 1048576) → ∀ (k f : Nat), k ≤ (framesS bs).length → k < f →
    ∃ j, j ≤ bs.length ∧ endS bs j ≤ k ∧ (j < bs.length → k < endS bs (j + 1)) ∧ rowsH f ((framesS bs).take k) = (bs.take j, endS bs j, if endS bs j = k then 0 else 10) := by
  intro bs
  induction bs with
  | nil =>
    intro _ k f hk hf
    have hk0 : k = 0 := by simpa [framesS] using hk
    subst hk0
    obtain ⟨f', rfl⟩ : ∃ f', f = f' + 1 := ⟨f - 1, by omega⟩
    exact ⟨0, Nat.le_refl _, by rw [endS_zero]; exact Nat.le_refl _, by simp, by rw [endS_zero]; simp [framesS, rowsH]⟩
  | cons b bs ih =>
    intro hb k f hk hf
    have hb1 := hb b (by simp)
    have hw := wrapS_length hb1
    obtain ⟨f', rfl⟩ : ∃ f', f = f' + 1 := ⟨f - 1, by omega⟩
    rw [framesS_cons, List.length_append] at hk
    by_cases hc : (wrapS b).length ≤ k
    · have ht : (framesS (b :: bs)).take k = wrapS b ++ (framesS bs).take (k - (wrapS b).length) := by
        rw [framesS_cons, List.take_append, List.take_of_length_le hc]
      obtain ⟨j, hj, h1, h2, h3⟩ := ih (fun x hx => hb x (by simp [hx])) (k - (wrapS b).length) f' (by omega) (by omega)
      refine ⟨j + 1, by simp; omega, by rw [endS_cons]; omega, fun hlt => by rw [endS_cons]; have := h2 (by simp at hlt; omega); omega, ?_⟩
      have hne : ¬ wrapS b ++ (framesS bs).take (k - (wrapS b).length) = [] := by
        intro h; have := congrArg List.length h; rw [List.length_append, List.length_nil] at this; omega
      rw [ht, rowsH, if_neg hne, openS_wrap _ _ hb1, if_pos rfl]
      simp only [Int.toNat_natCast, List.drop_left]
      rw [h3, endS_cons, List.take_succ_cons]
      congr 2
      by_cases he : endS bs j = k - (wrapS b).length
      · rw [if_pos he, if_pos (by omega)]
      · rw [if_neg he, if_neg (by omega)]
    · have ht : (framesS (b :: bs)).take k = (wrapS b).take k := by rw [framesS_cons, List.take_append_of_le_length (by omega)]
      refine ⟨0, Nat.zero_le _, by rw [endS_zero]; omega, fun _ => by rw [endS_cons, endS_zero]; omega, ?_⟩
      rw [ht, endS_zero]
      by_cases hk0 : k = 0
      · subst hk0; simp [rowsH]
      · have hne : ¬ (wrapS b).take k = [] := by
          intro h; have := congrArg List.length h; rw [List.length_take, List.length_nil] at this; omega
        rw [rowsH, if_neg hne, openS_torn b hb1 k (by omega) (by omega), if_neg (by decide), if_neg (by omega)]
        simp

theorem rowsS_torn (bs : List (List UInt8)) (hb : ∀ b ∈ bs, b.length ≤ 1048576) (k : Nat) (hk : k ≤ (framesS bs).length) :
    ∃ j, j ≤ bs.length ∧ endS bs j ≤ k ∧ (j < bs.length → k < endS bs (j + 1)) ∧ rowsS ((framesS bs).take k) = (bs.take j, endS bs j, if endS bs j = k then 0 else 10) := by
  have := rowsH_torn bs hb k (k + 1) hk (by omega)
  rwa [rowsS_H, List.length_take, Nat.min_eq_left hk]
end Go.Proofs.YticcmhgahbnboaaDoor
