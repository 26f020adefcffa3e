/-
  Stamp: texts, as plain mathematics.
-/
import Derived.Test.YtjlolljlhoclhaaDoorWT
import Derived.Lib.AtoiTie
import Derived.Lib.AtoiAll
import Derived.Lib.ItoaNum
import Derived.Lib.ItoaMem
namespace Go.Proofs.YtjlolljlhoclhaaDoor
open Go.RowKit Go Go.Sort
set_option linter.unusedVariables false

theorem decFrom_snoc (l : List UInt8) (b : UInt8) : ∀ acc, Lib.decFrom acc (l ++ [b]) = (Lib.decFrom acc l).bind (fun n => (Lib.digitVal b).map (fun d => n * 10 + d)) := by
  induction l with
  | nil => intro acc; simp [Lib.decFrom]; cases Lib.digitVal b <;> rfl
  | cons a t ih =>
    intro acc
    simp only [List.cons_append, Lib.decFrom]
    cases Lib.digitVal a with
    | none => rfl
    | some d => exact ih _
theorem digitVal_of (k : Nat) (h : k < 10) : Lib.digitVal (UInt8.ofNat (48 + k)) = some k := by
  have e : (UInt8.ofNat (48 + k)).toNat = 48 + k := by simp; omega
  unfold Lib.digitVal
  rw [e, if_pos ⟨by omega, by omega⟩]
  congr 1; omega
theorem decFrom_digits (n : Nat) : Lib.decFrom 0 (Lib.decDigits n) = some n := by
  induction n using Nat.strongRecOn with
  | ind n ih =>
    rw [Lib.decDigits]
    by_cases h : n < 10
    · rw [dif_pos h]; unfold Lib.decFrom; rw [digitVal_of n h]; simp [Lib.decFrom]
    · rw [dif_neg h, decFrom_snoc, ih (n / 10) (by omega)]
      rw [digitVal_of (n % 10) (by omega)]
      simp
      omega
theorem digits_bytes (n : Nat) : ∀ c ∈ Lib.decDigits n, 48 ≤ c.toNat ∧ c.toNat ≤ 57 := by
  induction n using Nat.strongRecOn with
  | ind n ih =>
    rw [Lib.decDigits]
    by_cases h : n < 10
    · rw [dif_pos h]
      intro c hc
      simp at hc
      subst hc
      simp; omega
    · rw [dif_neg h]
      intro c hc
      rw [List.mem_append] at hc
      rcases hc with hc | hc
      · exact ih (n / 10) (by omega) c hc
      · simp at hc
        subst hc
        simp; omega
theorem nDigits_le {k : Nat} : ∀ u, u < 10 ^ (k + 1) → Lib.nDigits u ≤ k + 1 := by
  induction k with
  | zero => intro u h; rw [Lib.nDigits_small (by simpa using h)]; omega
  | succ k ih =>
    intro u h
    by_cases hu : u < 10
    · rw [Lib.nDigits_small hu]; omega
    · rw [Lib.nDigits_big hu]
      have := ih (u / 10) (by rw [Nat.pow_succ] at h; omega)
      omega
theorem digits_len (n : Nat) (h : n ≤ 281474976710656) : 1 ≤ (Lib.decDigits n).length ∧ (Lib.decDigits n).length ≤ 15 := by
  rw [Lib.decDigits_length]
  exact ⟨Lib.nDigits_pos n, nDigits_le (k := 14) n (by omega)⟩
theorem atoi_digits (n : Nat) : Lib.atoi (Lib.decDigits n) = some (n : Int) := by
  have h := digits_bytes n
  have hf := decFrom_digits n
  cases hd : Lib.decDigits n with
  | nil => have := Lib.nDigits_pos n; rw [← Lib.decDigits_length, hd] at this; simp at this
  | cons b r =>
    rw [hd] at h hf
    have hb := h b (by simp)
    have e1 : (b == 45) = false := by rw [beq_eq_false_iff_ne]; rintro rfl; simp at hb
    have e2 : (b == 43) = false := by rw [beq_eq_false_iff_ne]; rintro rfl; simp at hb
    simp [Lib.atoi, e1, e2, Lib.decNat, hf]

/-- A stamp's text. -/
def stextS (n s : Int) : List UInt8 := if sgood n s = true then (if n = 0 then [45] else Lib.itoa n ++ sletter s) else []
/-- What Atoi tells beside its error. -/
def atoiVal (l : List UInt8) : Int := match Lib.atoiAll l with
  | .ok v => v
  | .syntax => 0
  | .range => Lib.atoiSat l
def guessS (l : List UInt8) : Int × Int :=
  if Lib.hasSuffix l [97] = true then (atoiVal (Lib.trimSuffix l [97]), 1)
  else if Lib.hasSuffix l [98] = true then (atoiVal (Lib.trimSuffix l [98]), 2) else (0, 0)
def sreadS (l : List UInt8) : (Int × Int) × Int := if stextS (guessS l).1 (guessS l).2 = l then (guessS l, 0) else ((0, 0), 11)
def rreadS (l : List UInt8) : (Int × Int) × Int :=
  if l = [45] then ((0, 0), 0)
  else if l.length < 2 ∨ 16 < l.length then ((0, 0), 11)
  else match Lib.decFrom 0 l.dropLast with
    | none => ((0, 0), 11)
    | some n => if 0 < n ∧ stextS n 1 = l then (((n : Int), 1), 0) else if 0 < n ∧ stextS n 2 = l then (((n : Int), 2), 0) else ((0, 0), 11)

theorem atoiVal_digits (n : Nat) (h : n ≤ 281474976710656) : atoiVal (Lib.decDigits n) = n := by
  unfold atoiVal
  rw [Lib.atoiAll_short _ (by have := digits_len n h; omega), atoi_digits]
  rfl
theorem suffix_last (d : List UInt8) (a b : UInt8) : Lib.hasSuffix (d ++ [a]) [b] = (a == b) := by
  unfold Lib.hasSuffix
  rw [Bool.eq_iff_iff, List.isSuffixOf_iff_suffix, List.suffix_concat_iff]
  simp
  constructor
  · rintro ⟨t, h, -⟩
    have := congrArg List.getLast? h
    simp at this
    exact this.symm
  · rintro rfl
    exact ⟨[], rfl, List.nil_suffix⟩
theorem good_cases {n s : Int} (h : sgood n s = true) : (n = 0 ∧ s = 0) ∨ (1 ≤ n ∧ n ≤ 281474976710656 ∧ (s = 1 ∨ s = 2)) := by simpa [sgood] using h
theorem stextS_big {n s : Int} (h1 : 1 ≤ n) (h2 : n ≤ 281474976710656) (h3 : s = 1 ∨ s = 2) : stextS n s = Lib.decDigits n.toNat ++ sletter s := by
  unfold stextS
  rw [if_pos (by unfold sgood; simp; omega), if_neg (by omega)]
  have : Lib.itoa n = Lib.decDigits n.toNat := by unfold Lib.itoa; rw [if_neg (by omega)]
  rw [this]
theorem guess_text {n s : Int} (h : sgood n s = true) : guessS (stextS n s) = (n, s) := by
  rcases good_cases h with ⟨rfl, rfl⟩ | ⟨h1, h2, h3⟩
  · rw [show stextS 0 0 = [45] by decide]; decide
  · rw [stextS_big h1 h2 h3]
    have hv := atoiVal_digits n.toNat (by omega)
    rcases h3 with rfl | rfl
    · have e1 : Lib.trimSuffix (Lib.decDigits n.toNat ++ [97]) [97] = Lib.decDigits n.toNat := by
        unfold Lib.trimSuffix; rw [suffix_last]; simp
      unfold guessS
      rw [show sletter 1 = [97] by decide, suffix_last, if_pos (by decide), e1, hv]
      simp; omega
    · have e1 : Lib.trimSuffix (Lib.decDigits n.toNat ++ [98]) [98] = Lib.decDigits n.toNat := by
        unfold Lib.trimSuffix; rw [suffix_last]; simp
      unfold guessS
      rw [show sletter 2 = [98] by decide, suffix_last, suffix_last, if_neg (by decide), if_pos (by decide), e1, hv]
      simp; omega
theorem sread_text {n s : Int} (h : sgood n s = true) : sreadS (stextS n s) = ((n, s), 0) := by
  unfold sreadS
  rw [guess_text h, if_pos rfl]
theorem stextS_nil {n s : Int} (h : stextS n s = []) : sgood n s = false := by
  cases hg : sgood n s with
  | false => rfl
  | true =>
    exfalso
    unfold stextS at h
    rw [if_pos hg] at h
    split at h
    · cases h
    · have := (good_cases hg)
      rcases this with ⟨a, -⟩ | ⟨-, -, rfl | rfl⟩
      · contradiction
      · simp [sletter] at h
      · simp [sletter] at h
theorem rread_text {n s : Int} (h : sgood n s = true) : rreadS (stextS n s) = ((n, s), 0) := by
  rcases good_cases h with ⟨rfl, rfl⟩ | ⟨h1, h2, h3⟩
  · rw [show stextS 0 0 = [45] by decide]; decide
  · have hl := digits_len n.toNat (by omega)
    have hf := decFrom_digits n.toNat
    have hn : ((n.toNat : Nat) : Int) = n := by omega
    have t1 := stextS_big h1 h2 (.inl rfl : (1 : Int) = 1 ∨ (1 : Int) = 2)
    have t2 := stextS_big h1 h2 (.inr rfl : (2 : Int) = 1 ∨ (2 : Int) = 2)
    rw [show sletter 1 = [97] by decide] at t1
    rw [show sletter 2 = [98] by decide] at t2
    unfold rreadS
    rcases h3 with rfl | rfl
    · rw [t1, if_neg (by intro e; have := congrArg List.length e; rw [List.length_append] at this; simp only [List.length_cons, List.length_nil] at this; omega), if_neg (by simp; omega)]
      simp only [List.dropLast_concat, hf, hn, t1]
      rw [if_pos ⟨by omega, trivial⟩]
    · rw [t2, if_neg (by intro e; have := congrArg List.length e; rw [List.length_append] at this; simp only [List.length_cons, List.length_nil] at this; omega), if_neg (by simp; omega)]
      simp only [List.dropLast_concat, hf, hn, t1, t2]
      rw [if_neg (by rintro ⟨-, e⟩; have := List.append_cancel_left e; simp at this), if_pos ⟨by omega, trivial⟩]
theorem read_eq (l : List UInt8) : rreadS l = sreadS l := by
  by_cases hA : ∃ n s, sgood n s = true ∧ stextS n s = l
  · obtain ⟨n, s, hg, rfl⟩ := hA
    rw [rread_text hg, sread_text hg]
  · have hno : ∀ n s, stextS n s = l → l = [] := by
      intro n s h
      cases hg : sgood n s with
      | true => exact absurd ⟨n, s, hg, h⟩ hA
      | false => unfold stextS at h; rw [hg] at h; simpa using h.symm
    have h1 : sreadS l = ((0, 0), 11) := by
      unfold sreadS
      rw [if_neg]
      intro h
      have := hno _ _ h
      subst this
      revert h
      decide
    rw [h1]
    unfold rreadS
    rw [if_neg (fun h => hA ⟨0, 0, by decide, by rw [h]; decide⟩)]
    split
    · rfl
    · rename_i hlen
      split
      · rfl
      · rename_i n hn
        rw [if_neg (by rintro ⟨-, h⟩; have := hno _ _ h; subst this; simp at hlen), if_neg (by rintro ⟨-, h⟩; have := hno _ _ h; subst this; simp at hlen)]
end Go.Proofs.YtjlolljlhoclhaaDoor
