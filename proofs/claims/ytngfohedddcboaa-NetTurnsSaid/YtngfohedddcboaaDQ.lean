/-
  A REGION THAT DRAWS ITS ORDER, some of whose operations turn the world, one behind the other (S: their places, in that order), while all others only read: an invariant for wp_region_inv. R k: what is known of the world behind k of them. No program is named here.
-/
import Derived.Test.YtngfohedddcboaaDJ
namespace Go.Proofs.Ytngfohedddcboaa
open Go Go.RowKit
set_option linter.unusedVariables false

structure InvQ (S : List Nat) (n : Nat) (V : Nat → Value → Prop) (R : Nat → World → Prop) (L : Nat → Bool) (xs : Nat → Value) (W : World) : Prop where
  val : ∀ i, i < n → L i = true → V i (xs i)
  stage : ∃ k, k ≤ S.length ∧ (∀ j p, S[j]? = some p → (L p = true ↔ j < k)) ∧ R k W
section
variable {S : List Nat} {n : Nat} {V : Nat → Value → Prop} {R : Nat → World → Prop} {L : Nat → Bool} {xs : Nat → Value} {W W' : World}
theorem InvQ.start {m : Nat} (hL : ∀ i, i < m → L i = false) (hS : ∀ p ∈ S, p < m) (hn : n ≤ m) (hr : R 0 W) : InvQ S n V R L xs W :=
  ⟨fun i hi h => (by rw [hL i (by omega)] at h; cases h), 0, Nat.zero_le _, fun j p hj => ⟨fun h => (by rw [hL p (hS p (List.mem_of_getElem? hj))] at h; cases h), fun h => absurd h (Nat.not_lt_zero _)⟩, hr⟩
theorem InvQ.pure (h : InvQ S n V R L xs W) (i : Nat) (hi : i ∉ S) {v : Value} (hW : ∀ k, R k W → R k W') (hv : V i v) : InvQ S n V R (fun j => if j = i then true else L j) (fun j => if j = i then v else xs j) W' := by
  obtain ⟨k, hk, hs, hr⟩ := h.stage
  refine ⟨fun j hj hL => ?_, k, hk, fun j p hp => ?_, hW k hr⟩
  · by_cases e : j = i
    · subst e; simpa using hv
    · simp only [if_neg e] at hL ⊢; exact h.val j hj hL
  · have e : p ≠ i := fun e => hi (e ▸ List.mem_of_getElem? hp)
    simp only [if_neg e]
    exact hs j p hp
theorem InvQ.at (h : InvQ S n V R L xs W) {i : Nat} (j : Nat) (hj : S[j]? = some i) (hL : L i = false) (hp : ∀ p, (0 < j ∧ S[j - 1]? = some p) → L p = true) : R j W := by
  obtain ⟨k, hk, hs, hr⟩ := h.stage
  have h1 : ¬ j < k := fun h2 => by rw [(hs j i hj).2 h2] at hL; cases hL
  by_cases h0 : j = 0
  · subst h0
    obtain rfl : k = 0 := by omega
    exact hr
  · have hlt : j < S.length := (List.getElem?_eq_some_iff.1 hj).1
    have h3 : S[j - 1]? = some S[j - 1] := List.getElem?_eq_getElem (by omega)
    have h4 := (hs (j - 1) _ h3).1 (hp _ ⟨by omega, h3⟩)
    obtain rfl : k = j := by omega
    exact hr
theorem InvQ.step (h : InvQ S n V R L xs W) {i : Nat} (j : Nat) (hj : S[j]? = some i) (hL : L i = false) (hp : ∀ p, (0 < j ∧ S[j - 1]? = some p) → L p = true) (hnd : S.Nodup) {v : Value} (hr : R (j + 1) W') (hv : V i v) :
    InvQ S n V R (fun j => if j = i then true else L j) (fun j => if j = i then v else xs j) W' := by
  obtain ⟨k, hk, hs, -⟩ := h.stage
  have hlt : j < S.length := (List.getElem?_eq_some_iff.1 hj).1
  have h1 : ¬ j < k := fun h2 => by rw [(hs j i hj).2 h2] at hL; cases hL
  have hkj : k = j := by
    by_cases h0 : j = 0
    · omega
    · have h3 : S[j - 1]? = some S[j - 1] := List.getElem?_eq_getElem (by omega)
      have h4 := (hs (j - 1) _ h3).1 (hp _ ⟨by omega, h3⟩)
      omega
  subst hkj
  refine ⟨fun q hq hL => ?_, k + 1, by omega, fun q p hp9 => ?_, hr⟩
  · by_cases e : q = i
    · subst e; simpa using hv
    · simp only [if_neg e] at hL ⊢; exact h.val q hq hL
  · by_cases e : p = i
    · have hq : q = k := (List.getElem?_inj (List.getElem?_eq_some_iff.1 hp9).1 hnd).1 (by rw [hp9, hj, e])
      simp [e, hq]
    · simp only [if_neg e]
      rw [hs q p hp9]
      have hne : q ≠ k := fun e2 => e (by rw [e2, hj] at hp9; injection hp9 with hp9; exact hp9.symm)
      omega
theorem InvQ.any (h : InvQ S n V R L xs W) : ∃ k, k ≤ S.length ∧ R k W := by
  obtain ⟨k, hk, -, hr⟩ := h.stage
  exact ⟨k, hk, hr⟩
theorem InvQ.done {m : Nat} (h : InvQ S n V R L xs W) (hL : ∀ i, i < m → L i = true) (hS : ∀ p ∈ S, p < m) (hn : n ≤ m) : R S.length W ∧ ∀ i, i < n → V i (xs i) := by
  obtain ⟨k, hk, hs, hr⟩ := h.stage
  refine ⟨?_, fun i hi => h.val i hi (hL i (by omega))⟩
  by_cases e : k = S.length
  · rw [← e]; exact hr
  · have h3 : S[k]? = some S[k] := List.getElem?_eq_getElem (by omega)
    have := (hs k _ h3).1 (hL _ (hS _ (List.mem_of_getElem? h3)))
    omega
end
end Go.Proofs.Ytngfohedddcboaa
