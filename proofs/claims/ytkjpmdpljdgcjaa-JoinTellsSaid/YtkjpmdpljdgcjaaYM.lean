/-
  Join: cells that may be, and their joins, as plain mathematics.
-/
import Derived.Test.YtkjpmdpljdgcjaaYA
namespace Go.Proofs.Ytkjpmdpljdgcjaa
open Go.RowKit Go Go.Sort
set_option linter.unusedVariables false
set_option maxRecDepth 20000

theorem wrote_no {c : Cl} (h : c.wrote = false) : c.key = Cl.zero.key := by
  obtain ⟨n, s, a, b, g, t, d, e⟩ := c
  simp [Cl.wrote, wroteS] at h
  obtain ⟨rfl, rfl, rfl, rfl, rfl, rfl⟩ := h
  rfl
theorem wrote_key {x y : Cl} (h : x.key = y.key) : x.wrote = y.wrote := by
  obtain ⟨n, s, a, b, g, t, d, e⟩ := x
  obtain ⟨n', s', a', b', g', t', d', e'⟩ := y
  simp [Cl.key] at h
  obtain ⟨⟨rfl, rfl⟩, rfl, rfl, rfl, rfl⟩ := h
  rfl
/-- What is asked of a write, by a policy. -/
def Cl.gw (p : Int) (c : Cl) : Bool := (!(p == 2) || !c.g) && (!c.wrote || (sgood c.n c.s && (decide (0 < c.n) && (vgood c.a c.b && (decide (c.t.length ≤ 64) && (!c.g || c.t == []))))))
/-- What is asked of what has been deleted. -/
def Cl.gd (p : Int) (c : Cl) : Bool := (p == 1 && zeroS c.d c.e) || (p == 2 && vgood c.d c.e)
theorem good_parts (p : Int) (c : Cl) : c.good p = (c.gd p && c.gw p) := by
  unfold Cl.good cgoodS Cl.gd Cl.gw
  show _ = (_ && (_ && (!c.wrote || _)))
  unfold Cl.wrote
  by_cases h1 : p = 1
  · subst h1
    simp
  · by_cases h2 : p = 2
    · subst h2
      cases c.g <;> cases vgood c.d c.e <;> simp
    · have e1 : (p == 1) = false := by simpa using h1
      have e2 : (p == 2) = false := by simpa using h2
      simp [e1, e2]
theorem gw_key {p : Int} {x y : Cl} (h : x.key = y.key) : x.gw p = y.gw p := by
  obtain ⟨n, s, a, b, g, t, d, e⟩ := x
  obtain ⟨n', s', a', b', g', t', d', e'⟩ := y
  simp [Cl.key] at h
  obtain ⟨⟨rfl, rfl⟩, rfl, rfl, rfl, rfl⟩ := h
  rfl
theorem gw_up {p : Int} {c : Cl} (h : c.gw p = true) : maxK Cl.zero.key c.key = c.key := by
  cases hw : c.wrote with
  | false => rw [wrote_no hw, maxK_self]
  | true =>
    have hn : 0 < c.n := by
      unfold Cl.gw at h
      rw [hw] at h
      simp at h
      exact h.2.2.1
    unfold maxK
    rw [if_pos]
    show lexR (lexR ltI ltI) _ (Cl.zero.key) c.key = true
    unfold lexR
    rw [if_neg]
    · show lexR ltI ltI (0, 0) (c.n, c.s) = true
      unfold lexR
      simp only
      rw [if_neg (by omega)]
      simpa [ltI] using hn
    · show ¬ ((0 : Int), (0 : Int)) = (c.n, c.s)
      intro h
      simp at h
      omega
theorem gd_two {p : Int} {a b : Cl} (ha : a.gd p = true) (hb : b.gd p = true) : (twoS a b).gd p = true := by
  unfold Cl.gd at *
  rw [two_d, two_e]
  by_cases h1 : p = 1
  · subst h1
    simp [zeroS] at ha hb ⊢
    omega
  · have e1 : (p == 1) = false := by simpa using h1
    rw [e1] at ha hb ⊢
    simp [vgood] at ha hb ⊢
    obtain ⟨hp, ha⟩ := ha
    refine ⟨hp, ?_⟩
    omega
theorem gw_two {p : Int} {a b : Cl} (ha : a.gw p = true) (hb : b.gw p = true) : (twoS a b).gw p = true := by
  have h := two_key a b
  by_cases hl : lessS a b = true
  · rw [if_pos hl] at h
    rw [gw_key h]; exact hb
  · rw [if_neg hl] at h
    rw [gw_key h]; exact ha
theorem good_two {p : Int} {a b : Cl} (ha : a.good p = true) (hb : b.good p = true) : (twoS a b).good p = true := by
  rw [good_parts, Bool.and_eq_true] at *
  exact ⟨gd_two ha.1 hb.1, gw_two ha.2 hb.2⟩
theorem good_up {p : Int} {c : Cl} (h : c.good p = true) : c.Up := by
  rw [good_parts, Bool.and_eq_true] at h
  have hd : 0 ≤ c.d ∧ 0 ≤ c.e := by
    have := h.1
    unfold Cl.gd at this
    simp [zeroS, vgood] at this
    omega
  exact ⟨gw_up h.2, hd.1, hd.2⟩
theorem good_zero {p : Int} (h : p = 1 ∨ p = 2) : Cl.zero.good p = true := by
  rcases h with rfl | rfl <;> decide +kernel
theorem good_pol {p : Int} {c : Cl} (h : c.good p = true) : p = 1 ∨ p = 2 := by
  unfold Cl.good cgoodS at h
  simp at h
  rcases h.1 with ⟨h, _⟩ | ⟨h, _⟩
  · exact .inl h
  · exact .inr h
theorem good_join {p : Int} (hp : p = 1 ∨ p = 2) {l : List Cl} (h : ∀ c ∈ l, c.good p = true) : (joinC l).good p = true := by
  have : ∀ (l : List Cl) (b : Cl), b.good p = true → (∀ c ∈ l, c.good p = true) → (l.foldl twoS b).good p = true := by
    intro l
    induction l with
    | nil => intro b hb _; exact hb
    | cons c l ih => intro b hb h; exact ih _ (good_two hb (h c (by simp))) fun x hx => h x (by simp [hx])
  exact this l _ (good_zero hp) h

/-- P9.4. -/
theorem lattice {p : Int} {a b c : Cl} (ha : a.good p = true) (hb : b.good p = true) (hc : c.good p = true) :
    joinC [a, b] = joinC [b, a] ∧ joinC [joinC [a, b], c] = joinC [a, joinC [b, c]] ∧ joinC [a, b, c] = joinC [c, b, a] ∧ joinC [a, a] = a ∧ joinC [a] = a ∧
    (joinC [a, b]).good p = true ∧ withinS a (joinC [a, b]) = true ∧ withinS b (joinC [a, b]) = true ∧ withinS Cl.zero a = true := by
  have ua := good_up ha
  have ub := good_up hb
  have uc := good_up hc
  refine ⟨?_, ?_, ?_, ?_, ?_, ?_, ?_, ?_, ?_⟩
  · rw [join_two ua, join_two ub, two_comm]
  · rw [join_two (join_upAll _), join_two ua, join_two ua, join_two ub, two_assoc]
  · rw [join_three ua, join_three uc, two_comm c b, two_comm (twoS b c) a, two_assoc]
  · rw [join_two ua, two_self ua]
  · rw [join_one ua]
  · rw [join_two ua]; exact good_two ha hb
  · rw [within_iff ua, join_two ua, ← two_assoc, two_self ua]
  · rw [within_iff ub, join_two ua, two_comm a b, ← two_assoc, two_self ub]
  · rw [within_iff up_zero, two_zero ua]
theorem more {p : Int} {a b c : Cl} (ha : a.good p = true) (hb : b.good p = true) (hc : c.good p = true) (h : withinS a b = true) :
    withinS (joinC [a, c]) (joinC [b, c]) = true ∧ (withinS b a = true → a = b) ∧ (withinS b c = true → withinS a c = true) := by
  have ua := good_up ha
  have ub := good_up hb
  have uc := good_up hc
  have e1 := (within_iff ua).1 h
  refine ⟨?_, fun h2 => ?_, fun h2 => ?_⟩
  · rw [within_iff (join_upAll _), join_two ua, join_two ub, two_comm b c, ← two_assoc, two_assoc a c c, two_self uc, two_comm a c, two_assoc, e1]
  · rw [← (within_iff ub).1 h2, two_comm, e1]
  · have e2 := (within_iff ub).1 h2
    rw [within_iff ua, ← e2, ← two_assoc, e1]

def xC : Cl := ⟨5, 1, 0, 0, false, [120], 0, 0⟩
def yC : Cl := ⟨5, 2, 0, 0, true, [], 0, 0⟩
theorem ex_less : lessS Cl.zero xC = true ∧ lessS xC yC = true ∧ lessS Cl.zero yC = true ∧ lessS yC xC = false := by decide +kernel
theorem ex_two : twoS Cl.zero xC = xC ∧ twoS xC yC = yC ∧ twoS Cl.zero yC = yC ∧ twoS yC xC = yC := by
  obtain ⟨h1, h2, h3, h4⟩ := ex_less
  refine ⟨?_, ?_, ?_, ?_⟩ <;> (unfold twoS; simp only [h1, h2, h3, h4]; rfl)
theorem ex_join : joinC [xC, yC] = yC := by
  show twoS (twoS Cl.zero xC) yC = yC
  rw [ex_two.1, ex_two.2.1]
theorem ex_with : withinS yC xC = false ∧ withinS xC yC = true := by
  constructor
  · unfold withinS
    rw [show joinC [yC, xC] = yC from by show twoS (twoS Cl.zero yC) xC = yC; rw [ex_two.2.2.1, ex_two.2.2.2]]
    exact same_no (by intro h; have := congrArg Cl.s h; exact absurd this (by decide))
  · unfold withinS
    rw [ex_join]; exact same_self _
end Go.Proofs.Ytkjpmdpljdgcjaa
