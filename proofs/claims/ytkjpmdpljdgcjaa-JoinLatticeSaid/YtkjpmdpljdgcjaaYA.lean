/-
  Join: what the document says, as plain mathematics: which write stands ahead, what cells are together.
-/
import Derived.Test.YtkjpmdpljdgcjaaCQ
import Derived.Lib.MinMax
namespace Go.Proofs.Ytkjpmdpljdgcjaa
open Go.RowKit Go Go.Sort
set_option linter.unusedVariables false
set_option maxRecDepth 20000

/-- A comparison that is strict, and tells of any two which stands ahead. -/
structure Strict {α : Type} (r : α → α → Bool) : Prop where
  irr : ∀ a, r a a = false
  tr : ∀ a b c, r a b = true → r b c = true → r a c = true
  tot : ∀ a b, r a b = false → r b a = false → a = b
theorem Strict.asym {α : Type} {r : α → α → Bool} (h : Strict r) {a b : α} (hab : r a b = true) : r b a = false := by
  cases hb : r b a with
  | false => rfl
  | true =>
    have := h.tr _ _ _ hab hb
    rw [h.irr] at this
    cases this
def lexR {α β : Type} [DecidableEq α] (r : α → α → Bool) (s : β → β → Bool) (x y : α × β) : Bool := if x.1 = y.1 then s x.2 y.2 else r x.1 y.1
theorem Strict.lex {α β : Type} [DecidableEq α] {r : α → α → Bool} {s : β → β → Bool} (hr : Strict r) (hs : Strict s) : Strict (lexR r s) := by
  refine ⟨fun a => ?_, fun a b c h1 h2 => ?_, fun a b h1 h2 => ?_⟩
  · unfold lexR
    rw [if_pos rfl]
    exact hs.irr _
  · unfold lexR at h1 h2 ⊢
    by_cases e1 : a.1 = b.1
    · rw [if_pos e1] at h1
      by_cases e2 : b.1 = c.1
      · rw [if_pos e2] at h2
        rw [if_pos (e1.trans e2)]
        exact hs.tr _ _ _ h1 h2
      · rw [if_neg e2] at h2
        rw [if_neg (by rw [e1]; exact e2), e1]
        exact h2
    · rw [if_neg e1] at h1
      by_cases e2 : b.1 = c.1
      · rw [if_neg (by rw [← e2]; exact e1), ← e2]
        exact h1
      · rw [if_neg e2] at h2
        have h3 := hr.tr _ _ _ h1 h2
        rw [if_neg (fun e => by rw [e, hr.irr] at h3; cases h3)]
        exact h3
  · unfold lexR at h1 h2
    by_cases e1 : a.1 = b.1
    · rw [if_pos e1] at h1
      rw [if_pos e1.symm] at h2
      exact Prod.ext e1 (hs.tot _ _ h1 h2)
    · rw [if_neg e1] at h1
      rw [if_neg (fun e => e1 e.symm)] at h2
      exact absurd (hr.tot _ _ h1 h2) e1
def ltI (a b : Int) : Bool := decide (a < b)
theorem strictI : Strict ltI := ⟨fun a => by simp [ltI], fun a b c h1 h2 => by simp [ltI] at *; omega, fun a b h1 h2 => by simp [ltI] at *; omega⟩
def ltB (a b : Bool) : Bool := !a && b
theorem strictB : Strict ltB := ⟨by decide, by decide, by decide⟩
theorem strictT : Strict Op.bytesLess := by
  have hi : ∀ a, Op.bytesLess a a = false := by
    intro a
    induction a with
    | nil => rfl
    | cons x l ih => simp [Op.bytesLess, ih]
  refine ⟨hi, ?_, ?_⟩
  · intro a
    induction a with
    | nil =>
      intro b c h1 h2
      cases b with
      | nil => simp [Op.bytesLess] at h1
      | cons y m =>
        cases c with
        | nil => simp [Op.bytesLess] at h2
        | cons z k => rfl
    | cons x l ih =>
      intro b c h1 h2
      cases b with
      | nil => simp [Op.bytesLess] at h1
      | cons y m =>
        cases c with
        | nil => simp [Op.bytesLess] at h2
        | cons z k =>
          simp only [Op.bytesLess, Bool.or_eq_true, Bool.and_eq_true, decide_eq_true_eq, beq_iff_eq] at h1 h2 ⊢
          rcases h1 with h1 | ⟨rfl, h1⟩
          · rcases h2 with h2 | ⟨rfl, h2⟩
            · left; exact UInt8.lt_trans h1 h2
            · left; exact h1
          · rcases h2 with h2 | ⟨rfl, h2⟩
            · left; exact h2
            · right; exact ⟨rfl, ih _ _ h1 h2⟩
  · intro a
    induction a with
    | nil =>
      intro b h1 h2
      cases b with
      | nil => rfl
      | cons y m => simp [Op.bytesLess] at h1
    | cons x l ih =>
      intro b h1 h2
      cases b with
      | nil => simp [Op.bytesLess] at h2
      | cons y m =>
        simp only [Op.bytesLess, Bool.or_eq_false_iff, Bool.and_eq_false_iff, decide_eq_false_iff_not, beq_eq_false_iff_ne] at h1 h2
        obtain ⟨a1, a2⟩ := h1
        obtain ⟨b1, b2⟩ := h2
        have e : x = y := UInt8.le_antisymm (UInt8.not_lt.1 b1) (UInt8.not_lt.1 a1)
        subst e
        rcases a2 with a2 | a2
        · exact absurd rfl a2
        · rcases b2 with b2 | b2
          · exact absurd rfl b2
          · rw [ih _ a2 b2]

abbrev Key := (Int × Int) × Bool × List UInt8 × Int × Int
def lessK : Key → Key → Bool := lexR (lexR ltI ltI) (lexR ltB (lexR Op.bytesLess (lexR ltI ltI)))
theorem strictK : Strict lessK := (strictI.lex strictI).lex (strictB.lex (strictT.lex (strictI.lex strictI)))
def Cl.key (c : Cl) : Key := ((c.n, c.s), c.g, c.t, c.a, c.b)

/-- Whether a write stands ahead of another one. -/
def lessS (a b : Cl) : Bool :=
  if ((a.n == b.n) && (a.s == b.s)) = false then sless a.n a.s b.n b.s
  else if (a.g == b.g) = false then b.g
  else if (a.t == b.t) = false then Op.bytesLess a.t b.t
  else if (a.a == b.a) = false then decide (a.a < b.a)
  else decide (a.b < b.b)
theorem sless_lex (n s m t : Int) : sless n s m t = lexR ltI ltI (n, s) (m, t) := by
  unfold sless lexR ltI
  simp only
  by_cases e : n = m
  · subst e; simp
  · simp [e]
theorem less_key (a b : Cl) : lessS a b = lessK a.key b.key := by
  unfold lessS lessK Cl.key
  rw [lexR]
  simp only [Prod.mk.injEq]
  by_cases e1 : a.n = b.n ∧ a.s = b.s
  · rw [if_pos e1, if_neg (by simp [e1.1, e1.2]), lexR]
    simp only
    by_cases e2 : a.g = b.g
    · rw [if_pos e2, if_neg (by simp [e2]), lexR]
      simp only
      by_cases e3 : a.t = b.t
      · rw [if_pos e3, if_neg (by simp [e3]), lexR]
        simp only
        by_cases e4 : a.a = b.a
        · rw [if_pos e4, if_neg (by simp [e4])]; rfl
        · rw [if_neg e4, if_pos (by simpa using e4)]; rfl
      · rw [if_neg e3, if_pos (by simpa using e3)]
    · rw [if_neg e2, if_pos (by simpa using e2)]
      unfold ltB
      revert e2
      cases a.g <;> cases b.g <;> simp
  · rw [if_neg e1, if_pos (by rw [Bool.eq_false_iff]; simpa using e1), sless_lex]

theorem Cl.ext' {a b : Cl} (h : a.key = b.key) (hd : a.d = b.d) (he : a.e = b.e) : a = b := by
  obtain ⟨n, s, x, y, g, t, d, e⟩ := a
  obtain ⟨n', s', x', y', g', t', d', e'⟩ := b
  simp [Cl.key] at h hd he ⊢
  obtain ⟨⟨h1, h2⟩, h3, h4, h5, h6⟩ := h
  exact ⟨h1, h2, h5, h6, h3, h4, hd, he⟩
theorem less_irr (a : Cl) : lessS a a = false := by rw [less_key]; exact strictK.irr _
theorem less_tr {a b c : Cl} (h1 : lessS a b = true) (h2 : lessS b c = true) : lessS a c = true := by rw [less_key] at *; exact strictK.tr _ _ _ h1 h2
theorem less_asym {a b : Cl} (h : lessS a b = true) : lessS b a = false := by rw [less_key] at *; exact strictK.asym h
theorem less_tot {a b : Cl} (h1 : lessS a b = false) (h2 : lessS b a = false) : a.key = b.key := by rw [less_key] at *; exact strictK.tot _ _ h1 h2

/-- The join of two. -/
def deadJ (a b : Cl) : Int × Int := joinS [(a.d, a.e), (b.d, b.e)]
def twoS (a b : Cl) : Cl := { (if lessS a b = true then b else a) with d := (deadJ a b).1, e := (deadJ a b).2 }
theorem two_d (a b : Cl) : (twoS a b).d = max (max 0 a.d) b.d := rfl
theorem two_e (a b : Cl) : (twoS a b).e = max (max 0 a.e) b.e := rfl
theorem two_key (a b : Cl) : (twoS a b).key = if lessS a b = true then b.key else a.key := by unfold twoS; split <;> rfl
/-- The greatest of two writes. -/
def maxK (x y : Key) : Key := if lessK x y = true then y else x
theorem maxK_comm (x y : Key) : maxK x y = maxK y x := by
  unfold maxK
  cases h1 : lessK x y with
  | true => rw [strictK.asym h1]; rfl
  | false =>
    cases h2 : lessK y x with
    | true => rfl
    | false => exact strictK.tot _ _ h1 h2
theorem maxK_assoc (x y z : Key) : maxK (maxK x y) z = maxK x (maxK y z) := by
  unfold maxK
  cases h1 : lessK x y with
  | true =>
    cases h2 : lessK y z with
    | true => simp [h2, strictK.tr _ _ _ h1 h2]
    | false => simp [h1, h2]
  | false =>
    cases h2 : lessK y z with
    | true => simp
    | false =>
      simp [h1]
      cases h3 : lessK x z with
      | false => simp
      | true =>
        exfalso
        cases h4 : lessK y x with
        | true =>
          have := strictK.tr _ _ _ h4 h3
          rw [h2] at this; cases this
        | false =>
          rw [strictK.tot _ _ h1 h4] at h3
          rw [h2] at h3; cases h3
theorem maxK_self (x : Key) : maxK x x = x := by unfold maxK; simp
theorem two_keyM (a b : Cl) : (twoS a b).key = maxK a.key b.key := by rw [two_key, less_key]; rfl
theorem two_comm (a b : Cl) : twoS a b = twoS b a := by
  refine Cl.ext' ?_ ?_ ?_
  · rw [two_keyM, two_keyM, maxK_comm]
  · rw [two_d, two_d]; omega
  · rw [two_e, two_e]; omega
theorem two_assoc (a b c : Cl) : twoS (twoS a b) c = twoS a (twoS b c) := by
  refine Cl.ext' ?_ ?_ ?_
  · rw [two_keyM, two_keyM, two_keyM, two_keyM, maxK_assoc]
  · rw [two_d, two_d, two_d, two_d]; omega
  · rw [two_e, two_e, two_e, two_e]; omega

/-- What of a cell is asked so that no write adds nothing to it. -/
structure Cl.Up (c : Cl) : Prop where
  key : maxK Cl.zero.key c.key = c.key
  d : 0 ≤ c.d
  e : 0 ≤ c.e
theorem up_zero : Cl.zero.Up := ⟨maxK_self _, by decide, by decide⟩
theorem Cl.Up.two {a b : Cl} (ha : a.Up) (hb : b.Up) : (twoS a b).Up := by
  refine ⟨?_, ?_, ?_⟩
  · rw [two_keyM, ← maxK_assoc, ha.key]
  · rw [two_d]; omega
  · rw [two_e]; omega
theorem two_zero {a : Cl} (h : a.Up) : twoS Cl.zero a = a := by
  have h1 := h.d
  have h2 := h.e
  refine Cl.ext' ?_ ?_ ?_
  · rw [two_keyM, h.key]
  · rw [two_d, show Cl.zero.d = 0 from rfl]; omega
  · rw [two_e, show Cl.zero.e = 0 from rfl]; omega
theorem two_zero' {a : Cl} (h : a.Up) : twoS a Cl.zero = a := by rw [two_comm, two_zero h]
theorem two_self {a : Cl} (h : a.Up) : twoS a a = a := by
  have h1 := h.d
  have h2 := h.e
  refine Cl.ext' ?_ ?_ ?_
  · rw [two_keyM, maxK_self]
  · rw [two_d]; omega
  · rw [two_e]; omega

/-- The join of any number. -/
def joinC (l : List Cl) : Cl := l.foldl twoS Cl.zero
theorem join_nil : joinC [] = Cl.zero := rfl
theorem join_snoc (l : List Cl) (c : Cl) : joinC (l ++ [c]) = twoS (joinC l) c := by unfold joinC; rw [List.foldl_append]; rfl
theorem join_take (l : List Cl) (k : Nat) (h : k < l.length) : joinC (l.take (k + 1)) = twoS (joinC (l.take k)) (l.getD k Cl.zero) := by
  rw [List.take_add_one, List.getElem?_eq_getElem h, List.getD_eq_getElem?_getD, List.getElem?_eq_getElem h]
  exact join_snoc _ _
theorem join_one {a : Cl} (h : a.Up) : joinC [a] = a := two_zero h
theorem join_two {a b : Cl} (h : a.Up) : joinC [a, b] = twoS a b := by
  show twoS (twoS Cl.zero a) b = _
  rw [two_zero h]
theorem join_three {a b c : Cl} (h : a.Up) : joinC [a, b, c] = twoS (twoS a b) c := by
  show twoS (twoS (twoS Cl.zero a) b) c = _
  rw [two_zero h]
theorem join_up {l : List Cl} (h : ∀ c ∈ l, c.Up) : (joinC l).Up := by
  have : ∀ (l : List Cl) (b : Cl), b.Up → (∀ c ∈ l, c.Up) → (l.foldl twoS b).Up := by
    intro l
    induction l with
    | nil => intro b hb _; exact hb
    | cons c l ih => intro b hb h; exact ih _ (hb.two (h c (by simp))) fun x hx => h x (by simp [hx])
  exact this l _ up_zero h

theorem join_upAll (l : List Cl) : (joinC l).Up := by
  have : ∀ (l : List Cl) (b : Cl), b.Up → (l.foldl twoS b).Up := by
    intro l
    induction l with
    | nil => intro b hb; exact hb
    | cons c l ih =>
      intro b hb
      refine ih _ ⟨?_, ?_, ?_⟩
      · rw [two_keyM, ← maxK_assoc, hb.key]
      · rw [two_d]; omega
      · rw [two_e]; omega
  exact this l _ up_zero
/-- Whether two cells are the very same. -/
def sameC (x y : Cl) : Bool := cellEq x.n x.s x.a x.b x.g x.t x.d x.e y.n y.s y.a y.b y.g y.t y.d y.e
theorem same_iff (x y : Cl) : sameC x y = true ↔ x = y := by
  obtain ⟨n, s, a, b, g, t, d, e⟩ := x
  obtain ⟨n', s', a', b', g', t', d', e'⟩ := y
  unfold sameC cellEq
  simp [and_assoc]
theorem same_self (x : Cl) : sameC x x = true := (same_iff x x).2 rfl
theorem same_no {x y : Cl} (h : x ≠ y) : sameC x y = false := by rw [Bool.eq_false_iff]; exact fun e => h ((same_iff x y).1 e)
/-- Whether a cell adds nothing to another one. -/
def withinS (a b : Cl) : Bool := sameC (joinC [a, b]) b
theorem within_iff {a b : Cl} (h : a.Up) : withinS a b = true ↔ twoS a b = b := by
  unfold withinS
  rw [same_iff, join_two h]
/-- Which cells add something to those ahead of them. -/
def neededS (l : List Cl) : List Nat := (List.range l.length).filter fun i => !withinS (l.getD i Cl.zero) (joinC (l.take i))
end Go.Proofs.Ytkjpmdpljdgcjaa
