/-
  Merged: YA YB YC YD YS YO DI YL YM.
-/
import Derived.Test.YtkjpmdpljdgcjaaDoorCX
import Derived.Lib.MinMax
import Derived.Deep.DeepAppendWide
import Derived.Test.YtkjpmdpljdgcjaaDoorDT
import Derived.OrdersIn
import Derived.TacticsIn
import Derived.RangeFuncNested
import Derived.RangeFuncBound
import Derived.RangeFuncCalls
import Derived.RangeFuncLeaves

section
/-
  Join: what the document says, as plain mathematics: which write stands ahead, what cells are together.
-/
namespace Go.Proofs.YtkjpmdpljdgcjaaDoor
open Go.RowKit Go Go.Sort
set_option linter.unusedVariables false
set_option maxRecDepth 20000

/-- A comparison that is strict, and tells of any two which stands ahead. -/
structure Strict {α : Type} (r : α → α → Bool) : Prop where
  irr : ∀ a, r a a = false
  tr : ∀ a b c, r a b = true → r b c = true → r a c = true
  tot : ∀ a b, r a b = false → r b a = false → a = b
theorem Strict.asym {α : Type} {r : α → α → Bool} (h : Strict r) {a b : α} (hab : r a b = true) : r b a = false := by
  cases hb : r b a with
  | false => rfl
  | true =>
    have := h.tr _ _ _ hab hb
    rw [h.irr] at this
    cases this
def lexR {α β : Type} [DecidableEq α] (r : α → α → Bool) (s : β → β → Bool) (x y : α × β) : Bool := if x.1 = y.1 then s x.2 y.2 else r x.1 y.1
theorem Strict.lex {α β : Type} [DecidableEq α] {r : α → α → Bool} {s : β → β → Bool} (hr : Strict r) (hs : Strict s) : Strict (lexR r s) := by
  refine ⟨fun a => ?_, fun a b c h1 h2 => ?_, fun a b h1 h2 => ?_⟩
  · unfold lexR
    rw [if_pos rfl]
    exact hs.irr _
  · unfold lexR at h1 h2 ⊢
    by_cases e1 : a.1 = b.1
    · rw [if_pos e1] at h1
      by_cases e2 : b.1 = c.1
      · rw [if_pos e2] at h2
        rw [if_pos (e1.trans e2)]
        exact hs.tr _ _ _ h1 h2
      · rw [if_neg e2] at h2
        rw [if_neg (by rw [e1]; exact e2), e1]
        exact h2
    · rw [if_neg e1] at h1
      by_cases e2 : b.1 = c.1
      · rw [if_neg (by rw [← e2]; exact e1), ← e2]
        exact h1
      · rw [if_neg e2] at h2
        have h3 := hr.tr _ _ _ h1 h2
        rw [if_neg (fun e => by rw [e, hr.irr] at h3; cases h3)]
        exact h3
  · unfold lexR at h1 h2
    by_cases e1 : a.1 = b.1
    · rw [if_pos e1] at h1
      rw [if_pos e1.symm] at h2
      exact Prod.ext e1 (hs.tot _ _ h1 h2)
    · rw [if_neg e1] at h1
      rw [if_neg (fun e => e1 e.symm)] at h2
      exact absurd (hr.tot _ _ h1 h2) e1
def ltI (a b : Int) : Bool := decide (a < b)
theorem strictI : Strict ltI := ⟨fun a => by simp [ltI], fun a b c h1 h2 => by simp [ltI] at *; omega, fun a b h1 h2 => by simp [ltI] at *; omega⟩
def ltB (a b : Bool) : Bool := !a && b
theorem strictB : Strict ltB := ⟨by decide, by decide, by decide⟩
theorem strictT : Strict Op.bytesLess := by
  have hi : ∀ a, Op.bytesLess a a = false := by
    intro a
    induction a with
    | nil => rfl
    | cons x l ih => simp [Op.bytesLess, ih]
  refine ⟨hi, ?_, ?_⟩
  · intro a
    induction a with
    | nil =>
      intro b c h1 h2
      cases b with
      | nil => simp [Op.bytesLess] at h1
      | cons y m =>
        cases c with
        | nil => simp [Op.bytesLess] at h2
        | cons z k => rfl
    | cons x l ih =>
      intro b c h1 h2
      cases b with
      | nil => simp [Op.bytesLess] at h1
      | cons y m =>
        cases c with
        | nil => simp [Op.bytesLess] at h2
        | cons z k =>
          simp only [Op.bytesLess, Bool.or_eq_true, Bool.and_eq_true, decide_eq_true_eq, beq_iff_eq] at h1 h2 ⊢
          rcases h1 with h1 | ⟨rfl, h1⟩
          · rcases h2 with h2 | ⟨rfl, h2⟩
            · left; exact UInt8.lt_trans h1 h2
            · left; exact h1
          · rcases h2 with h2 | ⟨rfl, h2⟩
            · left; exact h2
            · right; exact ⟨rfl, ih _ _ h1 h2⟩
  · intro a
    induction a with
    | nil =>
      intro b h1 h2
      cases b with
      | nil => rfl
      | cons y m => simp [Op.bytesLess] at h1
    | cons x l ih =>
      intro b h1 h2
      cases b with
      | nil => simp [Op.bytesLess] at h2
      | cons y m =>
        simp only [Op.bytesLess, Bool.or_eq_false_iff, Bool.and_eq_false_iff, decide_eq_false_iff_not, beq_eq_false_iff_ne] at h1 h2
        obtain ⟨a1, a2⟩ := h1
        obtain ⟨b1, b2⟩ := h2
        have e : x = y := UInt8.le_antisymm (UInt8.not_lt.1 b1) (UInt8.not_lt.1 a1)
        subst e
        rcases a2 with a2 | a2
        · exact absurd rfl a2
        · rcases b2 with b2 | b2
          · exact absurd rfl b2
          · rw [ih _ a2 b2]

abbrev Key := (Int × Int) × Bool × List UInt8 × Int × Int
def lessK : Key → Key → Bool := lexR (lexR ltI ltI) (lexR ltB (lexR Op.bytesLess (lexR ltI ltI)))
theorem strictK : Strict lessK := (strictI.lex strictI).lex (strictB.lex (strictT.lex (strictI.lex strictI)))
def Cl.key (c : Cl) : Key := ((c.n, c.s), c.g, c.t, c.a, c.b)

/-- Whether a write stands ahead of another one. -/
def lessS (a b : Cl) : Bool :=
  if ((a.n == b.n) && (a.s == b.s)) = false then sless a.n a.s b.n b.s
  else if (a.g == b.g) = false then b.g
  else if (a.t == b.t) = false then Op.bytesLess a.t b.t
  else if (a.a == b.a) = false then decide (a.a < b.a)
  else decide (a.b < b.b)
theorem sless_lex (n s m t : Int) : sless n s m t = lexR ltI ltI (n, s) (m, t) := by
  unfold sless lexR ltI
  simp only
  by_cases e : n = m
  · subst e; simp
  · simp [e]
theorem less_key (a b : Cl) : lessS a b = lessK a.key b.key := by
  unfold lessS lessK Cl.key
  rw [lexR]
  simp only [Prod.mk.injEq]
  by_cases e1 : a.n = b.n ∧ a.s = b.s
  · rw [if_pos e1, if_neg (by simp [e1.1, e1.2]), lexR]
    simp only
    by_cases e2 : a.g = b.g
    · rw [if_pos e2, if_neg (by simp [e2]), lexR]
      simp only
      by_cases e3 : a.t = b.t
      · rw [if_pos e3, if_neg (by simp [e3]), lexR]
        simp only
        by_cases e4 : a.a = b.a
        · rw [if_pos e4, if_neg (by simp [e4])]; rfl
        · rw [if_neg e4, if_pos (by simpa using e4)]; rfl
      · rw [if_neg e3, if_pos (by simpa using e3)]
    · rw [if_neg e2, if_pos (by simpa using e2)]
      unfold ltB
      revert e2
      cases a.g <;> cases b.g <;> simp
  · rw [if_neg e1, if_pos (by rw [Bool.eq_false_iff]; simpa using e1), sless_lex]

theorem Cl.ext' {a b : Cl} (h : a.key = b.key) (hd : a.d = b.d) (he : a.e = b.e) : a = b := by
  obtain ⟨n, s, x, y, g, t, d, e⟩ := a
  obtain ⟨n', s', x', y', g', t', d', e'⟩ := b
  simp [Cl.key] at h hd he ⊢
  obtain ⟨⟨h1, h2⟩, h3, h4, h5, h6⟩ := h
  exact ⟨h1, h2, h5, h6, h3, h4, hd, he⟩
theorem less_irr (a : Cl) : lessS a a = false := by rw [less_key]; exact strictK.irr _
theorem less_tr {a b c : Cl} (h1 : lessS a b = true) (h2 : lessS b c = true) : lessS a c = true := by rw [less_key] at *; exact strictK.tr _ _ _ h1 h2
theorem less_asym {a b : Cl} (h : lessS a b = true) : lessS b a = false := by rw [less_key] at *; exact strictK.asym h
theorem less_tot {a b : Cl} (h1 : lessS a b = false) (h2 : lessS b a = false) : a.key = b.key := by rw [less_key] at *; exact strictK.tot _ _ h1 h2

/-- The join of two. -/
def deadJ (a b : Cl) : Int × Int := joinS [(a.d, a.e), (b.d, b.e)]
def twoS (a b : Cl) : Cl := { (if lessS a b = true then b else a) with d := (deadJ a b).1, e := (deadJ a b).2 }
theorem two_d (a b : Cl) : (twoS a b).d = max (max 0 a.d) b.d := rfl
theorem two_e (a b : Cl) : (twoS a b).e = max (max 0 a.e) b.e := rfl
theorem two_key (a b : Cl) : (twoS a b).key = if lessS a b = true then b.key else a.key := by unfold twoS; split <;> rfl
/-- The greatest of two writes. -/
def maxK (x y : Key) : Key := if lessK x y = true then y else x
theorem maxK_comm (x y : Key) : maxK x y = maxK y x := by
  unfold maxK
  cases h1 : lessK x y with
  | true => rw [strictK.asym h1]; rfl
  | false =>
    cases h2 : lessK y x with
    | true => rfl
    | false => exact strictK.tot _ _ h1 h2
theorem maxK_assoc (x y z : Key) : maxK (maxK x y) z = maxK x (maxK y z) := by
  unfold maxK
  cases h1 : lessK x y with
  | true =>
    cases h2 : lessK y z with
    | true => simp [h2, strictK.tr _ _ _ h1 h2]
    | false => simp [h1, h2]
  | false =>
    cases h2 : lessK y z with
    | true => simp
    | false =>
      simp [h1]
      cases h3 : lessK x z with
      | false => simp
      | true =>
        exfalso
        cases h4 : lessK y x with
        | true =>
          have := strictK.tr _ _ _ h4 h3
          rw [h2] at this; cases this
        | false =>
          rw [strictK.tot _ _ h1 h4] at h3
          rw [h2] at h3; cases h3
theorem maxK_self (x : Key) : maxK x x = x := by unfold maxK; simp
theorem two_keyM (a b : Cl) : (twoS a b).key = maxK a.key b.key := by rw [two_key, less_key]; rfl
theorem two_comm (a b : Cl) : twoS a b = twoS b a := by
  refine Cl.ext' ?_ ?_ ?_
  · rw [two_keyM, two_keyM, maxK_comm]
  · rw [two_d, two_d]; omega
  · rw [two_e, two_e]; omega
theorem two_assoc (a b c : Cl) : twoS (twoS a b) c = twoS a (twoS b c) := by
  refine Cl.ext' ?_ ?_ ?_
  · rw [two_keyM, two_keyM, two_keyM, two_keyM, maxK_assoc]
  · rw [two_d, two_d, two_d, two_d]; omega
  · rw [two_e, two_e, two_e, two_e]; omega

/-- What of a cell is asked so that no write adds nothing to it. -/
structure Cl.Up (c : Cl) : Prop where
  key : maxK Cl.zero.key c.key = c.key
  d : 0 ≤ c.d
  e : 0 ≤ c.e
theorem up_zero : Cl.zero.Up := ⟨maxK_self _, by decide, by decide⟩
theorem Cl.Up.two {a b : Cl} (ha : a.Up) (hb : b.Up) : (twoS a b).Up := by
  refine ⟨?_, ?_, ?_⟩
  · rw [two_keyM, ← maxK_assoc, ha.key]
  · rw [two_d]; omega
  · rw [two_e]; omega
theorem two_zero {a : Cl} (h : a.Up) : twoS Cl.zero a = a := by
  have h1 := h.d
  have h2 := h.e
  refine Cl.ext' ?_ ?_ ?_
  · rw [two_keyM, h.key]
  · rw [two_d, show Cl.zero.d = 0 from rfl]; omega
  · rw [two_e, show Cl.zero.e = 0 from rfl]; omega
theorem two_zero' {a : Cl} (h : a.Up) : twoS a Cl.zero = a := by rw [two_comm, two_zero h]
theorem two_self {a : Cl} (h : a.Up) : twoS a a = a := by
  have h1 := h.d
  have h2 := h.e
  refine Cl.ext' ?_ ?_ ?_
  · rw [two_keyM, maxK_self]
  · rw [two_d]; omega
  · rw [two_e]; omega

/-- The join of any number. -/
def joinC (l : List Cl) : Cl := l.foldl twoS Cl.zero
theorem join_nil : joinC [] = Cl.zero := rfl
theorem join_snoc (l : List Cl) (c : Cl) : joinC (l ++ [c]) = twoS (joinC l) c := by unfold joinC; rw [List.foldl_append]; rfl
theorem join_take (l : List Cl) (k : Nat) (h : k < l.length) : joinC (l.take (k + 1)) = twoS (joinC (l.take k)) (l.getD k Cl.zero) := by
  rw [List.take_add_one, List.getElem?_eq_getElem h, List.getD_eq_getElem?_getD, List.getElem?_eq_getElem h]
  exact join_snoc _ _
theorem join_one {a : Cl} (h : a.Up) : joinC [a] = a := two_zero h
theorem join_two {a b : Cl} (h : a.Up) : joinC [a, b] = twoS a b := by
  show twoS (twoS Cl.zero a) b = _
  rw [two_zero h]
theorem join_three {a b c : Cl} (h : a.Up) : joinC [a, b, c] = twoS (twoS a b) c := by
  show twoS (twoS (twoS Cl.zero a) b) c = _
  rw [two_zero h]
theorem join_up {l : List Cl} (h : ∀ c ∈ l, c.Up) : (joinC l).Up := by
  have : ∀ (l : List Cl) (b : Cl), b.Up → (∀ c ∈ l, c.Up) → (l.foldl twoS b).Up := by
    intro l
    induction l with
    | nil => intro b hb _; exact hb
    | cons c l ih => intro b hb h; exact ih _ (hb.two (h c (by simp))) fun x hx => h x (by simp [hx])
  exact this l _ up_zero h

theorem join_upAll (l : List Cl) : (joinC l).Up := by
  have : ∀ (l : List Cl) (b : Cl), b.Up → (l.foldl twoS b).Up := by
    intro l
    induction l with
    | nil => intro b hb; exact hb
    | cons c l ih =>
      intro b hb
      refine ih _ ⟨?_, ?_, ?_⟩
      · rw [two_keyM, ← maxK_assoc, hb.key]
      · rw [two_d]; omega
      · rw [two_e]; omega
  exact this l _ up_zero
/-- Whether two cells are the very same. -/
def sameC (x y : Cl) : Bool := cellEq x.n x.s x.a x.b x.g x.t x.d x.e y.n y.s y.a y.b y.g y.t y.d y.e
theorem same_iff (x y : Cl) : sameC x y = true ↔ x = y := by
  obtain ⟨n, s, a, b, g, t, d, e⟩ := x
  obtain ⟨n', s', a', b', g', t', d', e'⟩ := y
  unfold sameC cellEq
  simp [and_assoc]
theorem same_self (x : Cl) : sameC x x = true := (same_iff x x).2 rfl
theorem same_no {x y : Cl} (h : x ≠ y) : sameC x y = false := by rw [Bool.eq_false_iff]; exact fun e => h ((same_iff x y).1 e)
/-- Whether a cell adds nothing to another one. -/
def withinS (a b : Cl) : Bool := sameC (joinC [a, b]) b
theorem within_iff {a b : Cl} (h : a.Up) : withinS a b = true ↔ twoS a b = b := by
  unfold withinS
  rw [same_iff, join_two h]
/-- Which cells add something to those ahead of them. -/
def neededS (l : List Cl) : List Nat := (List.range l.length).filter fun i => !withinS (l.getD i Cl.zero) (joinC (l.take i))
end Go.Proofs.YtkjpmdpljdgcjaaDoor
end

section
/-
  Join: Less of both.
-/
namespace Go.Proofs.YtkjpmdpljdgcjaaDoor
open Go.RowKit Go Go.Sort
set_option linter.unusedVariables false
set_option maxRecDepth 20000

theorem text_eqb (t t' : List UInt8) : ((text t).toList == (text t').toList) = (t == t') := by rw [text_toList, text_toList]
theorem text_lss (t t' : List UInt8) : Op.bytesLess (text t).toList (text t').toList = Op.bytesLess t t' := by rw [text_toList, text_toList]

set_option maxHeartbeats 3200000 in
theorem less_c (n s a b : Int) (g : Bool) (t : List UInt8) (d e : Int) (n' s' a' b' : Int) (g' : Bool) (t' : List UInt8) (d' e' : Int) (w : World) : Calls Tryd.prog 60 #[.agg #[.int .i64 n, .int .i64 s, .int .i64 a, .int .i64 b, .bool g, .string (text t), .int .i64 d, .int .i64 e], .agg #[.int .i64 n', .int .i64 s', .int .i64 a', .int .i64 b', .bool g', .string (text t'), .int .i64 d', .int .i64 e']] w (Tells (.bool (lessS ⟨n, s, a, b, g, t, d, e⟩ ⟨n', s', a', b', g', t', d', e'⟩)) w) := by
  have hp := (Cel.new w n s a b g t d e).alloc (.cells #[.int .i64 n', .int .i64 s', .int .i64 a', .int .i64 b', .bool g', .string (text t'), .int .i64 d', .int .i64 e'] 50)
  have hq := Cel.new (w.alloc (.cells #[.int .i64 n, .int .i64 s, .int .i64 a, .int .i64 b, .bool g, .string (text t), .int .i64 d, .int .i64 e] 50)) n' s' a' b' g' t' d' e'
  rw [World.size_alloc] at hq
  have HB := Lib.hid ((alloc_below w (.cells #[.int .i64 n, .int .i64 s, .int .i64 a, .int .i64 b, .bool g, .string (text t), .int .i64 d, .int .i64 e] 50)).alloc (by simp) (.cells #[.int .i64 n', .int .i64 s', .int .i64 a', .int .i64 b', .bool g', .string (text t'), .int .i64 d', .int .i64 e'] 50))
  have HV := Lib.hid (show lessS ⟨n, s, a, b, g, t, d, e⟩ ⟨n', s', a', b', g', t', d', e'⟩ = if ((n == n') && (s == s')) = false then sless n s n' s' else if (g == g') = false then g' else if (t == t') = false then Op.bytesLess t t' else if (a == a') = false then decide (a < a') else decide (b < b') from rfl)
  obtain ⟨r, hr⟩ : ∃ r, lessS ⟨n, s, a, b, g, t, d, e⟩ ⟨n', s', a', b', g', t', d', e'⟩ = r := ⟨_, rfl⟩
  rw [hr] at HV ⊢
  have hng := stamp_eqg
  have hte := text_eqb t t'
  have htl := text_lss t t'
  obtain ⟨c0, c1, c2, c3, c4, c5, c6, c7⟩ := hp.cs
  obtain ⟨k0, k1, k2, k3, k4, k5, k6, k7⟩ := hq.cs
  obtain ⟨u, hu⟩ : ∃ u, text t = u := ⟨_, rfl⟩
  obtain ⟨v, hv⟩ : ∃ u, text t' = u := ⟨_, rfl⟩
  rw [hu, hv] at c0 c1 c2 c3 c4 c5 c6 c7 k0 k1 k2 k3 k4 k5 k6 k7 hte htl HB
  rw [hu, hv]
  clear hp hq hr hu hv
  cases q1 : ((n == n') && (s == s')) with
  | false =>
    have hne := stamp_neb n s n' s' _ q1
    rw [q1] at HV
    have HS := Lib.hid (fun W => sless_c n s n' s' W)
    clear q1 hte htl
    go_enter Tryd.func60, Tryd.ntmps60
    go_wp2_with (go_at_call 90; (with_reducible refine (HS.out _).mono ?_); rintro e9 w9 ⟨rfl, hb9⟩)
    go_ret
    exact ⟨by rw [HV.out]; rfl, HB.out.trans (hb9.mono HB.out.size)⟩
  | true =>
    have hne := stamp_neb n s n' s' _ q1
    rw [q1] at HV
    clear q1
    cases q2 : (g == g') with
    | false =>
      rw [q2] at HV
      have q2' : (g != g') = true := by rw [bne, q2]; rfl
      clear hte htl
      go_enter Tryd.func60, Tryd.ntmps60
      go_wp2
      go_ret
      exact ⟨by rw [HV.out]; rfl, HB.out⟩
    | true =>
      rw [q2] at HV
      have q2' : (g != g') = false := by rw [bne, q2]; rfl
      skip
      cases q3 : (t == t') with
      | false =>
        rw [q3] at HV hte
        skip
        obtain ⟨q5, hq5⟩ : ∃ q, Op.bytesLess t t' = q := ⟨_, rfl⟩
        rw [hq5] at htl HV
        clear hq5
        go_enter Tryd.func60, Tryd.ntmps60
        go_wp2
        go_ret
        exact ⟨by rw [HV.out]; rfl, HB.out⟩
      | true =>
        rw [q3] at HV hte
        clear htl
        cases q4 : (a == a') with
        | false =>
          rw [q4] at HV
          have q4' : (a != a') = true := by rw [bne, q4]; rfl
          skip
          go_enter Tryd.func60, Tryd.ntmps60
          go_wp2
          go_ret
          exact ⟨by rw [HV.out]; rfl, HB.out⟩
        | true =>
          rw [q4] at HV
          have q4' : (a != a') = false := by rw [bne, q4]; rfl
          skip
          go_enter Tryd.func60, Tryd.ntmps60
          go_wp2
          go_ret
          exact ⟨by rw [HV.out]; rfl, HB.out⟩

set_option maxHeartbeats 3200000 in
theorem rless_c (n s a b : Int) (g : Bool) (t : List UInt8) (d e : Int) (n' s' a' b' : Int) (g' : Bool) (t' : List UInt8) (d' e' : Int) (w : World) : Calls Tryd.prog 78 #[.agg #[.int .i64 n, .int .i64 s, .int .i64 a, .int .i64 b, .bool g, .string (text t), .int .i64 d, .int .i64 e], .agg #[.int .i64 n', .int .i64 s', .int .i64 a', .int .i64 b', .bool g', .string (text t'), .int .i64 d', .int .i64 e']] w (Tells (.bool (lessS ⟨n, s, a, b, g, t, d, e⟩ ⟨n', s', a', b', g', t', d', e'⟩)) w) := by
  have hp := (Cel.new w n s a b g t d e).alloc (.cells #[.int .i64 n', .int .i64 s', .int .i64 a', .int .i64 b', .bool g', .string (text t'), .int .i64 d', .int .i64 e'] 50)
  have hq := Cel.new (w.alloc (.cells #[.int .i64 n, .int .i64 s, .int .i64 a, .int .i64 b, .bool g, .string (text t), .int .i64 d, .int .i64 e] 50)) n' s' a' b' g' t' d' e'
  rw [World.size_alloc] at hq
  have HB := Lib.hid ((alloc_below w (.cells #[.int .i64 n, .int .i64 s, .int .i64 a, .int .i64 b, .bool g, .string (text t), .int .i64 d, .int .i64 e] 50)).alloc (by simp) (.cells #[.int .i64 n', .int .i64 s', .int .i64 a', .int .i64 b', .bool g', .string (text t'), .int .i64 d', .int .i64 e'] 50))
  have HV := Lib.hid (show lessS ⟨n, s, a, b, g, t, d, e⟩ ⟨n', s', a', b', g', t', d', e'⟩ = if ((n == n') && (s == s')) = false then sless n s n' s' else if (g == g') = false then g' else if (t == t') = false then Op.bytesLess t t' else if (a == a') = false then decide (a < a') else decide (b < b') from rfl)
  obtain ⟨r, hr⟩ : ∃ r, lessS ⟨n, s, a, b, g, t, d, e⟩ ⟨n', s', a', b', g', t', d', e'⟩ = r := ⟨_, rfl⟩
  rw [hr] at HV ⊢
  have hng := stamp_eqg
  have hte := text_eqb t t'
  have htl := text_lss t t'
  obtain ⟨c0, c1, c2, c3, c4, c5, c6, c7⟩ := hp.cs
  obtain ⟨k0, k1, k2, k3, k4, k5, k6, k7⟩ := hq.cs
  obtain ⟨u, hu⟩ : ∃ u, text t = u := ⟨_, rfl⟩
  obtain ⟨v, hv⟩ : ∃ u, text t' = u := ⟨_, rfl⟩
  rw [hu, hv] at c0 c1 c2 c3 c4 c5 c6 c7 k0 k1 k2 k3 k4 k5 k6 k7 hte htl HB
  rw [hu, hv]
  clear hp hq hr hu hv
  cases q1 : ((n == n') && (s == s')) with
  | false =>
    have hne := stamp_neb n s n' s' _ q1
    rw [q1] at HV
    have HS := Lib.hid (fun W => rsless_c n s n' s' W)
    clear q1 hte htl
    go_enter Tryd.func78, Tryd.ntmps78
    go_wp2_with (go_at_call 95; (with_reducible refine (HS.out _).mono ?_); rintro e9 w9 ⟨rfl, hb9⟩)
    go_ret
    exact ⟨by rw [HV.out]; rfl, HB.out.trans (hb9.mono HB.out.size)⟩
  | true =>
    have hne := stamp_neb n s n' s' _ q1
    rw [q1] at HV
    clear q1
    cases q2 : (g == g') with
    | false =>
      rw [q2] at HV
      have q2' : (g != g') = true := by rw [bne, q2]; rfl
      clear hte htl
      go_enter Tryd.func78, Tryd.ntmps78
      go_wp2
      go_ret
      exact ⟨by rw [HV.out]; rfl, HB.out⟩
    | true =>
      rw [q2] at HV
      have q2' : (g != g') = false := by rw [bne, q2]; rfl
      skip
      cases q3 : (t == t') with
      | false =>
        rw [q3] at HV hte
        skip
        obtain ⟨q5, hq5⟩ : ∃ q, Op.bytesLess t t' = q := ⟨_, rfl⟩
        rw [hq5] at htl HV
        clear hq5
        go_enter Tryd.func78, Tryd.ntmps78
        go_wp2
        go_ret
        exact ⟨by rw [HV.out]; rfl, HB.out⟩
      | true =>
        rw [q3] at HV hte
        clear htl
        cases q4 : (a == a') with
        | false =>
          rw [q4] at HV
          have q4' : (a != a') = true := by rw [bne, q4]; rfl
          skip
          go_enter Tryd.func78, Tryd.ntmps78
          go_wp2
          go_ret
          exact ⟨by rw [HV.out]; rfl, HB.out⟩
        | true =>
          rw [q4] at HV
          have q4' : (a != a') = false := by rw [bne, q4]; rfl
          skip
          go_enter Tryd.func78, Tryd.ntmps78
          go_wp2
          go_ret
          exact ⟨by rw [HV.out]; rfl, HB.out⟩
end Go.Proofs.YtkjpmdpljdgcjaaDoor
end

section
/-
  Join: cells in lists; Two and Join of both.
-/
namespace Go.Proofs.YtkjpmdpljdgcjaaDoor
open Go.RowKit Go Go.Sort
set_option linter.unusedVariables false
set_option maxRecDepth 20000

/-- One block is other than it was, wherever the world had grown before. -/
theorem Wrote.of_put {q : Nat} {w W : World} (n s a b : Int) (g : Bool) (t : List UInt8) (d e : Int) (hb : Below w.heap.size w W) (h : Cel W q n s a b g t d e) (n' s' a' b' : Int) (g' : Bool) (t' : List UInt8) (d' e' : Int) :
    Wrote q #[.int .i64 n', .int .i64 s', .int .i64 a', .int .i64 b', .bool g', .string (text t'), .int .i64 d', .int .i64 e'] 50 w ((((((((W.setCell ⟨q, 0, none⟩ (.int .i64 n')).setCell ⟨q, 1, none⟩ (.int .i64 s')).setCell ⟨q, 2, none⟩ (.int .i64 a')).setCell ⟨q, 3, none⟩ (.int .i64 b')).setCell ⟨q, 4, none⟩ (.bool g')).setCell ⟨q, 5, none⟩ (.string (text t'))).setCell ⟨q, 6, none⟩ (.int .i64 d')).setCell ⟨q, 7, none⟩ (.int .i64 e')) := by
  have hx := put_below (Below.refl 0 W) (Nat.zero_le q) n' s' a' b' g' t' d' e'
  refine ⟨hx.os.trans hb.os, hx.tape.trans hb.tape, hx.output.trans hb.output, Nat.le_trans hb.size hx.size, h.put n' s' a' b' g' t' d' e', fun k hk hkg => ?_⟩
  rw [heap_setCell_other _ _ _ _ (by exact hkg), heap_setCell_other _ _ _ _ (by exact hkg), heap_setCell_other _ _ _ _ (by exact hkg), heap_setCell_other _ _ _ _ (by exact hkg), heap_setCell_other _ _ _ _ (by exact hkg), heap_setCell_other _ _ _ _ (by exact hkg), heap_setCell_other _ _ _ _ (by exact hkg), heap_setCell_other _ _ _ _ (by exact hkg)]
  exact hb.block k hk
theorem Wrote.of_dead {q : Nat} {w W : World} (n s a b : Int) (g : Bool) (t : List UInt8) (d e : Int) (hb : Below w.heap.size w W) (h : Cel W q n s a b g t d e) (x y : Int) :
    Wrote q #[.int .i64 n, .int .i64 s, .int .i64 a, .int .i64 b, .bool g, .string (text t), .int .i64 x, .int .i64 y] 50 w ((W.setCell ⟨q, 6, none⟩ (.int .i64 x)).setCell ⟨q, 7, none⟩ (.int .i64 y)) := by
  have hx := dead_below (Below.refl 0 W) (Nat.zero_le q) x y
  refine ⟨hx.os.trans hb.os, hx.tape.trans hb.tape, hx.output.trans hb.output, Nat.le_trans hb.size hx.size, h.dead x y, fun k hk hkg => ?_⟩
  rw [heap_setCell_other _ _ _ _ (by exact hkg), heap_setCell_other _ _ _ _ (by exact hkg)]
  exact hb.block k hk
theorem Wrote.cel {z q : Nat} {t' : TypeId} {w w' : World} {cs : Array Value} {n s a b : Int} {g : Bool} {t : List UInt8} {d e : Int} (h : Wrote z cs t' w w') (hp : Cel w q n s a b g t d e) (hne : q ≠ z) : Cel w' q n s a b g t d e :=
  (h.rest q hp.lt hne).trans hp
theorem Wrote.kept {g : Nat} {t : TypeId} {w w1 w2 : World} {cs : Array Value} (h : Wrote g cs t w w1) (hg : g < w1.heap.size) (hb : Below w1.heap.size w1 w2) : Wrote g cs t w w2 :=
  ⟨hb.os.trans h.os, hb.tape.trans h.tape, hb.output.trans h.output, Nat.le_trans h.size hb.size, (hb.block g hg).trans h.cell, fun k hk hne => (hb.block k (Nat.lt_of_lt_of_le hk h.size)).trans (h.rest k hk hne)⟩

/-- What a cell's place holds. -/
def CelAt (W : World) (b o : Nat) (c : Cl) : Prop :=
  W.cell? ⟨b, o, none⟩ = some (.int .i64 c.n) ∧ W.cell? ⟨b, o + 1, none⟩ = some (.int .i64 c.s) ∧ W.cell? ⟨b, o + 2, none⟩ = some (.int .i64 c.a) ∧ W.cell? ⟨b, o + 3, none⟩ = some (.int .i64 c.b) ∧
  W.cell? ⟨b, o + 4, none⟩ = some (.bool c.g) ∧ W.cell? ⟨b, o + 5, none⟩ = some (.string (text c.t)) ∧ W.cell? ⟨b, o + 6, none⟩ = some (.int .i64 c.d) ∧ W.cell? ⟨b, o + 7, none⟩ = some (.int .i64 c.e)
theorem CelAt.kept {W W' : World} {b o : Nat} {c : Cl} (h : CelAt W b o c) (hb : Below W.heap.size W W') : CelAt W' b o c := by
  obtain ⟨h0, h1, h2, h3, h4, h5, h6, h7⟩ := h
  exact ⟨(hb.cell (World.block_lt_of_cell? W _ h0)).trans h0, (hb.cell (World.block_lt_of_cell? W _ h1)).trans h1, (hb.cell (World.block_lt_of_cell? W _ h2)).trans h2, (hb.cell (World.block_lt_of_cell? W _ h3)).trans h3, (hb.cell (World.block_lt_of_cell? W _ h4)).trans h4, (hb.cell (World.block_lt_of_cell? W _ h5)).trans h5, (hb.cell (World.block_lt_of_cell? W _ h6)).trans h6, (hb.cell (World.block_lt_of_cell? W _ h7)).trans h7⟩
/-- A list of cells that lies in memory. -/
structure Cls (w : World) (a : Option Addr) (n cap : Nat) (l : List Cl) : Prop where
  len : l.length = n
  le : n ≤ cap
  max : cap ≤ 9223372036854775807
  adr : cap = 0 ∨ ∃ b off, a = some ⟨b, off, none⟩ ∧ ∀ i, i < n → CelAt w b (off + i * 8) (l.getD i Cl.zero)
theorem Cls.below {w w' : World} {a : Option Addr} {n cap : Nat} {l : List Cl} (h : Cls w a n cap l) (hb : Below w.heap.size w w') : Cls w' a n cap l := by
  refine ⟨h.len, h.le, h.max, ?_⟩
  rcases h.adr with h4 | ⟨b, off, rfl, hc⟩
  · exact .inl h4
  · exact .inr ⟨b, off, rfl, fun i hi => (hc i hi).kept hb⟩
/-- What a place holds, in every world in which nothing of the old is turned. -/
theorem Cls.at {w : World} {a : Option Addr} {n cap : Nat} {l : List Cl} (h : Cls w a n cap l) {k : Nat} (hk : k < n) :
    ∃ b off, a = some ⟨b, off, none⟩ ∧ ∀ W, Below w.heap.size w W → CelAt W b (off + k * 8) (l.getD k Cl.zero) := by
  have := h.le
  rcases h.adr with h4 | ⟨b, off, rfl, hc⟩
  · omega
  · exact ⟨b, off, rfl, fun W hb => (hc k hk).kept hb⟩
theorem Cls.nil (w : World) : Cls w none 0 0 [] := ⟨rfl, Nat.le_refl _, by omega, .inl rfl⟩
theorem Cls.take {w : World} {a : Option Addr} {n cap : Nat} {l : List Cl} (h : Cls w a n cap l) {k : Nat} (hk : k ≤ n) : Cls w a k cap (l.take k) := by
  have hl := h.len
  have hle := h.le
  refine ⟨by rw [List.length_take]; omega, by omega, h.max, ?_⟩
  rcases h.adr with h4 | ⟨b, off, rfl, hc⟩
  · exact .inl h4
  · refine .inr ⟨b, off, rfl, fun i hi => ?_⟩
    have := hc i (by omega)
    rw [List.getD_eq_getElem?_getD] at this ⊢
    rwa [List.getElem?_take_of_lt hi]
/-- Two cells, laid as the list of a call. -/
theorem cls2 (W : World) (n s a b : Int) (g : Bool) (t : List UInt8) (d e : Int) (n' s' a' b' : Int) (g' : Bool) (t' : List UInt8) (d' e' : Int) : Cls (W.alloc (.cells #[.int .i64 n, .int .i64 s, .int .i64 a, .int .i64 b, .bool g, .string (text t), .int .i64 d, .int .i64 e, .int .i64 n', .int .i64 s', .int .i64 a', .int .i64 b', .bool g', .string (text t'), .int .i64 d', .int .i64 e'] 50)) (some ⟨W.heap.size, 0, none⟩) 2 2 [⟨n, s, a, b, g, t, d, e⟩, ⟨n', s', a', b', g', t', d', e'⟩] := by
  have hh : (W.alloc (.cells #[.int .i64 n, .int .i64 s, .int .i64 a, .int .i64 b, .bool g, .string (text t), .int .i64 d, .int .i64 e, .int .i64 n', .int .i64 s', .int .i64 a', .int .i64 b', .bool g', .string (text t'), .int .i64 d', .int .i64 e'] 50)).heap[W.heap.size]? = some (.cells #[.int .i64 n, .int .i64 s, .int .i64 a, .int .i64 b, .bool g, .string (text t), .int .i64 d, .int .i64 e, .int .i64 n', .int .i64 s', .int .i64 a', .int .i64 b', .bool g', .string (text t'), .int .i64 d', .int .i64 e'] 50 (0, 0)) := heap_alloc_new W _
  refine ⟨rfl, Nat.le_refl _, by omega, .inr ⟨W.heap.size, 0, rfl, fun i hi => ?_⟩⟩
  have h01 : i = 0 ∨ i = 1 := by omega
  rcases h01 with rfl | rfl
  · refine ⟨?_, ?_, ?_, ?_, ?_, ?_, ?_, ?_⟩ <;> (rw [cell_of_row _ _ _ _ _ (0, 0) hh]; rfl)
  · refine ⟨?_, ?_, ?_, ?_, ?_, ?_, ?_, ?_⟩ <;> (rw [cell_of_row _ _ _ _ _ (0, 0) hh]; rfl)

theorem twoS_true (n s a b : Int) (g : Bool) (t : List UInt8) (d e : Int) (n' s' a' b' : Int) (g' : Bool) (t' : List UInt8) (d' e' : Int) (h : lessS ⟨n, s, a, b, g, t, d, e⟩ ⟨n', s', a', b', g', t', d', e'⟩ = true) {j k : Int} (hj : joinS [(d, e), (d', e')] = (j, k)) : twoS ⟨n, s, a, b, g, t, d, e⟩ ⟨n', s', a', b', g', t', d', e'⟩ = ⟨n', s', a', b', g', t', j, k⟩ := by
  unfold twoS deadJ; rw [if_pos h]; simp only; rw [hj]
theorem twoS_false (n s a b : Int) (g : Bool) (t : List UInt8) (d e : Int) (n' s' a' b' : Int) (g' : Bool) (t' : List UInt8) (d' e' : Int) (h : lessS ⟨n, s, a, b, g, t, d, e⟩ ⟨n', s', a', b', g', t', d', e'⟩ = false) {j k : Int} (hj : joinS [(d, e), (d', e')] = (j, k)) : twoS ⟨n, s, a, b, g, t, d, e⟩ ⟨n', s', a', b', g', t', d', e'⟩ = ⟨n, s, a, b, g, t, j, k⟩ := by
  unfold twoS deadJ; rw [if_neg (by simp [h])]; simp only; rw [hj]

set_option maxHeartbeats 6400000 in
theorem rtwo_c (n s a b : Int) (g : Bool) (t : List UInt8) (d e : Int) (n' s' a' b' : Int) (g' : Bool) (t' : List UInt8) (d' e' : Int) (w : World) : Calls Tryd.prog 50 #[.agg #[.int .i64 n, .int .i64 s, .int .i64 a, .int .i64 b, .bool g, .string (text t), .int .i64 d, .int .i64 e], .agg #[.int .i64 n', .int .i64 s', .int .i64 a', .int .i64 b', .bool g', .string (text t'), .int .i64 d', .int .i64 e']] w (Tells (.agg (twoS ⟨n, s, a, b, g, t, d, e⟩ ⟨n', s', a', b', g', t', d', e'⟩).arr) w) := by
  have hp := (((Cel.new w n s a b g t d e).alloc (.cells #[.int .i64 n', .int .i64 s', .int .i64 a', .int .i64 b', .bool g', .string (text t'), .int .i64 d', .int .i64 e'] 50)).alloc (.cells #[.int .i64 0, .int .i64 0, .int .i64 0, .int .i64 0, .bool false, .string ⟨#[]⟩, .int .i64 0, .int .i64 0] 50)).alloc (.cells #[.int .i64 n, .int .i64 s, .int .i64 a, .int .i64 b, .bool g, .string (text t), .int .i64 d, .int .i64 e] 50)
  have hq := ((Cel.new (w.alloc (.cells #[.int .i64 n, .int .i64 s, .int .i64 a, .int .i64 b, .bool g, .string (text t), .int .i64 d, .int .i64 e] 50)) n' s' a' b' g' t' d' e').alloc (.cells #[.int .i64 0, .int .i64 0, .int .i64 0, .int .i64 0, .bool false, .string ⟨#[]⟩, .int .i64 0, .int .i64 0] 50)).alloc (.cells #[.int .i64 n, .int .i64 s, .int .i64 a, .int .i64 b, .bool g, .string (text t), .int .i64 d, .int .i64 e] 50)
  have hz := (Cel.new ((w.alloc (.cells #[.int .i64 n, .int .i64 s, .int .i64 a, .int .i64 b, .bool g, .string (text t), .int .i64 d, .int .i64 e] 50)).alloc (.cells #[.int .i64 n', .int .i64 s', .int .i64 a', .int .i64 b', .bool g', .string (text t'), .int .i64 d', .int .i64 e'] 50)) 0 0 0 0 false [] 0 0).alloc (.cells #[.int .i64 n, .int .i64 s, .int .i64 a, .int .i64 b, .bool g, .string (text t), .int .i64 d, .int .i64 e] 50)
  have ho := Cel.new (((w.alloc (.cells #[.int .i64 n, .int .i64 s, .int .i64 a, .int .i64 b, .bool g, .string (text t), .int .i64 d, .int .i64 e] 50)).alloc (.cells #[.int .i64 n', .int .i64 s', .int .i64 a', .int .i64 b', .bool g', .string (text t'), .int .i64 d', .int .i64 e'] 50)).alloc (.cells #[.int .i64 0, .int .i64 0, .int .i64 0, .int .i64 0, .bool false, .string ⟨#[]⟩, .int .i64 0, .int .i64 0] 50)) n s a b g t d e
  have hb := (((alloc_below w (.cells #[.int .i64 n, .int .i64 s, .int .i64 a, .int .i64 b, .bool g, .string (text t), .int .i64 d, .int .i64 e] 50)).alloc (by simp) (.cells #[.int .i64 n', .int .i64 s', .int .i64 a', .int .i64 b', .bool g', .string (text t'), .int .i64 d', .int .i64 e'] 50)).alloc (by simp; omega) (.cells #[.int .i64 0, .int .i64 0, .int .i64 0, .int .i64 0, .bool false, .string ⟨#[]⟩, .int .i64 0, .int .i64 0] 50)).alloc (by simp; omega) (.cells #[.int .i64 n, .int .i64 s, .int .i64 a, .int .i64 b, .bool g, .string (text t), .int .i64 d, .int .i64 e] 50)
  simp only [World.size_alloc] at hq hz ho
  have hnil : text ([] : List UInt8) = ⟨#[]⟩ := rfl
  rw [hnil] at hz
  have HL := fun W => rless_c n s a b g t d e n' s' a' b' g' t' d' e' W
  have HJ := Lib.hid (fun W => rvtwo_c d e d' e' W)
  have hT1 := fun (h : lessS ⟨n, s, a, b, g, t, d, e⟩ ⟨n', s', a', b', g', t', d', e'⟩ = true) {j k : Int} hj => twoS_true n s a b g t d e n' s' a' b' g' t' d' e' (j := j) (k := k) h hj
  have hT0 := fun (h : lessS ⟨n, s, a, b, g, t, d, e⟩ ⟨n', s', a', b', g', t', d', e'⟩ = false) {j k : Int} hj => twoS_false n s a b g t d e n' s' a' b' g' t' d' e' (j := j) (k := k) h hj
  obtain ⟨⟨j, k⟩, hj⟩ : ∃ q, joinS [(d, e), (d', e')] = q := ⟨_, rfl⟩
  rw [hj] at HJ
  replace hT1 := fun h => hT1 h hj
  replace hT0 := fun h => hT0 h hj
  obtain ⟨T, hT⟩ : ∃ q, twoS ⟨n, s, a, b, g, t, d, e⟩ ⟨n', s', a', b', g', t', d', e'⟩ = q := ⟨_, rfl⟩
  rw [hT] at hT1 hT0 ⊢
  obtain ⟨L, hL⟩ : ∃ q, lessS ⟨n, s, a, b, g, t, d, e⟩ ⟨n', s', a', b', g', t', d', e'⟩ = q := ⟨_, rfl⟩
  rw [hL] at hT1 hT0 HL
  replace HL := Lib.hid HL
  clear hj hT hL
  go_enter Tryd.func50, Tryd.ntmps50
  go_upto_region 2 with (fail)
  have HB := Lib.hid hb
  obtain ⟨B, hB⟩ : ∃ q, w.heap.size = q := ⟨_, rfl⟩
  rw [hB] at hp hq hz ho hb HB ⊢
  have HBle := Lib.hid hB
  clear hB
  generalize (((w.alloc (.cells #[.int .i64 n, .int .i64 s, .int .i64 a, .int .i64 b, .bool g, .string (text t), .int .i64 d, .int .i64 e] 50)).alloc (.cells #[.int .i64 n', .int .i64 s', .int .i64 a', .int .i64 b', .bool g', .string (text t'), .int .i64 d', .int .i64 e'] 50)).alloc (.cells #[.int .i64 0, .int .i64 0, .int .i64 0, .int .i64 0, .bool false, .string ⟨#[]⟩, .int .i64 0, .int .i64 0] 50)).alloc (.cells #[.int .i64 n, .int .i64 s, .int .i64 a, .int .i64 b, .bool g, .string (text t), .int .i64 d, .int .i64 e] 50) = W1 at *
  have HF := Lib.hid (And.intro hp (And.intro hq (And.intro hz ho)))
  clear hp hq hz ho hb
  cases L with
  | true =>
    have HT := Lib.hid (hT1 rfl)
    clear hT1 hT0
    obtain ⟨c0, c1, c2, c3, c4, c5, c6, c7⟩ := HF.out.1.cs
    obtain ⟨k0, k1, k2, k3, k4, k5, k6, k7⟩ := HF.out.2.1.cs
    have ofz := HF.out.2.2.2.fz
    go_upto_region 3 with (go_at_call 78; (with_reducible refine (HL.out _).mono ?_); rintro e9 w2 ⟨rfl, hb2⟩)
    replace HF := Lib.hid (And.intro (HF.out.1.kept hb2) (And.intro (HF.out.2.1.kept hb2) (And.intro (HF.out.2.2.1.kept hb2) (HF.out.2.2.2.kept hb2))))
    replace HB := Lib.hid (HB.out.trans (hb2.mono (by have := HB.out.size; have := HBle.out; omega)))
    clear hb2 c0 c1 c2 c3 c4 c5 c6 c7 k0 k1 k2 k3 k4 k5 k6 k7
    obtain ⟨c0, c1, c2, c3, c4, c5, c6, c7⟩ := HF.out.1.cs
    obtain ⟨k0, k1, k2, k3, k4, k5, k6, k7⟩ := HF.out.2.1.cs
    have ofz := HF.out.2.2.2.fz
    obtain ⟨o0, o1, o2, o3, o4, o5, o6, o7⟩ := HF.out.2.2.2.cs
    go_upto_region 4 with (fail)
    have hw := Wrote.of_put n s a b g t d e (Below.refl _ w2) HF.out.2.2.2 n' s' a' b' g' t' d' e'
    clear c0 c1 c2 c3 c4 c5 c6 c7 k0 k1 k2 k3 k4 k5 k6 k7 o0 o1 o2 o3 o4 o5 o6 o7 ofz
    have HF0 := HF.out.2.2.2
    obtain ⟨W3, hW3⟩ : ∃ W, ((((((((w2.setCell ⟨B + 1 + 1 + 1, 0, none⟩ (.int .i64 n')).setCell ⟨B + 1 + 1 + 1, 1, none⟩ (.int .i64 s')).setCell ⟨B + 1 + 1 + 1, 2, none⟩ (.int .i64 a')).setCell ⟨B + 1 + 1 + 1, 3, none⟩ (.int .i64 b')).setCell ⟨B + 1 + 1 + 1, 4, none⟩ (.bool g')).setCell ⟨B + 1 + 1 + 1, 5, none⟩ (.string (text t'))).setCell ⟨B + 1 + 1 + 1, 6, none⟩ (.int .i64 d')).setCell ⟨B + 1 + 1 + 1, 7, none⟩ (.int .i64 e')) = W := ⟨_, rfl⟩
    rw [hW3] at hw ⊢
    replace HF := Lib.hid (And.intro (hw.cel HF.out.1 (by omega)) (And.intro (hw.cel HF.out.2.1 (by omega)) (And.intro (hw.cel HF.out.2.2.1 (by omega)) (show Cel W3 (B + 1 + 1 + 1) n' s' a' b' g' t' d' e' from hw.cell))))
    replace HB := Lib.hid (HB.out.trans (hw.below (by omega) (Nat.le_of_lt HF0.lt)))
    clear hw hW3 HF0
    obtain ⟨c0, c1, c2, c3, c4, c5, c6, c7⟩ := HF.out.1.cs
    obtain ⟨k0, k1, k2, k3, k4, k5, k6, k7⟩ := HF.out.2.1.cs
    have ofz := HF.out.2.2.2.fz
    go_upto_region 5 with (go_at_call 46; (with_reducible refine (HJ.out _).mono ?_); rintro e9 w2 ⟨rfl, hb2⟩; obtain ⟨o0, o1, o2, o3, o4, o5, o6, o7⟩ := (HF.out.2.2.2.kept hb2).cs; have ofz := (HF.out.2.2.2.kept hb2).fz)
    replace HF := Lib.hid (And.intro (HF.out.1.kept hb2) (And.intro (HF.out.2.1.kept hb2) (And.intro (HF.out.2.2.1.kept hb2) (HF.out.2.2.2.kept hb2))))
    replace HB := Lib.hid (HB.out.trans (hb2.mono (by have := HB.out.size; have := HBle.out; omega)))
    clear hb2 c0 c1 c2 c3 c4 c5 c6 c7 k0 k1 k2 k3 k4 k5 k6 k7
    have hw := Wrote.of_dead n' s' a' b' g' t' d' e' (Below.refl _ w2) HF.out.2.2.2 j k
    have HF0 := HF.out.2.2.2
    obtain ⟨W3, hW3⟩ : ∃ W, ((w2.setCell ⟨B + 1 + 1 + 1, 6, none⟩ (.int .i64 j)).setCell ⟨B + 1 + 1 + 1, 7, none⟩ (.int .i64 k)) = W := ⟨_, rfl⟩
    rw [hW3] at hw ⊢
    replace HF := Lib.hid (And.intro (hw.cel HF.out.2.2.1 (by omega)) (show Cel W3 (B + 1 + 1 + 1) n' s' a' b' g' t' j k from hw.cell))
    replace HB := Lib.hid (HB.out.trans (hw.below (by omega) (Nat.le_of_lt HF0.lt)))
    clear hw hW3 HF0
    obtain ⟨o0, o1, o2, o3, o4, o5, o6, o7⟩ := HF.out.2.cs
    obtain ⟨z0, z1, z2, z3, z4, z5, z6, z7⟩ := HF.out.1.cs
    have zfz := HF.out.1.fz
    go_wp2
    refine bodyPost_ret (results_cell_row rfl _ _ (B + 1 + 1) 50 _ (0, 0) _ rfl (HF.out.1.put n' s' a' b' g' t' j k) Tryd.underlying50 rfl (sizeC n' s' a' b' g' t' j k)) rfl ⟨by rw [HT.out]; rfl, put_below (HB.out.mono (Nat.le_of_eq HBle.out)) (by have := HBle.out; omega) n' s' a' b' g' t' j k⟩
  | false =>
    have HT := Lib.hid (hT0 rfl)
    clear hT1 hT0
    obtain ⟨c0, c1, c2, c3, c4, c5, c6, c7⟩ := HF.out.1.cs
    obtain ⟨k0, k1, k2, k3, k4, k5, k6, k7⟩ := HF.out.2.1.cs
    have ofz := HF.out.2.2.2.fz
    go_upto_region 4 with (go_at_call 78; (with_reducible refine (HL.out _).mono ?_); rintro e9 w2 ⟨rfl, hb2⟩)
    replace HF := Lib.hid (And.intro (HF.out.1.kept hb2) (And.intro (HF.out.2.1.kept hb2) (And.intro (HF.out.2.2.1.kept hb2) (HF.out.2.2.2.kept hb2))))
    replace HB := Lib.hid (HB.out.trans (hb2.mono (by have := HB.out.size; have := HBle.out; omega)))
    clear hb2 c0 c1 c2 c3 c4 c5 c6 c7 k0 k1 k2 k3 k4 k5 k6 k7
    obtain ⟨c0, c1, c2, c3, c4, c5, c6, c7⟩ := HF.out.1.cs
    obtain ⟨k0, k1, k2, k3, k4, k5, k6, k7⟩ := HF.out.2.1.cs
    have ofz := HF.out.2.2.2.fz
    go_upto_region 5 with (go_at_call 46; (with_reducible refine (HJ.out _).mono ?_); rintro e9 w2 ⟨rfl, hb2⟩; obtain ⟨o0, o1, o2, o3, o4, o5, o6, o7⟩ := (HF.out.2.2.2.kept hb2).cs; have ofz := (HF.out.2.2.2.kept hb2).fz)
    replace HF := Lib.hid (And.intro (HF.out.1.kept hb2) (And.intro (HF.out.2.1.kept hb2) (And.intro (HF.out.2.2.1.kept hb2) (HF.out.2.2.2.kept hb2))))
    replace HB := Lib.hid (HB.out.trans (hb2.mono (by have := HB.out.size; have := HBle.out; omega)))
    clear hb2 c0 c1 c2 c3 c4 c5 c6 c7 k0 k1 k2 k3 k4 k5 k6 k7
    have hw := Wrote.of_dead n s a b g t d e (Below.refl _ w2) HF.out.2.2.2 j k
    have HF0 := HF.out.2.2.2
    obtain ⟨W3, hW3⟩ : ∃ W, ((w2.setCell ⟨B + 1 + 1 + 1, 6, none⟩ (.int .i64 j)).setCell ⟨B + 1 + 1 + 1, 7, none⟩ (.int .i64 k)) = W := ⟨_, rfl⟩
    rw [hW3] at hw ⊢
    replace HF := Lib.hid (And.intro (hw.cel HF.out.2.2.1 (by omega)) (show Cel W3 (B + 1 + 1 + 1) n s a b g t j k from hw.cell))
    replace HB := Lib.hid (HB.out.trans (hw.below (by omega) (Nat.le_of_lt HF0.lt)))
    clear hw hW3 HF0
    obtain ⟨o0, o1, o2, o3, o4, o5, o6, o7⟩ := HF.out.2.cs
    obtain ⟨z0, z1, z2, z3, z4, z5, z6, z7⟩ := HF.out.1.cs
    have zfz := HF.out.1.fz
    go_wp2
    refine bodyPost_ret (results_cell_row rfl _ _ (B + 1 + 1) 50 _ (0, 0) _ rfl (HF.out.1.put n s a b g t j k) Tryd.underlying50 rfl (sizeC n s a b g t j k)) rfl ⟨by rw [HT.out]; rfl, put_below (HB.out.mono (Nat.le_of_eq HBle.out)) (by have := HBle.out; omega) n s a b g t j k⟩

def CelC (W : World) (q : Nat) (c : Cl) : Prop := Cel W q c.n c.s c.a c.b c.g c.t c.d c.e
theorem CelC.kept {W W' : World} {q : Nat} {c : Cl} (h : CelC W q c) (hb : Below W.heap.size W W') : CelC W' q c := Cel.kept h hb
theorem CelC.alloc {W : World} {q : Nat} {c : Cl} (h : CelC W q c) (x : Obj) : CelC (W.alloc x) q c := Cel.alloc h x
theorem arr_eq (n s a b : Int) (g : Bool) (t : List UInt8) (d e : Int) : Cl.arr ⟨n, s, a, b, g, t, d, e⟩ = #[.int .i64 n, .int .i64 s, .int .i64 a, .int .i64 b, .bool g, .string (text t), .int .i64 d, .int .i64 e] := rfl

set_option maxHeartbeats 6400000 in
theorem join1_c (n s a b : Int) (g : Bool) (t : List UInt8) (d e : Int) (n' s' a' b' : Int) (g' : Bool) (t' : List UInt8) (d' e' : Int) (q : Nat) {w : World} (h : Cel w q n s a b g t d e) :
    Calls Tryd.prog 59 #[.agg #[.int .i64 n, .int .i64 s, .int .i64 a, .int .i64 b, .bool g, .string (text t), .int .i64 d, .int .i64 e], .agg #[.int .i64 n', .int .i64 s', .int .i64 a', .int .i64 b', .bool g', .string (text t'), .int .i64 d', .int .i64 e'], .pointer (some ⟨q, 0, none⟩)] w (Sets q (twoS ⟨n, s, a, b, g, t, d, e⟩ ⟨n', s', a', b', g', t', d', e'⟩).arr 50 w) := by
  have hlt := h.lt
  have hp := (Cel.new w n s a b g t d e).alloc (.cells #[.int .i64 n', .int .i64 s', .int .i64 a', .int .i64 b', .bool g', .string (text t'), .int .i64 d', .int .i64 e'] 50)
  have hq := Cel.new (w.alloc (.cells #[.int .i64 n, .int .i64 s, .int .i64 a, .int .i64 b, .bool g, .string (text t), .int .i64 d, .int .i64 e] 50)) n' s' a' b' g' t' d' e'
  simp only [World.size_alloc] at hq
  have hb := (alloc_below w (.cells #[.int .i64 n, .int .i64 s, .int .i64 a, .int .i64 b, .bool g, .string (text t), .int .i64 d, .int .i64 e] 50)).alloc (by simp) (.cells #[.int .i64 n', .int .i64 s', .int .i64 a', .int .i64 b', .bool g', .string (text t'), .int .i64 d', .int .i64 e'] 50)
  have ho := h.kept hb
  have HL := fun W => less_c n s a b g t d e n' s' a' b' g' t' d' e' W
  have HJ := Lib.hid (fun W => vjoin_c (prs2 W d e d' e'))
  have hT1 := fun (h : lessS ⟨n, s, a, b, g, t, d, e⟩ ⟨n', s', a', b', g', t', d', e'⟩ = true) {j k : Int} hj => twoS_true n s a b g t d e n' s' a' b' g' t' d' e' (j := j) (k := k) h hj
  have hT0 := fun (h : lessS ⟨n, s, a, b, g, t, d, e⟩ ⟨n', s', a', b', g', t', d', e'⟩ = false) {j k : Int} hj => twoS_false n s a b g t d e n' s' a' b' g' t' d' e' (j := j) (k := k) h hj
  obtain ⟨⟨j, k⟩, hj⟩ : ∃ q, joinS [(d, e), (d', e')] = q := ⟨_, rfl⟩
  rw [hj] at HJ
  replace hT1 := fun h => hT1 h hj
  replace hT0 := fun h => hT0 h hj
  obtain ⟨T, hT⟩ : ∃ q, twoS ⟨n, s, a, b, g, t, d, e⟩ ⟨n', s', a', b', g', t', d', e'⟩ = q := ⟨_, rfl⟩
  rw [hT] at hT1 hT0 ⊢
  obtain ⟨L, hL⟩ : ∃ q, lessS ⟨n, s, a, b, g, t, d, e⟩ ⟨n', s', a', b', g', t', d', e'⟩ = q := ⟨_, rfl⟩
  rw [hL] at hT1 hT0 HL
  replace HL := Lib.hid HL
  clear hj hT hL h
  go_enter Tryd.func59, Tryd.ntmps59
  go_upto_region 1 with (fail)
  have HB := Lib.hid hb
  obtain ⟨B, hB⟩ : ∃ q, w.heap.size = q := ⟨_, rfl⟩
  have HBle := Lib.hid hB
  rw [hB] at hp hq hlt ⊢
  clear hB hb
  generalize (w.alloc (.cells #[.int .i64 n, .int .i64 s, .int .i64 a, .int .i64 b, .bool g, .string (text t), .int .i64 d, .int .i64 e] 50)).alloc (.cells #[.int .i64 n', .int .i64 s', .int .i64 a', .int .i64 b', .bool g', .string (text t'), .int .i64 d', .int .i64 e'] 50) = W1 at *
  have HF := Lib.hid (And.intro hp (And.intro hq ho))
  clear hp hq ho
  cases L with
  | true =>
    have HT := Lib.hid (hT1 rfl)
    clear hT1 hT0
    obtain ⟨c0, c1, c2, c3, c4, c5, c6, c7⟩ := HF.out.1.cs
    obtain ⟨k0, k1, k2, k3, k4, k5, k6, k7⟩ := HF.out.2.1.cs
    have ofz := HF.out.2.2.fz
    go_upto_region 2 with (go_at_call 60; (with_reducible refine (HL.out _).mono ?_); rintro e9 w2 ⟨rfl, hb2⟩)
    replace HF := Lib.hid (And.intro (HF.out.1.kept hb2) (And.intro (HF.out.2.1.kept hb2) (HF.out.2.2.kept hb2)))
    replace HB := Lib.hid (HB.out.trans (hb2.mono HB.out.size))
    clear hb2 c0 c1 c2 c3 c4 c5 c6 c7 k0 k1 k2 k3 k4 k5 k6 k7
    obtain ⟨c0, c1, c2, c3, c4, c5, c6, c7⟩ := HF.out.1.cs
    obtain ⟨k0, k1, k2, k3, k4, k5, k6, k7⟩ := HF.out.2.1.cs
    have ofz := HF.out.2.2.fz
    obtain ⟨o0, o1, o2, o3, o4, o5, o6, o7⟩ := HF.out.2.2.cs
    go_upto_region 3 with (fail)
    have hw := Wrote.of_put n s a b g t d e (Below.refl _ w2) HF.out.2.2 n' s' a' b' g' t' d' e'
    have HWW := Lib.hid (Wrote.of_put n s a b g t d e HB.out HF.out.2.2 n' s' a' b' g' t' d' e')
    clear c0 c1 c2 c3 c4 c5 c6 c7 k0 k1 k2 k3 k4 k5 k6 k7 o0 o1 o2 o3 o4 o5 o6 o7 ofz
    obtain ⟨W3, hW3⟩ : ∃ W, ((((((((w2.setCell ⟨q, 0, none⟩ (.int .i64 n')).setCell ⟨q, 1, none⟩ (.int .i64 s')).setCell ⟨q, 2, none⟩ (.int .i64 a')).setCell ⟨q, 3, none⟩ (.int .i64 b')).setCell ⟨q, 4, none⟩ (.bool g')).setCell ⟨q, 5, none⟩ (.string (text t'))).setCell ⟨q, 6, none⟩ (.int .i64 d')).setCell ⟨q, 7, none⟩ (.int .i64 e')) = W := ⟨_, rfl⟩
    rw [hW3] at hw HWW ⊢
    replace HF := Lib.hid (And.intro (hw.cel HF.out.1 (by omega)) (And.intro (hw.cel HF.out.2.1 (by omega)) (show Cel W3 q n' s' a' b' g' t' d' e' from hw.cell)))
    clear hw hW3 HB
    obtain ⟨c0, c1, c2, c3, c4, c5, c6, c7⟩ := HF.out.1.cs
    obtain ⟨k0, k1, k2, k3, k4, k5, k6, k7⟩ := HF.out.2.1.cs
    have ofz := HF.out.2.2.fz
    have hbs := Below.refl W3.heap.size W3
    go_wp2_with (go_at_call 44; (with_reducible refine (HJ.out _).mono ?_); rintro e9 w4 ⟨rfl, hb4⟩; (replace hbs := (hbs.alloc hbs.size (.cells #[.int .i64 d, .int .i64 e, .int .i64 d', .int .i64 e'] 44)).trans (hb4.mono (by simp))); obtain ⟨o0, o1, o2, o3, o4, o5, o6, o7⟩ := (HF.out.2.2.kept hbs).cs; have ofz := (HF.out.2.2.kept hbs).fz)
    refine bodyPost_ret (results_none rfl _ _ _) rfl ⟨rfl, ?_⟩
    rw [HT.out]
    exact HWW.out.trans (Wrote.of_dead n' s' a' b' g' t' d' e' hbs (HF.out.2.2.kept hbs) j k)
  | false =>
    have HT := Lib.hid (hT0 rfl)
    clear hT1 hT0
    obtain ⟨c0, c1, c2, c3, c4, c5, c6, c7⟩ := HF.out.1.cs
    obtain ⟨k0, k1, k2, k3, k4, k5, k6, k7⟩ := HF.out.2.1.cs
    have ofz := HF.out.2.2.fz
    go_upto_region 3 with (go_at_call 60; (with_reducible refine (HL.out _).mono ?_); rintro e9 w2 ⟨rfl, hb2⟩)
    replace HF := Lib.hid (And.intro (HF.out.1.kept hb2) (And.intro (HF.out.2.1.kept hb2) (HF.out.2.2.kept hb2)))
    replace HB := Lib.hid (HB.out.trans (hb2.mono HB.out.size))
    clear hb2 c0 c1 c2 c3 c4 c5 c6 c7 k0 k1 k2 k3 k4 k5 k6 k7
    obtain ⟨c0, c1, c2, c3, c4, c5, c6, c7⟩ := HF.out.1.cs
    obtain ⟨k0, k1, k2, k3, k4, k5, k6, k7⟩ := HF.out.2.1.cs
    have ofz := HF.out.2.2.fz
    have hbs := Below.refl w2.heap.size w2
    go_wp2_with (go_at_call 44; (with_reducible refine (HJ.out _).mono ?_); rintro e9 w4 ⟨rfl, hb4⟩; (replace hbs := (hbs.alloc hbs.size (.cells #[.int .i64 d, .int .i64 e, .int .i64 d', .int .i64 e'] 44)).trans (hb4.mono (by simp))); obtain ⟨o0, o1, o2, o3, o4, o5, o6, o7⟩ := (HF.out.2.2.kept hbs).cs; have ofz := (HF.out.2.2.kept hbs).fz)
    refine bodyPost_ret (results_none rfl _ _ _) rfl ⟨rfl, ?_⟩
    rw [HT.out]
    exact Wrote.of_dead n s a b g t d e (HB.out.trans (hbs.mono HB.out.size)) (HF.out.2.2.kept hbs) j k
end Go.Proofs.YtkjpmdpljdgcjaaDoor
end

section
/-
  Join: the program's Join.
-/
namespace Go.Proofs.YtkjpmdpljdgcjaaDoor
open Go.RowKit Go Go.Sort
set_option linter.unusedVariables false
set_option maxRecDepth 20000

theorem nil_text : text ([] : List UInt8) = ⟨#[]⟩ := rfl
theorem zeros (W : World) : CelC (W.alloc (.cells #[.int .i64 0, .int .i64 0, .int .i64 0, .int .i64 0, .bool false, .string ⟨#[]⟩, .int .i64 0, .int .i64 0] 50)) W.heap.size Cl.zero := Cel.new W 0 0 0 0 false [] 0 0
theorem CelC.cs {W : World} {q : Nat} {n s a b : Int} {g : Bool} {t : List UInt8} {d e : Int} (h : CelC W q ⟨n, s, a, b, g, t, d, e⟩) : CelAt W q 0 ⟨n, s, a, b, g, t, d, e⟩ := by
  have := Cel.cs h
  simpa [CelAt] using this

set_option maxHeartbeats 6400000 in
theorem join_c {w : World} {x : Option Addr} {m cap : Nat} {l : List Cl} (hl : Cls w x m cap l) : Calls Tryd.prog 31 #[.slice x m cap] w (Tells (.agg (joinC l).arr) w) := by
  have hln := hl.len
  have hnle := hl.le
  have hnm := hl.max
  have ho := (zeros w).alloc (.cells #[.int .i64 0, .int .i64 0, .int .i64 0, .int .i64 0, .bool false, .string ⟨#[]⟩, .int .i64 0, .int .i64 0] 50)
  have hq := zeros (w.alloc (.cells #[.int .i64 0, .int .i64 0, .int .i64 0, .int .i64 0, .bool false, .string ⟨#[]⟩, .int .i64 0, .int .i64 0] 50))
  simp only [World.size_alloc] at hq
  have hb := (alloc_below w (.cells #[.int .i64 0, .int .i64 0, .int .i64 0, .int .i64 0, .bool false, .string ⟨#[]⟩, .int .i64 0, .int .i64 0] 50)).alloc (by simp) (.cells #[.int .i64 0, .int .i64 0, .int .i64 0, .int .i64 0, .bool false, .string ⟨#[]⟩, .int .i64 0, .int .i64 0] 50)
  have hmf := mkf
  have HL := Lib.hid hl
  clear hl
  go_enter Tryd.func31, Tryd.ntmps31
  go_upto_region 2 with (fail)
  have HB := Lib.hid hb
  obtain ⟨B, hB⟩ : ∃ q, w.heap.size = q := ⟨_, rfl⟩
  have HBe := Lib.hid hB
  rw [hB] at ho hq ⊢
  clear hB hb
  generalize (w.alloc (.cells #[.int .i64 0, .int .i64 0, .int .i64 0, .int .i64 0, .bool false, .string ⟨#[]⟩, .int .i64 0, .int .i64 0] 50)).alloc (.cells #[.int .i64 0, .int .i64 0, .int .i64 0, .int .i64 0, .bool false, .string ⟨#[]⟩, .int .i64 0, .int .i64 0] 50) = W1 at *
  have HQ := Lib.hid hq
  have HO := Lib.hid ho
  clear hq ho
  go_wp2
  go_loopw [10] (fun i wr => ∃ k : Nat, k ≤ m ∧ i = .int .i64 k ∧ CelC wr (B + 1) (joinC (l.take k)) ∧ CelC wr B Cl.zero ∧ Below w.heap.size w wr) (fun i _ => m - (intOf i).toNat)
  case atStart => exact ⟨0, by omega, rfl, HQ.out, HO.out, HB.out⟩
  case round =>
    clear HQ HO HB
    obtain ⟨i, hk, rfl, hq, ho, hB⟩ := hrel
    by_cases hlt : i < m
    · have hki : (i : Int) < (m : Int) := by omega
      have hki2 : (i : Int) < (cap : Int) := by omega
      obtain ⟨bk, off, rfl, hat⟩ := HL.out.at hlt
      have HJ := Lib.hid (join_take l i (by omega))
      obtain ⟨y, hy⟩ : ∃ y, l.getD i Cl.zero = y := ⟨_, rfl⟩
      obtain ⟨j, hj⟩ : ∃ j, joinC (l.take i) = j := ⟨_, rfl⟩
      rw [hy] at HJ hat
      rw [hj] at hq HJ
      obtain ⟨n, s, a, b, g, t, d, e⟩ := j
      obtain ⟨n', s', a', b', g', t', d', e'⟩ := y
      obtain ⟨p0, p1, p2, p3, p4, p5, p6, p7⟩ := hat wr hB
      simp only at p0 p1 p2 p3 p4 p5 p6 p7
      have HQ := Lib.hid hq
      have HO := Lib.hid ho
      have HB := Lib.hid hB
      have HC := Lib.hid (fun W h => join1_c n s a b g t d e n' s' a' b' g' t' d' e' (B + 1) (w := W) h)
      clear hat hy hj hq ho hB
      go_upto_region 6 with (fail)
      have hq2 := HQ.out.alloc (.cells #[.int .i64 n', .int .i64 s', .int .i64 a', .int .i64 b', .bool g', .string (text t'), .int .i64 d', .int .i64 e'] 50)
      have hx2 := Cel.new wr n' s' a' b' g' t' d' e'
      have hlo := hq2.lt
      have hgr := HQ.out.lt
      have HO2 := Lib.hid (HO.out.alloc (.cells #[.int .i64 n', .int .i64 s', .int .i64 a', .int .i64 b', .bool g', .string (text t'), .int .i64 d', .int .i64 e'] 50))
      have HB2 := Lib.hid (HB.out.alloc HB.out.size (.cells #[.int .i64 n', .int .i64 s', .int .i64 a', .int .i64 b', .bool g', .string (text t'), .int .i64 d', .int .i64 e'] 50))
      have HS := Lib.hid (show B + 1 < (wr.alloc (.cells #[.int .i64 n', .int .i64 s', .int .i64 a', .int .i64 b', .bool g', .string (text t'), .int .i64 d', .int .i64 e'] 50)).heap.size by simp; omega)
      obtain ⟨gx, hgx⟩ : ∃ g, wr.heap.size = g := ⟨_, rfl⟩
      rw [hgx] at hx2 ⊢
      generalize wr.alloc (.cells #[.int .i64 n', .int .i64 s', .int .i64 a', .int .i64 b', .bool g', .string (text t'), .int .i64 d', .int .i64 e'] 50) = W2 at *
      have HF := Lib.hid (show Cel W2 (B + 1) n s a b g t d e from hq2)
      obtain ⟨c0, c1, c2, c3, c4, c5, c6, c7⟩ := HF.out.cs
      obtain ⟨k0, k1, k2, k3, k4, k5, k6, k7⟩ := hx2.cs
      clear hq2 hx2 p0 p1 p2 p3 p4 p5 p6 p7 HQ HO HB hgx hlo hgr
      go_wp2_with (go_at_call 59; (with_reducible refine (HC.out _ HF.out).mono ?_); rintro e9 w3 ⟨rfl, hw3⟩)
      have HV := Lib.hid (show CelC w3 (B + 1) (twoS ⟨n, s, a, b, g, t, d, e⟩ ⟨n', s', a', b', g', t', d', e'⟩) from hw3.cell)
      have HO3 := Lib.hid (show CelC w3 B Cl.zero from hw3.cel HO2.out (by omega))
      have HB3 := Lib.hid (HB2.out.trans (hw3.below (by have := HBe.out; omega) (Nat.le_of_lt HS.out)))
      clear hw3 c0 c1 c2 c3 c4 c5 c6 c7 k0 k1 k2 k3 k4 k5 k6 k7
      go_wp2
      go_roundw
      case rel => exact ⟨i + 1, by omega, rfl, by rw [HJ.out]; exact HV.out, HO3.out, HB3.out⟩
      case measure => simp [intOf]; omega
    · obtain rfl : i = m := by omega
      rw [List.take_of_length_le (by omega)] at hq
      obtain ⟨J, hJ⟩ : ∃ j, joinC l = j := ⟨_, rfl⟩
      rw [hJ] at hq
      obtain ⟨n, s, a, b, g, t, d, e⟩ := J
      have hq' : Cel wr (B + 1) n s a b g t d e := hq
      have ho' : Cel wr B 0 0 0 0 false [] 0 0 := ho
      obtain ⟨c0, c1, c2, c3, c4, c5, c6, c7⟩ := hq'.cs
      obtain ⟨o0, o1, o2, o3, o4, o5, o6, o7⟩ := ho'.cs
      have ofz := ho'.fz
      have HO := Lib.hid ho'
      have HB := Lib.hid hB
      have HJ2 := Lib.hid hJ
      clear hq ho hB hq' ho' hJ
      go_wp2
      refine bodyPost_ret (results_cell_row rfl _ _ B 50 _ (0, 0) _ rfl (HO.out.put n s a b g t d e) Tryd.underlying50 rfl (sizeC n s a b g t d e)) rfl ⟨by rw [HJ2.out]; rfl, put_below HB.out (by have := HBe.out; omega) n s a b g t d e⟩
end Go.Proofs.YtkjpmdpljdgcjaaDoor
end

section
/-
  Same of two cells.
-/
namespace Go.Proofs.YtkjpmdpljdgcjaaDoor
open Go.RowKit Go Go.Sort
set_option linter.unusedVariables false
set_option maxRecDepth 20000

set_option maxHeartbeats 6400000 in
theorem rsame_c (n s a b : Int) (g : Bool) (t : List UInt8) (d e : Int) (n' s' a' b' : Int) (g' : Bool) (t' : List UInt8) (d' e' : Int) (w : World) : Calls Tryd.prog 32 #[.agg #[.int .i64 n, .int .i64 s, .int .i64 a, .int .i64 b, .bool g, .string (text t), .int .i64 d, .int .i64 e], .agg #[.int .i64 n', .int .i64 s', .int .i64 a', .int .i64 b', .bool g', .string (text t'), .int .i64 d', .int .i64 e']] w (Tells (.bool (sameC ⟨n, s, a, b, g, t, d, e⟩ ⟨n', s', a', b', g', t', d', e'⟩)) w) := by
  have hp := (Cel.new w n s a b g t d e).alloc (.cells #[.int .i64 n', .int .i64 s', .int .i64 a', .int .i64 b', .bool g', .string (text t'), .int .i64 d', .int .i64 e'] 50)
  have hq := Cel.new (w.alloc (.cells #[.int .i64 n, .int .i64 s, .int .i64 a, .int .i64 b, .bool g, .string (text t), .int .i64 d, .int .i64 e] 50)) n' s' a' b' g' t' d' e'
  rw [World.size_alloc] at hq
  have HB := Lib.hid ((alloc_below w (.cells #[.int .i64 n, .int .i64 s, .int .i64 a, .int .i64 b, .bool g, .string (text t), .int .i64 d, .int .i64 e] 50)).alloc (by simp) (.cells #[.int .i64 n', .int .i64 s', .int .i64 a', .int .i64 b', .bool g', .string (text t'), .int .i64 d', .int .i64 e'] 50))
  have HV := Lib.hid (show sameC ⟨n, s, a, b, g, t, d, e⟩ ⟨n', s', a', b', g', t', d', e'⟩ = (((n == n') && (s == s')) && (((a == a') && (b == b')) && ((g == g') && (decide (t = t') && ((d == d') && (e == e')))))) from rfl)
  obtain ⟨r, hr⟩ : ∃ r, sameC ⟨n, s, a, b, g, t, d, e⟩ ⟨n', s', a', b', g', t', d', e'⟩ = r := ⟨_, rfl⟩
  rw [hr] at HV ⊢
  have hng := stamp_eqg
  have hvg := vec_eqg
  have hte : ((text t).toList == (text t').toList) = decide (t = t') := by rw [text_eqb, Bool.eq_iff_iff]; simp
  obtain ⟨c0, c1, c2, c3, c4, c5, c6, c7⟩ := hp.cs
  obtain ⟨k0, k1, k2, k3, k4, k5, k6, k7⟩ := hq.cs
  obtain ⟨u, hu⟩ : ∃ u, text t = u := ⟨_, rfl⟩
  obtain ⟨v, hv⟩ : ∃ u, text t' = u := ⟨_, rfl⟩
  rw [hu, hv] at c0 c1 c2 c3 c4 c5 c6 c7 k0 k1 k2 k3 k4 k5 k6 k7 hte HB
  rw [hu, hv]
  obtain ⟨q1, h1⟩ : ∃ q, ((n == n') && (s == s')) = q := ⟨_, rfl⟩
  obtain ⟨q2, h2⟩ : ∃ q, ((a == a') && (b == b')) = q := ⟨_, rfl⟩
  obtain ⟨q3, h3⟩ : ∃ q, (g == g') = q := ⟨_, rfl⟩
  obtain ⟨q4, h4⟩ : ∃ q, decide (t = t') = q := ⟨_, rfl⟩
  obtain ⟨q5, h5⟩ : ∃ q, ((d == d') && (e == e')) = q := ⟨_, rfl⟩
  have e1 := stamp_eqb n s n' s' _ h1
  have e2 := vec_eqb a b a' b' _ h2
  have e5 := vec_eqb d e d' e' _ h5
  rw [h1, h2, h3, h4, h5] at HV
  rw [h4] at hte
  clear hp hq hr hu hv h1 h2 h4 h5
  cases q1 with
  | false =>
    go_enter Tryd.func32, Tryd.ntmps32
    go_wp2
    go_ret
    exact ⟨by rw [HV.out]; rfl, HB.out⟩
  | true =>
  cases q2 with
  | false =>
    go_enter Tryd.func32, Tryd.ntmps32
    go_wp2
    go_ret
    exact ⟨by rw [HV.out]; rfl, HB.out⟩
  | true =>
  cases q3 with
  | false =>
    go_enter Tryd.func32, Tryd.ntmps32
    go_wp2
    go_ret
    exact ⟨by rw [HV.out]; rfl, HB.out⟩
  | true =>
  cases q4 with
  | false =>
    go_enter Tryd.func32, Tryd.ntmps32
    go_wp2
    go_ret
    exact ⟨by rw [HV.out]; rfl, HB.out⟩
  | true =>
    go_enter Tryd.func32, Tryd.ntmps32
    go_wp2
    go_ret
    exact ⟨by rw [HV.out]; cases q5 <;> rfl, HB.out⟩
end Go.Proofs.YtkjpmdpljdgcjaaDoor
end

section
/-
  Lists of cells of the call's own.
-/
namespace Go.Proofs.YtkjpmdpljdgcjaaDoor
open Go.RowKit Go Go.Sort
set_option linter.unusedVariables false
set_option maxRecDepth 20000

theorem own_kept {W W' : World} {B s k : Nat} {e : TypeId} {v : Value} {xs : List Value} (h : W.ownsRow B e s v k xs) (hb : Below W.heap.size W W') : W'.ownsRow B e s v k xs := by
  refine ⟨h.1, ?_⟩
  rcases h.2 with hn | ⟨g, cap, cur, rfl, hB, hg, rest⟩
  · exact .inl hn
  · exact .inr ⟨g, cap, cur, rfl, hB, by rw [hb.block g (Array.getElem?_eq_some_iff.1 hg).1]; exact hg, rest⟩
theorem own_mono {W : World} {B B' s k : Nat} {e : TypeId} {v : Value} {xs : List Value} (h : W.ownsRow B e s v k xs) (hB : B' ≤ B) : W.ownsRow B' e s v k xs := by
  refine ⟨h.1, ?_⟩
  rcases h.2 with hn | ⟨g, cap, cur, rfl, hb, rest⟩
  · exact .inl hn
  · exact .inr ⟨g, cap, cur, rfl, by omega, rest⟩
def cCells (l : List Cl) : List Value := l.flatMap (fun c => c.arr.toList)
theorem cCells_length (l : List Cl) : (cCells l).length = l.length * 8 := by
  induction l with
  | nil => rfl
  | cons c l ih => simp only [cCells, List.flatMap_cons, List.length_append, List.length_cons] at ih ⊢; rw [ih]; simp [Cl.arr]; omega
theorem cCells_append (l m : List Cl) : cCells (l ++ m) = cCells l ++ cCells m := by simp [cCells]
theorem cCells_get : ∀ (l : List Cl) (i j : Nat), i < l.length → j < 8 → (cCells l)[i * 8 + j]? = (l.getD i Cl.zero).arr[j]?
  | [], i, j, h, _ => by simp at h
  | c :: r, 0, j, _, hj => by
    simp only [cCells, List.flatMap_cons, List.getD_cons_zero, Nat.zero_mul, Nat.zero_add]
    rw [List.getElem?_append_left (by simp [Cl.arr]; omega)]
    simp
  | c :: r, i + 1, j, h, hj => by
    have := cCells_get r i j (by simpa using h) hj
    simp only [List.getD_cons_succ]
    rw [← this]
    simp only [cCells, List.flatMap_cons]
    rw [List.getElem?_append_right (by simp [Cl.arr]; omega)]
    congr 1
    simp [Cl.arr]
    omega
/-- A slice of the call's own that reads as the cells l. -/
def OwnC (w : World) (B : Nat) (v : Value) (l : List Cl) : Prop := w.ownsRow B 50 8 v l.length (cCells l)
theorem OwnC.nil (w : World) (B : Nat) : OwnC w B (.slice none 0 0) [] := World.ownsRow_nil _ _ _ _
theorem OwnC.cls {w : World} {B : Nat} {v : Value} {l : List Cl} (h : OwnC w B v l) : ∃ a cap, v = .slice a l.length cap ∧ Cls w a l.length cap l := by
  obtain ⟨h1, h2⟩ := h
  rcases h2 with ⟨rfl, hn⟩ | ⟨g, cap, cur, rfl, hb, hg, hnc, hcm, hcs, htake⟩
  · exact ⟨none, 0, by rw [hn], rfl, by omega, by omega, .inl rfl⟩
  · refine ⟨_, cap, rfl, rfl, hnc, by unfold maxLen at hcm; omega, .inr ⟨g, 0, rfl, fun i hi => ?_⟩⟩
    have key : ∀ j, j < 8 → w.cell? ⟨g, 0 + i * 8 + j, none⟩ = (l.getD i Cl.zero).arr[j]? := by
      intro j hj
      have c1 := cCells_get l i j hi hj
      rw [← htake, List.getElem?_take, if_pos (by omega)] at c1
      rw [Nat.zero_add, cell_of_row w g _ cur _ (0, 0) hg, ← c1]
      simp
    have key0 := key 0 (by omega)
    rw [Nat.add_zero] at key0
    exact ⟨key0, key 1 (by omega), key 2 (by omega), key 3 (by omega), key 4 (by omega), key 5 (by omega), key 6 (by omega), key 7 (by omega)⟩
theorem OwnC.kept {w w' : World} {B : Nat} {v : Value} {l : List Cl} (h : OwnC w B v l) (hb : Below w.heap.size w w') : OwnC w' B v l := own_kept h hb
theorem OwnC.mono {w : World} {B B' : Nat} {v : Value} {l : List Cl} (h : OwnC w B v l) (hB : B' ≤ B) : OwnC w B' v l := own_mono h hB
theorem OwnC.lt {w : World} {B : Nat} {v : Value} {l : List Cl} (h : OwnC w B v l) : ∀ k, v.ownBlock = some k → B ≤ k ∧ k < w.heap.size := World.ownsRow.lt h
theorem Tryd.infoC : (Tryd.prog.info? 50).map (fun i => (i.zero, i.size, i.bytes)) = some (some (.agg #[.int .i64 0, .int .i64 0, .int .i64 0, .int .i64 0, .bool false, .string ⟨#[]⟩, .int .i64 0, .int .i64 0]), 8, 72) := by kernel_rfl
/-- append(v, c), v of the call's own. -/
theorem wpList_append_cell {w : World} {ops : Array Oper} {rest : List Oper} {o : Oper} {ac : Act} {Q : Exit → Act → World → Prop} (hgd : o.guard = none) (os ox : Operand)
    (ho : o.op = .call { callee := .builtin .append, args := #[os, ox], argTypes := #[23, 23] })
    {base : Nat} {v : Value} {l : List Cl} (hs : ac.eval os = v) (hown : OwnC w base v l) (n s a b : Int) (g : Bool) (t : List UInt8) (d e : Int) {e9 : TypeId}
    (hx : ac.eval ox = .slice (some ⟨w.heap.size, 0, none⟩) 1 1) (h63 : l.length ≤ 1000000000) (hbase : base ≤ w.heap.size)
    (h : ∀ v' w', OwnC w' base v' (l ++ [⟨n, s, a, b, g, t, d, e⟩]) → (w.alloc (.cells #[.int .i64 n, .int .i64 s, .int .i64 a, .int .i64 b, .bool g, .string (text t), .int .i64 d, .int .i64 e] e9)).grownBy w' v.ownBlock → wpList Tryd.prog ops Q rest (ac.put o.dst v') w') :
    wpList Tryd.prog ops Q (o :: rest) ac (w.alloc (.cells #[.int .i64 n, .int .i64 s, .int .i64 a, .int .i64 b, .bool g, .string (text t), .int .i64 d, .int .i64 e] e9)) := by
  obtain ⟨i0, hi, hz0, hz1, hz2⟩ := info_parts Tryd.infoC
  refine wpList_append_own_wide (P := Tryd.prog) (w.alloc (.cells #[.int .i64 n, .int .i64 s, .int .i64 a, .int .i64 b, .bool g, .string (text t), .int .i64 d, .int .i64 e] e9)) hgd os ox 23 ho base 50 i0 _ 8 72 Tryd.underlying23 hi hz0 hz1 hz2 rfl (by decide) v l.length (cCells l) hs (World.ownsRow.alloc hown _)
    ⟨w.heap.size, 0, none⟩ 1 1 [.int .i64 n, .int .i64 s, .int .i64 a, .int .i64 b, .bool g, .string (text t), .int .i64 d, .int .i64 e] hx rfl ?_ ?_ (by unfold maxLen; omega) (by omega) (by simp; omega) ?_
  · intro j u hj
    rw [addr_add, Nat.zero_add, cell_of_row _ _ j #[.int .i64 n, .int .i64 s, .int .i64 a, .int .i64 b, .bool g, .string (text t), .int .i64 d, .int .i64 e] e9 (0, 0) (by rw [heap_alloc_new])]
    rw [← hj]; simp
  · intro u hu
    simp only [List.mem_cons, List.not_mem_nil, or_false] at hu
    rcases hu with rfl | rfl | rfl | rfl | rfl | rfl | rfl | rfl <;> rfl
  · intro v' w' h2 h3 _
    refine h v' w' ?_ h3
    unfold OwnC
    rw [List.length_append, cCells_append]
    exact h2

end Go.Proofs.YtkjpmdpljdgcjaaDoor
end

section
/-
  A REGION THAT DRAWS ITS ORDER INSIDE A FENCE (in a round of a range over a function, or in its iterator): the head's operations are told once each, whatever relation of worlds outlasts them; a forced tail stands behind it. No program is named here.
-/
namespace Go.Proofs.YtkjpmdpljdgcjaaDoor
open Go Go.RowKit
set_option linter.unusedVariables false

section
variable {F : Fence} {m : Nat} {P : Program} {ops : Array Oper} {md : Region.Mode}

theorem uponIn_weak {o : Oper} {a : Act} {K K' : Act → World → Prop} {Q Q' : Exit → Act → World → Prop} (hK : ∀ a w, K a w → K' a w) (hQ : ∀ e a w, Q e a w → e = .normal) (r : Result Next) (h : o.uponIn F m P a K Q r) : o.uponIn F m P a K' Q' r := by
  cases r with
  | ok x w' =>
    cases x with
    | value v => exact hK _ _ h
    | skip => exact hK _ _ h
    | defer d => exact hK _ _ h
    | enter f args => 
      refine ⟨h.1, CallsIn.mono h.2 fun e w'' he => ?_⟩
      cases e with
      | returned v => exact hK _ _ he
      | panicked c => exact absurd (hQ _ _ _ he) (by simp)
      | outgrown => exact absurd (hQ _ _ _ he.choose_spec.choose_spec) (by simp)
    | row r args => exact ⟨h.1, RowsIn.mono h.2 fun v w'' he => hK _ _ he⟩
    | round l f tmps assign body => 
      refine ⟨h.1, RoundIn.mono h.2 fun e w'' he => ?_⟩
      cases e with
      | returned v => exact hK _ _ he
      | panicked c => exact absurd (hQ _ _ _ he) (by simp)
      | outgrown => exact absurd (hQ _ _ _ he.choose_spec.choose_spec) (by simp)
    | _ => exact h
  | halt x w' =>
    cases x with
    | panic v => exact absurd (hQ _ _ _ h) (by simp)
    | _ => exact h
theorem wpOpIn_of_one {i : Nat} {o : Oper} {a : Act} {w : World} {K : Act → World → Prop} {Q Q' : Exit → Act → World → Prop} (ho : ops[i]? = some o) (hK : ∀ a w, Q' .normal a w → K a w) (hQ : ∀ e a w, Q' e a w → e = .normal)
    (h : wpListIn F m P ops Q' [o] a w) : wpOpIn F m P ops Q i K a w := by
  unfold wpOpIn
  simp only [ho]
  unfold wpListIn at h
  split
  · rename_i hw
    rw [if_pos hw] at h
    exact ⟨h.1, uponIn_weak (fun a w h => hK a w h) hQ _ h.2⟩
  · rename_i hw
    rw [if_neg hw] at h
    exact ⟨h.1, hK _ _ h.2⟩
theorem wpAnyIn_of_seq {n : Nat} {Q' : Exit → Act → World → Prop} : ∀ (l : List Oper) (k : Nat) (listed : Array Bool) (a : Act) (w : World), (∀ j, l[j]? = ops[k + j]?) →
    Region.seqB md ops l.length k listed = true → wpListIn F n P ops Q' l a w → wpAnyIn F n P md ops Q' l.length listed a w
  | [], _, _, _, _, _, hB, h => ⟨by simpa [Region.seqB] using hB, h⟩
  | o :: l, k, listed, a, w, hl, hB, h => by
    have h0 : ops[k]? = some o := by simpa using (hl 0).symm
    simp only [List.length_cons, Region.seqB, Bool.and_eq_true, decide_eq_true_eq] at hB
    refine ⟨fun h1 => (by rw [hB.1] at h1; cases h1), fun i hi => ?_⟩
    rw [hB.1] at hi
    have hik : i = k := by simpa using hi
    subst hik
    have hw : wpOpIn F n P ops Q' i (wpListIn F n P ops Q' l) a w := by unfold wpOpIn; simp only [h0]; exact h
    exact wpOpIn_mono (fun a' w' h' => wpAnyIn_of_seq l (i + 1) _ a' w' (fun j => by have := hl (j + 1); simpa [Nat.add_assoc, Nat.add_comm 1 j] using this) hB.2 h') hw

theorem wpAnyIn_flow_tail {Q : Exit → Act → World → Prop} (act : (Nat → Value) → Act) (R : World → World → Prop) (G : Nat → Value → World → Prop) (Fr : Nat → Prop) (w0 : World) (n : Nat) (l : List Oper) (hl : l.toArray = ops)
    (hn : n < ops.size) (hs : Region.sinkB md ops n = true) (hc : Region.chainB md ops n = true) (hseq : Region.seqB md ops (ops.size - n) n (headDone n (ops.size - n)) = true)
    (hR : ∀ a b c, R a b → R b c → R a c) (hG : ∀ i v w w', R w0 w → R w w' → G i v w → G i v w')
    (hwf : ∀ i o, ops[i]? = some o → i < n → ∀ e ∈ o.after, Region.binds md e = true → e.on < i)
    (hput : ∀ i o xs v, ops[i]? = some o → i < n → (act xs).put o.dst v = act (fun j => if j = i then v else xs j))
    (hop : ∀ i o, ops[i]? = some o → i < n → ∀ xs w, R w0 w → (∀ e ∈ o.after, Region.binds md e = true → G e.on (xs e.on) w) → wpListIn F m P ops (FlowEndF (act xs) o R G Fr i w) [o] (act xs) w)
    (hend : ∀ xs w, R w0 w → (∀ i, i < n → G i (xs i) w) → (∀ i j, i < n → j < n → i ≠ j → Fr i → Fr j → xs i ≠ xs j) → wpListIn F m P ops Q (l.drop n) (act xs) w) :
    ∀ (f : Nat) (listed : Array Bool) (xs : Nat → Value) (w : World), R w0 w → HeadInv md ops n listed → listed.toList.count false = f → (∀ i, i < n → listed.getD i true = true → G i (xs i) w) →
      (∀ i j, i < n → j < n → i ≠ j → Fr i → Fr j → listed.getD i true = true → listed.getD j true = true → xs i ≠ xs j) → wpAnyIn F m P md ops Q f listed (act xs) w := by
  intro f
  induction f with
  | zero =>
    intro listed xs w hw inv hcn hg hfr
    exfalso
    have hsz := inv.size
    have h1 := inv.tail n (Nat.le_refl _) hn
    have h2 : n < listed.size := by omega
    simp only [Array.getD_eq_getD_getElem?, Array.getElem?_eq_getElem h2, Option.getD_some] at h1
    have : false ∈ listed.toList := by rw [← h1]; simp
    have := List.count_pos_iff.2 this
    omega
  | succ f ih =>
    intro listed xs w hw inv hcn hg hfr
    have hsz := inv.size
    by_cases hall : ∀ i, i < n → listed.getD i true = true
    · have hd := headDone_of hn inv hall
      have hcount : (headDone n (ops.size - n)).toList.count false = ops.size - n := by
        simp [headDone, List.count_replicate]
      rw [hd, hcount] at hcn
      have hlen : (l.drop n).length = ops.size - n := by rw [← hl]; simp
      have := wpAnyIn_of_seq (F := F) (n := m) (P := P) (md := md) (ops := ops) (Q' := Q) (l.drop n) n (headDone n (ops.size - n)) (act xs) w (fun j => by rw [← hl]; simp [List.getElem?_drop]) (by rw [hlen]; exact hseq) (hend xs w hw (fun i hi => hg i hi (hall i hi)) fun i j hi hj hne fi fj => hfr i j hi hj hne fi fj (hall i hi) (hall j hj))
      rw [hlen] at this
      rw [hd]
      rw [hcn] at this ⊢
      exact this
    · have hex : ∃ i, i < n ∧ listed.getD i true = false := by
        apply Classical.byContradiction
        intro hne
        apply hall
        intro i hi
        cases hx : listed.getD i true with
        | true => rfl
        | false => exact absurd ⟨i, hi, hx⟩ hne
      refine ⟨fun hr => ?_, fun i hi => ?_⟩
      · exfalso
        apply hall
        intro i
        induction i using Nat.strongRecOn with
        | _ i ihi =>
          intro hi
          cases hlx : listed.getD i true with
          | true => rfl
          | false =>
            have hio : i < ops.size := by omega
            have : i ∈ Region.ready md ops listed := by
              refine mem_ready.2 ⟨hlx, ops[i], by simp [hio], fun e he hb => ?_⟩
              have hlt := hwf i ops[i] (by simp [hio]) hi e he hb
              have h1 := ihi e.on hlt (by omega)
              have h2 : e.on < listed.size := by omega
              simp only [Array.getD_eq_getD_getElem?, Array.getElem?_eq_getElem h2, Option.getD_some] at h1 ⊢
              exact h1
            rw [hr] at this
            cases this
      · obtain ⟨i0, hi0, hx0⟩ := hex
        have hin : i < n := Nat.lt_of_not_le fun h => tail_waits hs hc hn inv (n - i0) i0 rfl hi0 hx0 i h hi
        obtain ⟨hun, o, ho, hdep⟩ := mem_ready.1 hi
        have hilt := (Array.getElem?_eq_some_iff.1 ho).1
        refine wpOpIn_of_one ho (fun a' w' h => ?_) (fun e a' w' h => h.1) (hop i o ho hin xs w hw fun e he hb => ?_)
        · obtain ⟨_, v, rfl, hww, hv, hfv⟩ := h
          rw [hput i o xs v ho hin]
          refine ih _ _ w' (hR _ _ _ hw hww) (inv.set hi hin) ?_ (fun j hj hlj => ?_) fun j k hj hk hne fj fk lj lk => ?_
          · have h2 : i < listed.size := by omega
            have h3 : listed[i] = false := by simpa [Array.getD_eq_getD_getElem?, Array.getElem?_eq_getElem h2] using hun
            have := count_set_one listed.toList i (by simp [h2, h3])
            rw [Array.toList_setIfInBounds]
            omega
          · by_cases hji : j = i
            · subst hji
              simpa using hv
            · rw [getD_set_ne true (Ne.symm hji)] at hlj
              simp only [if_neg hji]
              exact hG j _ w w' hw hww (hg j hj hlj)
          · by_cases hji : j = i
            · subst hji
              rw [getD_set_ne true hne] at lk
              simp only [if_neg (Ne.symm hne)]
              exact (hfv fj k fk _ (hg k hk lk)).symm
            · rw [getD_set_ne true (Ne.symm hji)] at lj
              by_cases hki : k = i
              · subst hki
                simp only [if_neg hne]
                exact hfv fk j fj _ (hg j hj lj)
              · rw [getD_set_ne true (Ne.symm hki)] at lk
                simp only [if_neg hji, if_neg hki]
                exact hfr j k hj hk hne fj fk lj lk
        · have h1 := hdep e he hb
          have hlt := hwf i o ho hin e he hb
          refine hg e.on (by omega) ?_
          have h3 : e.on < listed.size := by omega
          simp only [Array.getD_eq_getD_getElem?, Array.getElem?_eq_getElem h3, Option.getD_some] at h1 ⊢
          exact h1

def flowOpsI (F : Fence) (m : Nat) (P : Program) (md : Region.Mode) (ops : Array Oper) (a : Act) (srcs : List (Option Nat)) (Gs : List (Value → World → Prop)) (Fr : Nat → Prop) (R : World → World → Prop) (w0 : World) : List Oper → Nat → Prop
  | [], _ => True
  | o :: l, k => (∀ xs w, R w0 w → flowNeeds md Gs xs w o.after.toList → wpListIn F m P ops (FlowEndF (flowAct a srcs xs) o R (fun i => Gs.getD i fun _ _ => True) Fr k w) [o] (flowAct a srcs xs) w) ∧ flowOpsI F m P md ops a srcs Gs Fr R w0 l (k + 1)
theorem flowOpsI_get {a : Act} {srcs : List (Option Nat)} {Gs : List (Value → World → Prop)} {Fr : Nat → Prop} {R : World → World → Prop} {w0 : World} : ∀ (l : List Oper) (k : Nat), flowOpsI F m P md ops a srcs Gs Fr R w0 l k → ∀ i o, l[i]? = some o →
    ∀ xs w, R w0 w → flowNeeds md Gs xs w o.after.toList → wpListIn F m P ops (FlowEndF (flowAct a srcs xs) o R (fun i => Gs.getD i fun _ _ => True) Fr (k + i) w) [o] (flowAct a srcs xs) w
  | [], _, _, i, o, h => by simp at h
  | o' :: l, k, hh, 0, o, h => by
    obtain rfl : o' = o := by simpa using h
    exact hh.1
  | o' :: l, k, hh, i + 1, o, h => by
    have := flowOpsI_get l (k + 1) hh.2 i o (by simpa using h)
    rwa [show k + 1 + i = k + (i + 1) by omega] at this

theorem wpIn_region_flow {id : Nat} {Q : Exit → Act → World → Prop} {l : List Oper} {a : Act} {w : World} (R : World → World → Prop) (n : Nat) (srcs : List (Option Nat)) (xs0 : Nat → Value) (Gs : List (Value → World → Prop)) (Fr : Nat → Prop) (hm : P.follows .mixedOrders = true)
    (hB : flowTB .any l.toArray n srcs = true) (hT : (decide (n < l.toArray.size) && Region.sinkB .any l.toArray n && Region.chainB .any l.toArray n && Region.seqB .any l.toArray (l.toArray.size - n) n (headDone n (l.toArray.size - n))) = true)
    (hl : a.tmps.size = srcs.length) (h0 : flowAct a srcs xs0 = a) (hn : Gs.length = n)
    (hR : ∀ a b c, R a b → R b c → R a c) (hR0 : R w { w with drawn := w.drawn + 1 }) (hG : ∀ g ∈ Gs, ∀ v x y, R w x → R x y → g v x → g v y)
    (hops : flowOpsI F m P .any l.toArray a srcs Gs Fr R w (l.take n) 0)
    (hend : ∀ xs w', R w w' → flowAll xs w' Gs 0 → (∀ i j, i < n → j < n → i ≠ j → Fr i → Fr j → xs i ≠ xs j) → wpListIn F m P l.toArray Q (l.drop n) (flowAct a srcs xs) w') : (Code.region id l.toArray true).wpIn F m P Q a w := by
  simp only [Bool.and_eq_true, decide_eq_true_eq] at hT
  obtain ⟨⟨⟨t1, t2⟩, t3⟩, t4⟩ := hT
  have hB' := flowTB_take hB
  have tk : ∀ i o, l.toArray[i]? = some o → i < n → (l.take n).toArray[i]? = some o := fun i o ho hi => by
    simp only [List.getElem?_toArray] at ho ⊢
    rw [List.getElem?_take, if_pos hi]
    exact ho
  refine wpIn_region_any hm ?_
  have := wpAnyIn_flow_tail (F := F) (m := m) (P := P) (ops := l.toArray) (md := .any) (Q := Q) (flowAct a srcs) R (fun i => Gs.getD i fun _ _ => True) Fr w n l rfl t1 t2 t3 t4
    hR (fun i v x y h1 h2 h3 => ?_) (fun i o ho hi => (flowB_spec hB' (tk i o ho hi)).1) (fun i o xs v ho hi => flowAct_put hB' hl (tk i o ho hi) xs v)
    (fun i o ho hi xs x hx hn => by
      have := flowOpsI_get (l.take n) 0 hops i o (by simpa using tk i o ho hi) xs x hx (flowNeeds_of _ fun e he hb => hn e (by simpa using he) hb)
      rwa [Nat.zero_add] at this)
    (fun xs x hx hg hf => hend xs x hx (flowAll_of Gs 0 fun i hi => by rw [Nat.zero_add]; exact hg i (by omega)) hf)
    l.toArray.size (Array.replicate l.toArray.size false) xs0 { w with drawn := w.drawn + 1 } hR0
    ⟨by simp, fun j oj hj hl => (by rw [getD_replicate_false] at hl; cases hl), fun t _ ht => by
      rw [Array.getD_eq_getD_getElem?, Array.getElem?_eq_getElem (by simpa using ht)]; simp⟩ (by simp) (fun i hi hl => by
      exfalso
      rw [Array.getD_eq_getD_getElem?, Array.getElem?_eq_getElem (by simp at t1 ⊢; omega)] at hl
      simp at hl) (fun i j hi hj hne fi fj li lj => by
      exfalso
      rw [Array.getD_eq_getD_getElem?, Array.getElem?_eq_getElem (by simp at t1 ⊢; omega)] at li
      simp at li)
  · rwa [h0] at this
  · by_cases hi : i < Gs.length
    · have hm := List.getElem_mem hi
      rw [List.getD_eq_getElem?_getD, List.getElem?_eq_getElem hi] at h3 ⊢
      exact hG _ hm v x y h1 h2 h3
    · rw [List.getD_eq_getElem?_getD, List.getElem?_eq_none (by omega)]
      trivial
end
end Go.Proofs.YtkjpmdpljdgcjaaDoor
end

section
/-
  A RANGE OVER A FUNCTION WHOSE ITERATOR MAKES WHAT IT HANDS OVER: the iterator's word may speak of the world behind it, and it may ask that a round goes on only where the value lets it. After the library's law for a loop whose variables are boxed (Derived.RangeFuncNested).
-/
namespace Go.Proofs.YtkjpmdpljdgcjaaDoor
open Go.RowKit Go
set_option linter.unusedVariables false
variable {F : Fence} {n : Nat} {P : Program}

/-- What a round tells the iterator. -/
def TellsR {α : Type} (Kp : World → World → Prop) (G : α → Prop) (J Jx : List α → World → Prop) (pre : List α) (x : α) (W : World) (e : Ending) (W' : World) : Prop :=
  (e = .returned (.bool true) ∧ J (pre ++ [x]) W' ∧ Kp W W' ∧ G x) ∨ (e = .returned (.bool false) ∧ Jx (pre ++ [x]) W' ∧ Kp W W')

/-- What abides an iterator's steps: it turns walks, and cells of type T, that were laid since it began. -/
def AbidesC {β : Type} (B : Nat) (T : TypeId) (J : β → World → Prop) : Prop :=
  ∀ s W W' row, J s W → W.grownBy W' row → (∀ r, row = some r → B ≤ r ∧ ∃ o : Obj, W.heap[r]? = some o ∧ (o.isWalk = true ∨ ∃ cs fr, o = .cells cs T fr)) → J s W'
def OwnT {β : Type} (B : Nat) (T : TypeId) (I : β → World → Prop) : Prop :=
  ∀ s W W' row, I s W → W.grownBy W' row → (∀ r, row = some r → B ≤ r ∧ ∃ o : Obj, W.heap[r]? = some o ∧ (o.isCells = false ∨ ∃ cs fr, o = .cells cs T fr)) → I s W'
theorem OwnT.from {β : Type} {B : Nat} {T : TypeId} {I : β → World → Prop} (h : OwnT B T I) : OwnFrom B I :=
  fun s W W' row hs hg hr => h s W W' row hs hg (fun r e => by obtain ⟨hB, o, ho, hc⟩ := hr r e; exact ⟨hB, o, ho, .inl hc⟩)
/-- The iterator's word. -/
def SeqTells {α : Type} (F : Fence) (n : Nat) (P : Program) (T : TypeId) (g : Nat) (lb : Array Value) (encs : α → Array Value) (Kp : World → World → Prop) (Qx : List α → α → Prop) (G : α → Prop) (S Sp : List α → World → Prop) (w : World) : Prop :=
  ∀ (l : Nat) (J Jx : List α → World → Prop) (W : World), Below w.heap.size w W → AbidesC W.heap.size T J →
    (∀ pre x W1, J pre W1 → Qx pre x → YieldAt F (n - 1) P l (encs x) W1 (TellsR Kp G J Jx pre x W1)) → J [] W →
    CallsIn F n P g (#[.func (.yield l) #[] #[]] ++ lb) W fun e W' => (∃ v, e = .returned v) ∧ ((∃ xs, S xs W' ∧ J xs W') ∨ (∃ pre, Sp pre W' ∧ Jx pre W'))

/-- How the body of a round may be left. -/
def RoundPost {α : Type} (B : Nat) (Kp : World → World → Prop) (G : α → Prop) (I : List α → World → Prop) (Ix : Code → List α → World → Prop) (pre : List α) (x : α) (W : World) : Exit → Act → World → Prop
  | .normal, _, W' => KeepsFrom B W W' ∧ Kp W W' ∧ G x ∧ I (pre ++ [x]) W'
  | .ret, _, W' => KeepsFrom B W W' ∧ Kp W W' ∧ Ix .ret (pre ++ [x]) W'
  | .exit id, _, W' => KeepsFrom B W W' ∧ Kp W W' ∧ Ix (.exit id) (pre ++ [x]) W'
  | .goto t, _, W' => KeepsFrom B W W' ∧ Kp W W' ∧ Ix (.goto t) (pre ++ [x]) W'
  | .panic _, _, _ => False
  | .outgrown, _, _ => False

theorem wpIn_range_tells {α : Type} {g : Operand} {ps : Array Tmp} {assign body : Code} {Q : Exit → Act → World → Prop} {a : Act} {w : World}
    (hro : F.round = none) (h1 : 1 ≤ n) {gf : Nat} {lb : Array Value} (hg : a.eval g = .func (.func gf) #[] lb) (hFg : F.fn gf) (eg : ∀ args w, (callFunc gf args).run P w = .ok (.enter gf args) w)
    {encs : α → Array Value} {Kp : World → World → Prop} {Qx : List α → α → Prop} {G : α → Prop} {S Sp : List α → World → Prop} {T : TypeId} (hseq : SeqTells F (n - 1) P T gf lb encs Kp Qx G S Sp w)
    (hKt : ∀ {A B C : World}, Kp A B → Kp B C → Kp A C) (hKb : ∀ (W : World) (l : Nat) (o o' : Obj), w.heap.size ≤ l → W.heap[l]? = some o → o.isCells = false → o.isWalk = false → Kp W (W.putObj l o'))
    (hS : OwnFrom w.heap.size S) (hSp : OwnFrom w.heap.size Sp) (hps : ∀ x, (encs x).size = ps.size)
    (I : List α → World → Prop) (Ix : Code → List α → World → Prop) (hI : OwnT w.heap.size T I) (hIx : ∀ c, OwnFrom w.heap.size (Ix c)) (h0 : I [] w) (Ax : α → Act → World → Prop) (hAx : ∀ x a', OwnFrom w.heap.size (fun (_ : Unit) W => Ax x a' W))
    (hassign : ∀ (l : Nat) (pre : List α) (x : α) (W : World) (K : Act → World → Prop), I pre W → Qx pre x → (∀ a' W', KeepsFrom w.heap.size W W' → Kp W W' → I pre W' → Ax x a' W' → K a' W') →
      assign.wpIn (F.inRound l) (n - 1 - 1) P (Exit.then K (fun _ _ _ => False)) { tmps := (ps.zip (encs x)).foldl (fun t (p, v) => t.setIfInBounds p v) a.tmps, defers := [] } W)
    (hbody : ∀ (l : Nat) (pre : List α) (x : α) (a' : Act) (W : World), I pre W → Ax x a' W → Qx pre x → body.wpIn (F.inRound l) (n - 1 - 1) P (RoundPost w.heap.size Kp G I Ix pre x W) a' W)
    (hdone : ∀ (D : Nat) (xs : List α) (W : World), w.heap.size ≤ D → S xs W → I xs W → W.heap[D]? = some (.deferred (some [])) → Q .normal { a with defers := { target := .collected D, args := #[] } :: a.defers } W)
    (hstop : ∀ (D : Nat) (c : Code) (pre : List α) (W : World), w.heap.size ≤ D → Sp pre W → Ix c pre W → W.heap[D]? = some (.deferred (some [])) → c.wpIn F n P Q { a with defers := { target := .collected D, args := #[] } :: a.defers } W) :
    (Code.rangeFunc g ps assign body).wpIn F n P Q a w := by
  refine wpIn_rangeFunc fun fn hfn => ?_
  rw [hro]
  obtain ⟨rec, hrec⟩ : ∃ rec : LoopState → Option Code → Loop, rec = fun st pe => { state := st, pending := pe, fn, tmps := a.tmps, params := ps, assign, body, defers := w.heap.size } := ⟨_, rfl⟩
  obtain ⟨W1, hW1⟩ : ∃ W1, (w.alloc (.deferred (some []))).alloc (.loop (rec .ready none)) = W1 := ⟨_, rfl⟩
  have hL1 : W1.heap[w.heap.size + 1]? = some (.loop (rec .ready none)) := by
    rw [← hW1]; have := World.alloc_heap_new (w.alloc (.deferred (some []))) (.loop (rec .ready none)); rwa [World.size_alloc] at this
  have hK1 : W1.heap[w.heap.size]? = some (.deferred (some [])) := by
    rw [← hW1]; exact (Below.heap_alloc _ _ _ (by simp)).trans (World.alloc_heap_new w _)
  have hI1 : I [] W1 := by rw [← hW1]; exact hI.from.alloc _ (hI.from.alloc _ h0)
  have hb1 : Below w.heap.size w W1 := by
    rw [← hW1]; exact ((Below.refl _ w).alloc (Nat.le_refl _) _).alloc (by simp) _
  refine ⟨w.heap.size + 1, [{ target := .collected w.heap.size, args := #[] }], W1, { target := .fn (.func gf) lb, args := #[.func (.yield (w.heap.size + 1)) #[] #[]] }, W1, gf,
    #[.func (.yield (w.heap.size + 1)) #[] #[]] ++ lb, W1, ?_, ?_, ?_, ?_, fun _ => h1, ?_⟩
  · rw [← hW1, hrec]; exact run_enterLoop_outer _ _ _ _ _
  · simp only [resolve, hg]
    simp [go_sem]
  · intro f' hf'; simp [Target.leads] at hf'; subst hf'; exact hFg
  · simp [invoke, go_sem, eg]
  have hnw : ∀ {A B : World} {row : Option Nat}, (∀ r, row = some r → W1.heap.size ≤ r ∧ ∃ o : Obj, A.heap[r]? = some o ∧ (o.isWalk = true ∨ ∃ cs fr, o = .cells cs T fr)) → (∀ r, row = some r → w.heap.size ≤ r ∧ ∃ o : Obj, A.heap[r]? = some o ∧ (o.isCells = false ∨ ∃ cs fr, o = .cells cs T fr)) :=
    fun hr r e => by obtain ⟨hB, o, ho, hw⟩ := hr r e; exact ⟨by have := hb1.size; omega, o, ho, hw.imp_left Obj.not_cells_of_walk⟩
  have hloop : ∀ {A B : World} {row : Option Nat} {k : Nat} {o : Obj}, A.grownBy B row → (∀ r, row = some r → W1.heap.size ≤ r ∧ ∃ o : Obj, A.heap[r]? = some o ∧ (o.isWalk = true ∨ ∃ cs fr, o = .cells cs T fr)) → A.heap[k]? = some o → o.isWalk = false → o.isCells = false → B.heap[k]? = some o :=
    fun hg hr hk h1 h2 => (hg.block _ (Array.getElem?_eq_some_iff.1 hk).1 (fun e => by
      obtain ⟨_, o', ho, hc⟩ := hr _ e.symm
      rw [hk] at ho
      cases ho
      rcases hc with hc | ⟨cs, fr, hc⟩
      · rw [hc] at h1; cases h1
      · rw [hc] at h2; cases h2)).trans hk
  refine (hseq (w.heap.size + 1)
    (fun pre W => I pre W ∧ W.heap[w.heap.size + 1]? = some (.loop (rec .ready none)) ∧ W.heap[w.heap.size]? = some (.deferred (some [])))
    (fun pre W => ∃ c, Ix c pre W ∧ W.heap[w.heap.size + 1]? = some (.loop (rec .done (some c))) ∧ W.heap[w.heap.size]? = some (.deferred (some [])))
    W1 hb1
    (fun s A B row hs hg' hr => ⟨hI s A B row hs.1 hg' (hnw (B := B) hr), hloop hg' hr hs.2.1 rfl rfl, hloop hg' hr hs.2.2 rfl rfl⟩)
    ?_ ⟨hI1, hL1, hK1⟩).mono ?_
  · -- one round
    rintro pre x W ⟨hi, hl, hk⟩ hqx
    have hy := run_yield (P := P) (args := encs x) hl (by rw [hrec]; exact hps x)
    rw [hrec] at hy
    refine ⟨fn, _, assign, body, hy, roundIn_of_wpIn hfn (hassign _ pre x W _ hi hqx ?_)⟩
    clear hy
    intro a' Wa hkfa hkpa hia hax
    have hla := hkfa.same _ _ (by omega) hl rfl
    have hka := hkfa.same _ _ (Nat.le_refl _) hk rfl
    have hlt : w.heap.size + 1 < Wa.heap.size := (Array.getElem?_eq_some_iff.1 hla).1
    refine ⟨_, run_beginRound hla (by rw [hrec]), ?_⟩
    obtain ⟨Wb, hWb⟩ : ∃ Wb, Wa.putObj (w.heap.size + 1) (.loop { rec .ready none with state := .busy }) = Wb := ⟨_, rfl⟩
    have hlb : Wb.heap[w.heap.size + 1]? = some (.loop { rec .ready none with state := .busy }) := by rw [← hWb]; exact World.putObj_heap_same hlt
    have hkb : Wb.heap[w.heap.size]? = some (.deferred (some [])) := by rw [← hWb]; exact (World.putObj_heap_other (by omega)).trans hka
    have hwb : Kp W Wb := hKt hkpa (by rw [← hWb]; exact hKb _ _ _ _ (by omega) hla rfl rfl)
    have hib : I pre Wb := by rw [← hWb]; exact hI.from.putObj _ hia (by omega) hla rfl
    have hab : Ax x a' Wb := by rw [← hWb]; exact (hAx x a').putObj (s := ()) _ hax (by omega) hla rfl
    rw [hWb]
    refine wpIn_mono (hbody _ pre x a' Wb hib hab hqx) ?_
    have fin : ∀ (jump : Option Code) (W3 : World), KeepsFrom w.heap.size Wb W3 → Kp Wb W3 →
        ∃ W4, (Instr.endRound (w.heap.size + 1) jump).run P W3 = .ok (.bool jump.isNone) W4 ∧ W4 = W3.putObj (w.heap.size + 1) (.loop (rec (if jump.isNone then .ready else .done) jump)) ∧
        W3.heap[w.heap.size + 1]? = some (.loop { rec .ready none with state := .busy }) ∧
        W4.heap[w.heap.size + 1]? = some (.loop (rec (if jump.isNone then .ready else .done) jump)) ∧ W4.heap[w.heap.size]? = some (.deferred (some [])) ∧ Kp W W4 := fun jump W3 hk3 hp3 => by
      have hl3 := hk3.same _ _ (by omega) hlb rfl
      have hr := run_endRound (P := P) jump hl3
      rw [hrec] at hr
      refine ⟨_, hr, by rw [hrec], hl3, ?_, ?_, hKt hwb (hKt hp3 (hKb _ _ _ _ (by omega) hl3 rfl rfl))⟩
      · rw [hrec]; exact World.putObj_heap_same (Array.getElem?_eq_some_iff.1 hl3).1
      · exact (World.putObj_heap_other (by omega)).trans (hk3.same _ _ (Nat.le_refl _) hkb rfl)
    have leaves : ∀ (c : Code) (W3 : World), KeepsFrom w.heap.size Wb W3 → Kp Wb W3 → Ix c (pre ++ [x]) W3 → ∃ v W4, (Instr.endRound (w.heap.size + 1) (some c)).run P W3 = .ok v W4 ∧
        TellsR Kp G (fun pre W => I pre W ∧ W.heap[w.heap.size + 1]? = some (.loop (rec .ready none)) ∧ W.heap[w.heap.size]? = some (.deferred (some [])))
          (fun pre W => ∃ c, Ix c pre W ∧ W.heap[w.heap.size + 1]? = some (.loop (rec .done (some c))) ∧ W.heap[w.heap.size]? = some (.deferred (some []))) pre x W (.returned v) W4 := fun c W3 hk3 hp3 hi3 => by
      obtain ⟨W4, hr, rfl, hl3, hl4, hk4, hp4⟩ := fin (some c) W3 hk3 hp3
      exact ⟨_, _, hr, .inr ⟨rfl, ⟨c, (hIx _).putObj _ hi3 (by omega) hl3 rfl, hl4, hk4⟩, hp4⟩⟩
    rintro e a3 W3 hp
    cases e with
    | normal =>
      obtain ⟨hk3, hp3, hgx, hi3⟩ := hp
      obtain ⟨W4, hr, rfl, hl3, hl4, hk4, hp4⟩ := fin none W3 hk3 hp3
      exact ⟨_, _, hr, .inl ⟨rfl, ⟨hI.from.putObj _ hi3 (by omega) hl3 rfl, hl4, hk4⟩, hp4, hgx⟩⟩
    | ret => exact leaves .ret W3 hp.1 hp.2.1 hp.2.2
    | exit id => exact leaves (.exit id) W3 hp.1 hp.2.1 hp.2.2
    | goto t => exact leaves (.goto t) W3 hp.1 hp.2.1 hp.2.2
    | panic ch => exact hp.elim
    | outgrown => exact hp.elim
  · -- behind the iterator
    rintro e W2 ⟨⟨v, rfl⟩, (⟨xs, hSx, hi, hl, hk⟩ | ⟨pre, hSx, c, hi, hl, hk⟩)⟩
    · exact ⟨none, _, by have := run_endLoop (P := P) hl (by rw [hrec]; simp); rw [hrec] at this; exact this, hdone _ xs _ (Nat.le_refl _) (hS.putObj _ hSx (by omega) hl rfl) (hI.from.putObj _ hi (by omega) hl rfl) ((World.putObj_heap_other (by omega)).trans hk)⟩
    · exact ⟨some c, _, by have := run_endLoop (P := P) hl (by rw [hrec]; simp); rw [hrec] at this; exact this, hstop _ c pre _ (Nat.le_refl _) (hSp.putObj _ hSx (by omega) hl rfl) ((hIx c).putObj _ hi (by omega) hl rfl) ((World.putObj_heap_other (by omega)).trans hk)⟩
end Go.Proofs.YtkjpmdpljdgcjaaDoor
end

section
/-
  Join: cells that may be, and their joins, as plain mathematics.
-/
namespace Go.Proofs.YtkjpmdpljdgcjaaDoor
open Go.RowKit Go Go.Sort
set_option linter.unusedVariables false
set_option maxRecDepth 20000

theorem wrote_no {c : Cl} (h : c.wrote = false) : c.key = Cl.zero.key := by
  obtain ⟨n, s, a, b, g, t, d, e⟩ := c
  simp [Cl.wrote, wroteS] at h
  obtain ⟨rfl, rfl, rfl, rfl, rfl, rfl⟩ := h
  rfl
theorem wrote_key {x y : Cl} (h : x.key = y.key) : x.wrote = y.wrote := by
  obtain ⟨n, s, a, b, g, t, d, e⟩ := x
  obtain ⟨n', s', a', b', g', t', d', e'⟩ := y
  simp [Cl.key] at h
  obtain ⟨⟨rfl, rfl⟩, rfl, rfl, rfl, rfl⟩ := h
  rfl
/-- What is asked of a write, by a policy. -/
def Cl.gw (p : Int) (c : Cl) : Bool := (!(p == 2) || !c.g) && (!c.wrote || (sgood c.n c.s && (decide (0 < c.n) && (vgood c.a c.b && (decide (c.t.length ≤ 64) && (!c.g || c.t == []))))))
/-- What is asked of what has been deleted. -/
def Cl.gd (p : Int) (c : Cl) : Bool := (p == 1 && zeroS c.d c.e) || (p == 2 && vgood c.d c.e)
theorem jgood_parts (p : Int) (c : Cl) : c.good p = (c.gd p && c.gw p) := by
  unfold Cl.good cgoodS Cl.gd Cl.gw
  show _ = (_ && (_ && (!c.wrote || _)))
  unfold Cl.wrote
  by_cases h1 : p = 1
  · subst h1
    simp
  · by_cases h2 : p = 2
    · subst h2
      cases c.g <;> cases vgood c.d c.e <;> simp
    · have e1 : (p == 1) = false := by simpa using h1
      have e2 : (p == 2) = false := by simpa using h2
      simp [e1, e2]
theorem gw_key {p : Int} {x y : Cl} (h : x.key = y.key) : x.gw p = y.gw p := by
  obtain ⟨n, s, a, b, g, t, d, e⟩ := x
  obtain ⟨n', s', a', b', g', t', d', e'⟩ := y
  simp [Cl.key] at h
  obtain ⟨⟨rfl, rfl⟩, rfl, rfl, rfl, rfl⟩ := h
  rfl
theorem gw_up {p : Int} {c : Cl} (h : c.gw p = true) : maxK Cl.zero.key c.key = c.key := by
  cases hw : c.wrote with
  | false => rw [wrote_no hw, maxK_self]
  | true =>
    have hn : 0 < c.n := by
      unfold Cl.gw at h
      rw [hw] at h
      simp at h
      exact h.2.2.1
    unfold maxK
    rw [if_pos]
    show lexR (lexR ltI ltI) _ (Cl.zero.key) c.key = true
    unfold lexR
    rw [if_neg]
    · show lexR ltI ltI (0, 0) (c.n, c.s) = true
      unfold lexR
      simp only
      rw [if_neg (by omega)]
      simpa [ltI] using hn
    · show ¬ ((0 : Int), (0 : Int)) = (c.n, c.s)
      intro h
      simp at h
      omega
theorem gd_two {p : Int} {a b : Cl} (ha : a.gd p = true) (hb : b.gd p = true) : (twoS a b).gd p = true := by
  unfold Cl.gd at *
  rw [two_d, two_e]
  by_cases h1 : p = 1
  · subst h1
    simp [zeroS] at ha hb ⊢
    omega
  · have e1 : (p == 1) = false := by simpa using h1
    rw [e1] at ha hb ⊢
    simp [vgood] at ha hb ⊢
    obtain ⟨hp, ha⟩ := ha
    refine ⟨hp, ?_⟩
    omega
theorem gw_two {p : Int} {a b : Cl} (ha : a.gw p = true) (hb : b.gw p = true) : (twoS a b).gw p = true := by
  have h := two_key a b
  by_cases hl : lessS a b = true
  · rw [if_pos hl] at h
    rw [gw_key h]; exact hb
  · rw [if_neg hl] at h
    rw [gw_key h]; exact ha
theorem good_two {p : Int} {a b : Cl} (ha : a.good p = true) (hb : b.good p = true) : (twoS a b).good p = true := by
  rw [jgood_parts, Bool.and_eq_true] at *
  exact ⟨gd_two ha.1 hb.1, gw_two ha.2 hb.2⟩
theorem good_up {p : Int} {c : Cl} (h : c.good p = true) : c.Up := by
  rw [jgood_parts, Bool.and_eq_true] at h
  have hd : 0 ≤ c.d ∧ 0 ≤ c.e := by
    have := h.1
    unfold Cl.gd at this
    simp [zeroS, vgood] at this
    omega
  exact ⟨gw_up h.2, hd.1, hd.2⟩
theorem good_zero {p : Int} (h : p = 1 ∨ p = 2) : Cl.zero.good p = true := by
  rcases h with rfl | rfl <;> decide +kernel
theorem good_pol {p : Int} {c : Cl} (h : c.good p = true) : p = 1 ∨ p = 2 := by
  unfold Cl.good cgoodS at h
  simp at h
  rcases h.1 with ⟨h, _⟩ | ⟨h, _⟩
  · exact .inl h
  · exact .inr h
theorem good_join {p : Int} (hp : p = 1 ∨ p = 2) {l : List Cl} (h : ∀ c ∈ l, c.good p = true) : (joinC l).good p = true := by
  have : ∀ (l : List Cl) (b : Cl), b.good p = true → (∀ c ∈ l, c.good p = true) → (l.foldl twoS b).good p = true := by
    intro l
    induction l with
    | nil => intro b hb _; exact hb
    | cons c l ih => intro b hb h; exact ih _ (good_two hb (h c (by simp))) fun x hx => h x (by simp [hx])
  exact this l _ (good_zero hp) h

/-- P9.4. -/
theorem lattice {p : Int} {a b c : Cl} (ha : a.good p = true) (hb : b.good p = true) (hc : c.good p = true) :
    joinC [a, b] = joinC [b, a] ∧ joinC [joinC [a, b], c] = joinC [a, joinC [b, c]] ∧ joinC [a, b, c] = joinC [c, b, a] ∧ joinC [a, a] = a ∧ joinC [a] = a ∧
    (joinC [a, b]).good p = true ∧ withinS a (joinC [a, b]) = true ∧ withinS b (joinC [a, b]) = true ∧ withinS Cl.zero a = true := by
  have ua := good_up ha
  have ub := good_up hb
  have uc := good_up hc
  refine ⟨?_, ?_, ?_, ?_, ?_, ?_, ?_, ?_, ?_⟩
  · rw [join_two ua, join_two ub, two_comm]
  · rw [join_two (join_upAll _), join_two ua, join_two ua, join_two ub, two_assoc]
  · rw [join_three ua, join_three uc, two_comm c b, two_comm (twoS b c) a, two_assoc]
  · rw [join_two ua, two_self ua]
  · rw [join_one ua]
  · rw [join_two ua]; exact good_two ha hb
  · rw [within_iff ua, join_two ua, ← two_assoc, two_self ua]
  · rw [within_iff ub, join_two ua, two_comm a b, ← two_assoc, two_self ub]
  · rw [within_iff up_zero, two_zero ua]
theorem more {p : Int} {a b c : Cl} (ha : a.good p = true) (hb : b.good p = true) (hc : c.good p = true) (h : withinS a b = true) :
    withinS (joinC [a, c]) (joinC [b, c]) = true ∧ (withinS b a = true → a = b) ∧ (withinS b c = true → withinS a c = true) := by
  have ua := good_up ha
  have ub := good_up hb
  have uc := good_up hc
  have e1 := (within_iff ua).1 h
  refine ⟨?_, fun h2 => ?_, fun h2 => ?_⟩
  · rw [within_iff (join_upAll _), join_two ua, join_two ub, two_comm b c, ← two_assoc, two_assoc a c c, two_self uc, two_comm a c, two_assoc, e1]
  · rw [← (within_iff ub).1 h2, two_comm, e1]
  · have e2 := (within_iff ub).1 h2
    rw [within_iff ua, ← e2, ← two_assoc, e1]

def xC : Cl := ⟨5, 1, 0, 0, false, [120], 0, 0⟩
def yC : Cl := ⟨5, 2, 0, 0, true, [], 0, 0⟩
theorem ex_less : lessS Cl.zero xC = true ∧ lessS xC yC = true ∧ lessS Cl.zero yC = true ∧ lessS yC xC = false := by decide +kernel
theorem ex_two : twoS Cl.zero xC = xC ∧ twoS xC yC = yC ∧ twoS Cl.zero yC = yC ∧ twoS yC xC = yC := by
  obtain ⟨h1, h2, h3, h4⟩ := ex_less
  refine ⟨?_, ?_, ?_, ?_⟩ <;> (unfold twoS; simp only [h1, h2, h3, h4]; rfl)
theorem ex_join : joinC [xC, yC] = yC := by
  show twoS (twoS Cl.zero xC) yC = yC
  rw [ex_two.1, ex_two.2.1]
theorem ex_with : withinS yC xC = false ∧ withinS xC yC = true := by
  constructor
  · unfold withinS
    rw [show joinC [yC, xC] = yC from by show twoS (twoS Cl.zero yC) xC = yC; rw [ex_two.2.2.1, ex_two.2.2.2]]
    exact same_no (by intro h; have := congrArg Cl.s h; exact absurd this (by decide))
  · unfold withinS
    rw [ex_join]; exact same_self _
end Go.Proofs.YtkjpmdpljdgcjaaDoor
end

