/-
  Join: what follows from the lattice (P9.5 to P9.7), as plain mathematics.
-/
import Derived.Test.YtkjpmdpljdgcjaaYF
import Derived.Test.YtkjpmdpljdgcjaaYM
namespace Go.Proofs.Ytkjpmdpljdgcjaa
open Go.RowKit Go Go.Sort
set_option linter.unusedVariables false
set_option maxRecDepth 20000

/-- The cells whose numbers are told. -/
def picks (l : List Cl) (zs : List Int) : List Cl := zs.map fun z => l.getD z.toNat Cl.zero
theorem picks_snoc (l : List Cl) (zs : List Int) (z : Int) : picks l (zs ++ [z]) = picks l zs ++ [l.getD z.toNat Cl.zero] := by simp [picks]
/-- P9.7: those that are needed among the first k make what all of them make; each is needed among those. -/
theorem need_inv {l : List Cl} (h : ∀ c ∈ l, c.Up) : ∀ k, k ≤ l.length → joinC (picks l (needN l k)) = joinC (l.take k) ∧
    (∀ q, q < (needN l k).length → withinS ((picks l (needN l k)).getD q Cl.zero) (joinC ((picks l (needN l k)).take q)) = false) ∧
    (∀ q, q < (needN l k).length → 0 ≤ (needN l k).getD q 0 ∧ (needN l k).getD q 0 < (k : Int)) ∧ (∀ q, q + 1 < (needN l k).length → (needN l k).getD q 0 < (needN l k).getD (q + 1) 0) := by
  intro k
  induction k with
  | zero => intro _; exact ⟨rfl, fun q h => by simp [needN] at h, fun q h => by simp [needN] at h, fun q h => by simp [needN] at h⟩
  | succ k ih =>
    intro hk
    obtain ⟨i1, i2, i3, i4⟩ := ih (by omega)
    have hc : (l.getD k Cl.zero).Up := h _ (by rw [List.getD_eq_getElem?_getD, List.getElem?_eq_getElem (by omega)]; exact List.getElem_mem _)
    have hst := needN_step l k _ rfl
    have hjt := join_take l k (by omega)
    cases hb : withinS (l.getD k Cl.zero) (joinC (l.take k)) with
    | true =>
      rw [hb] at hst
      simp only [if_pos] at hst
      have := (within_iff hc).1 hb
      rw [hst]
      refine ⟨by rw [i1, hjt, two_comm, this], i2, fun q hq => ⟨(i3 q hq).1, by have := (i3 q hq).2; omega⟩, i4⟩
    | false =>
      rw [hb] at hst
      simp only [Bool.false_eq_true, if_false] at hst
      have hlen : (needN l (k + 1)).length = (needN l k).length + 1 := by rw [hst]; simp
      have hpl : (picks l (needN l k)).length = (needN l k).length := by simp [picks]
      have hlast : (needN l (k + 1)).getD (needN l k).length 0 = (k : Int) := by rw [hst]; simp
      have hold : ∀ q, q < (needN l k).length → (needN l (k + 1)).getD q 0 = (needN l k).getD q 0 := by
        intro q hq
        rw [hst, List.getD_eq_getElem?_getD, List.getD_eq_getElem?_getD, List.getElem?_append_left hq]
      refine ⟨?_, fun q hq => ?_, fun q hq => ?_, fun q hq => ?_⟩
      · rw [hst, picks_snoc, join_snoc, i1, hjt, Int.toNat_natCast]
      · rw [hst, picks_snoc, Int.toNat_natCast]
        rw [hlen] at hq
        by_cases e : q < (needN l k).length
        · have := i2 q e
          rw [List.getD_eq_getElem?_getD, List.getElem?_append_left (by omega), List.take_append_of_le_length (by omega)]
          rwa [List.getD_eq_getElem?_getD] at this
        · obtain rfl : q = (needN l k).length := by omega
          rw [List.getD_eq_getElem?_getD, List.getElem?_append_right (by omega), List.take_append_of_le_length (by omega), List.take_of_length_le (by omega), hpl, i1]
          simpa using hb
      · rw [hlen] at hq
        by_cases e : q < (needN l k).length
        · rw [hold q e]
          have := i3 q e
          omega
        · obtain rfl : q = (needN l k).length := by omega
          rw [hlast]
          omega
      · rw [hlen] at hq
        by_cases e : q + 1 < (needN l k).length
        · rw [hold q (by omega), hold (q + 1) e]; exact i4 q e
        · have e2 : q + 1 = (needN l k).length := by omega
          rw [hold q (by omega), e2, hlast]
          exact (i3 q (by omega)).2
theorem need_all {S : List Cl} (h : ∀ q, q < S.length → withinS (S.getD q Cl.zero) (joinC (S.take q)) = false) : (needN S S.length).length = S.length := by
  have : ∀ k, k ≤ S.length → (needN S k).length = k := by
    intro k
    induction k with
    | zero => intro _; rfl
    | succ k ih =>
      intro hk
      rw [needN_step S k false (h k (by omega))]
      simp [ih (by omega)]
  exact this _ (Nat.le_refl _)
theorem picks_length (l : List Cl) (zs : List Int) : (picks l zs).length = zs.length := by simp [picks]
theorem picks_take (l : List Cl) (zs : List Int) (q : Nat) (h : q < zs.length) : picks l (zs.take (q + 1)) = picks l (zs.take q) ++ [l.getD (zs.getD q 0).toNat Cl.zero] := by
  have e : zs.getD q 0 = zs[q] := by rw [List.getD_eq_getElem?_getD, List.getElem?_eq_getElem h]; rfl
  rw [List.take_add_one, List.getElem?_eq_getElem h, Option.toList_some, picks_snoc, e]
theorem need_less {l : List Cl} (h : ∀ c ∈ l, c.Up) : joinC (picks l (needN l l.length)) = joinC l ∧ (needN (picks l (needN l l.length)) (needN l l.length).length).length = (needN l l.length).length := by
  obtain ⟨h1, h2, _, _⟩ := need_inv h l.length (Nat.le_refl _)
  refine ⟨by rw [h1, List.take_of_length_le (Nat.le_refl _)], ?_⟩
  have := need_all (S := picks l (needN l l.length)) (fun q hq => h2 q (by rwa [picks_length] at hq))
  rwa [picks_length] at this

/-- P9.5: a cell by LastWins holds no traces; the write with the last stamp stands last, if none but itself has its stamp. -/
theorem last_dead {c : Cl} (h : c.good 1 = true) : c.d = 0 ∧ c.e = 0 := by
  rw [good_parts, Bool.and_eq_true] at h
  have := h.1
  unfold Cl.gd at this
  simpa [zeroS] using this
theorem good_zero_n {p : Int} {c : Cl} (h : c.good p = true) (hn : c.n = 0) : c.key = Cl.zero.key := by
  rw [good_parts, Bool.and_eq_true] at h
  have h2 := h.2
  unfold Cl.gw at h2
  cases hw : c.wrote with
  | false => exact wrote_no hw
  | true =>
    rw [hw] at h2
    simp at h2
    omega
theorem less_stamp {x y : Cl} (h : ¬ (x.n = y.n ∧ x.s = y.s)) : lessS x y = sless x.n x.s y.n y.s := by
  unfold lessS
  rw [if_pos (by rw [Bool.eq_false_iff]; simpa using h)]
/-- P9.6: writes without traces. -/
def bare (c : Cl) : Cl := { c with d := 0, e := 0 }
theorem two_bare {x y : Cl} (hx : x.d = 0 ∧ x.e = 0) (hy : y.d = 0 ∧ y.e = 0) : twoS x y = (if lessS x y = true then y else x) ∧ (twoS x y).d = 0 ∧ (twoS x y).e = 0 := by
  have hd : (deadJ x y) = (0, 0) := by unfold deadJ; rw [hx.1, hx.2, hy.1, hy.2]; rfl
  have h3 : (twoS x y).d = 0 ∧ (twoS x y).e = 0 := by unfold twoS; rw [hd]; exact ⟨rfl, rfl⟩
  refine ⟨?_, h3⟩
  split
  · rename_i h
    exact Cl.ext' (by rw [two_key, if_pos h]) (h3.1.trans hy.1.symm) (h3.2.trans hy.2.symm)
  · rename_i h
    exact Cl.ext' (by rw [two_key, if_neg h]) (h3.1.trans hx.1.symm) (h3.2.trans hx.2.symm)
theorem last_step {J c : Cl} (hJ : J.good 1 = true) (hc : c.good 1 = true) (hz : J.n = c.n → J.s = c.s → J = c ∨ J = Cl.zero) :
    twoS J c = if sless J.n J.s c.n c.s = true then c else J := by
  obtain ⟨jd, je⟩ := last_dead hJ
  obtain ⟨cd, ce⟩ := last_dead hc
  rw [(two_bare ⟨jd, je⟩ ⟨cd, ce⟩).1]
  by_cases hs : J.n = c.n ∧ J.s = c.s
  · have hsl : sless J.n J.s c.n c.s = false := by unfold sless; simp; omega
    rw [hsl]
    rcases hz hs.1 hs.2 with rfl | rfl
    · rw [less_irr]
    · have hk := good_zero_n hc hs.1.symm
      have hcz : c = Cl.zero := Cl.ext' hk cd ce
      subst hcz
      rw [less_irr]
  · rw [less_stamp hs]
/-- What a law's loop has seen: all may be, no two of one stamp differ. -/
def LastInv (l : List Cl) (k : Nat) : Prop := (∀ j, j < k → (l.getD j Cl.zero).good 1 = true) ∧
  (joinC (l.take k) = Cl.zero ∨ ∃ j, j < k ∧ joinC (l.take k) = l.getD j Cl.zero)
theorem last_good {l : List Cl} {k : Nat} (h : LastInv l k) : (joinC (l.take k)).good 1 = true := by
  rcases h.2 with h2 | ⟨j, hj, h2⟩
  · rw [h2]; exact good_zero (.inl rfl)
  · rw [h2]; exact h.1 j hj
theorem last_next {l : List Cl} {k : Nat} (h : LastInv l k) (hk : k < l.length) (hc : (l.getD k Cl.zero).good 1 = true)
    (hs : ∀ j, j < k → (l.getD k Cl.zero).n = (l.getD j Cl.zero).n → (l.getD k Cl.zero).s = (l.getD j Cl.zero).s → l.getD k Cl.zero = l.getD j Cl.zero) :
    LastInv l (k + 1) ∧ joinC (l.take (k + 1)) = if sless (joinC (l.take k)).n (joinC (l.take k)).s (l.getD k Cl.zero).n (l.getD k Cl.zero).s = true then l.getD k Cl.zero else joinC (l.take k) := by
  have hst := last_step (last_good h) hc (fun e1 e2 => by
    rcases h.2 with h2 | ⟨j, hj, h2⟩
    · exact .inr h2
    · left
      rw [h2] at e1 e2 ⊢
      exact (hs j hj e1.symm e2.symm).symm)
  have hjt := (join_take l k hk).trans hst
  refine ⟨⟨fun j hj => ?_, ?_⟩, hjt⟩
  · by_cases e : j = k
    · subst e; exact hc
    · exact h.1 j (by omega)
  · rw [hjt]
    split
    · exact .inr ⟨k, by omega, rfl⟩
    · rcases h.2 with h2 | ⟨j, hj, h2⟩
      · exact .inl h2
      · exact .inr ⟨j, by omega, h2⟩

/-- A write with what has been deleted. -/
def withD (c : Cl) (x y : Int) : Cl := { c with d := x, e := y }
theorem two_del {J : Cl} (hJ : J.Up) (x y u v : Int) (hx : 0 ≤ x) (hy : 0 ≤ y) : twoS (withD J x y) ⟨0, 0, 0, 0, false, [], u, v⟩ = withD J (max x u) (max y v) := by
  have hk : (twoS (withD J x y) ⟨0, 0, 0, 0, false, [], u, v⟩).key = J.key := by
    rw [two_keyM, maxK_comm]
    exact hJ.key
  refine Cl.ext' hk ?_ ?_
  · rw [two_d]; show max (max 0 x) u = max x u; omega
  · rw [two_e]; show max (max 0 y) v = max y v; omega
theorem del_of (x y : Int) : cofS 2 1 1 x y true [] = if vgood x y = true then (⟨0, 0, 0, 0, false, [], x, y⟩, 0) else (Cl.zero, 2) := by
  unfold cofS
  have : argS 2 1 1 x y true [] = vgood x y := by
    unfold argS
    rw [show whenS 1 1 = true by decide]
    cases vgood x y <;> rfl
  rw [this]
  cases vgood x y <;> rfl
theorem del_seen {J : Cl} {x y : Int} (hJ : J.good 2 = true) (hd : J.d = 0 ∧ J.e = 0) (hx : vgood x y = true) :
    cseenS 2 J.n J.s J.a J.b J.g J.t x y = if (J.wrote && vcov J.a J.b x y) = true then (J.t, true) else ([], false) := by
  have hg : cgoodS 2 J.n J.s J.a J.b J.g J.t x y = true := by
    have h1 := hJ
    rw [good_parts, Bool.and_eq_true] at h1
    have h2 : (withD J x y).good 2 = true := by
      rw [good_parts, Bool.and_eq_true]
      refine ⟨by unfold Cl.gd withD; simp [hx], ?_⟩
      have e : (withD J x y).gw 2 = J.gw 2 := gw_key rfl
      rw [e]; exact h1.2
    exact h2
  have hgn : J.g = false := by
    have h1 := hJ
    rw [good_parts, Bool.and_eq_true] at h1
    have h2 := h1.2
    unfold Cl.gw at h2
    simp at h2
    exact h2.1
  unfold cseenS
  rw [hg, hgn]
  have e : J.wrote = wroteS J.n J.s J.a J.b false J.t := by unfold Cl.wrote; rw [hgn]
  rw [e]
  simp
theorem good_vec {p : Int} {J : Cl} (h : J.good p = true) : 0 ≤ J.a ∧ 0 ≤ J.b := by
  rw [good_parts, Bool.and_eq_true] at h
  have h2 := h.2
  unfold Cl.gw at h2
  cases hw : J.wrote with
  | false =>
    have h3 := wrote_no hw
    have ha : J.a = 0 := congrArg (fun k : Key => k.2.2.2.1) h3
    have hb : J.b = 0 := congrArg (fun k : Key => k.2.2.2.2) h3
    omega
  | true =>
    rw [hw] at h2
    simp [vgood] at h2
    omega
theorem vgood_bd' {a b : Int} (h : vgood a b = true) : 0 ≤ a ∧ a ≤ 1099511627776 ∧ 0 ≤ b ∧ b ≤ 1099511627776 := by simpa [vgood] using h
theorem vgood_max {a b c d : Int} (h : vgood a b = true) (k : vgood c d = true) : vgood (max a c) (max b d) = true := by
  simp [vgood] at h k ⊢
  omega
theorem withD_up {J : Cl} (h : J.Up) {x y : Int} (hx : 0 ≤ x) (hy : 0 ≤ y) : (withD J x y).Up := ⟨h.key, hx, hy⟩
theorem wrote_zero {J : Cl} (hd : J.d = 0 ∧ J.e = 0) : J.wrote = !sameC J Cl.zero := by
  cases h : J.wrote with
  | false =>
    have : J = Cl.zero := Cl.ext' (wrote_no h) hd.1 hd.2
    rw [this, same_self]; rfl
  | true =>
    rw [same_no]; rfl
    rintro rfl
    exact absurd h (by decide)
end Go.Proofs.Ytkjpmdpljdgcjaa
