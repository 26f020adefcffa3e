/-
  Cell: there and back; the program's way of telling whether bytes are a cell's. Plain mathematics.
-/
import Derived.Test.YtkjpmdpljdgcjaaDoorKF
namespace Go.Proofs.YtkjpmdpljdgcjaaDoor
open Go.RowKit Go Go.Sort
set_option linter.unusedVariables false
set_option maxRecDepth 20000

theorem numB_take {l : List UInt8} {p : Int} {q : Nat} (h : getS l = (p, (q : Int), 0)) : l.take q = numB p ∧ q ≤ l.length ∧ 0 ≤ p ∧ p ≤ 4611686018427387903 := by
  obtain ⟨q', h1, h2, h3, h4, h5⟩ := getS_ok l (by rw [h])
  rw [h] at h1 h4 h5
  have e : q' = q := by simp only at h1; omega
  subst e
  refine ⟨?_, h3, h4, h5⟩
  have := getS_form l q' (by rw [h]) (by rw [h])
  rw [h] at this
  exact this.symm
theorem get_num (n : Int) (t : List UInt8) (h0 : 0 ≤ n) (h1 : n ≤ 4611686018427387903) : getS (numB n ++ t) = (n, ((numB n).length : Int), 0) := by
  rw [getS_num n t h0 h1, (numB_len h0 h1).1]
/-- What is got of a stamp is put as it was. -/
theorem sget_form {l : List UInt8} {n s : Int} {q : Nat} (h : sgetS l = ((n, s), (q : Int), 0)) : sputS [] n s = l.take q ∧ q ≤ l.length := by
  obtain ⟨⟨x, k, f⟩, hx⟩ : ∃ z, getS l = z := ⟨_, rfl⟩
  unfold sgetS at h
  rw [hx] at h
  simp only at h
  by_cases hf : f = 0
  · subst hf
    rw [if_neg (by simp)] at h
    obtain ⟨q', hq', -, -, x0, x1⟩ := getS_ok l (by rw [hx])
    rw [hx] at hq' x0 x1
    simp only at hq' x0 x1
    subst hq'
    obtain ⟨ht, hle, -, -⟩ := numB_take hx
    by_cases h0 : x = 0
    · rw [if_pos h0] at h
      simp only [Prod.mk.injEq, and_true] at h
      obtain ⟨⟨rfl, rfl⟩, hq⟩ := h
      have e : q = q' := by omega
      subst e
      subst h0
      exact ⟨by rw [ht]; rfl, hle⟩
    · rw [if_neg h0] at h
      by_cases hg : sgood (x / 2) (1 + x % 2) = true
      · rw [if_pos hg] at h
        simp only [Prod.mk.injEq, and_true] at h
        obtain ⟨⟨rfl, rfl⟩, hq⟩ := h
        have e : q = q' := by omega
        subst e
        have hgd : (x / 2 = 0 ∧ 1 + x % 2 = 0) ∨ (1 ≤ x / 2 ∧ x / 2 ≤ 281474976710656 ∧ (1 + x % 2 = 1 ∨ 1 + x % 2 = 2)) := by simpa [sgood] using hg
        refine ⟨?_, hle⟩
        unfold sputS
        rw [if_pos hg, ht]
        unfold scode
        rw [if_neg (by omega), List.nil_append]
        congr 1
        omega
      · rw [if_neg hg] at h
        simp at h
  · rw [if_pos hf] at h
    simp only [Prod.mk.injEq] at h
    exact absurd h.2.2 hf
theorem vget_form {l : List UInt8} {a b : Int} {q : Nat} (h : vgetS l = ((a, b), (q : Int), 0)) : vputS [] a b = l.take q ∧ q ≤ l.length := by
  obtain ⟨⟨x, k, f⟩, hx⟩ : ∃ z, getS l = z := ⟨_, rfl⟩
  by_cases hf : f = 0
  · subst hf
    obtain ⟨q1, hq1, -, -, x0, x1⟩ := getS_ok l (by rw [hx])
    rw [hx] at hq1
    simp only at hq1
    subst hq1
    obtain ⟨⟨y, k2, f2⟩, hy⟩ : ∃ z, getS (l.drop q1) = z := ⟨_, rfl⟩
    by_cases hf2 : f2 = 0
    · subst hf2
      obtain ⟨q2, hq2, -, -, y0, y1⟩ := getS_ok (l.drop q1) (by rw [hy])
      rw [hy] at hq2
      simp only at hq2
      subst hq2
      rw [vget_two hx hy] at h
      by_cases hg : vgood x y = true
      · rw [if_pos hg] at h
        simp only [Prod.mk.injEq, and_true] at h
        obtain ⟨⟨rfl, rfl⟩, hq⟩ := h
        have e : q = q1 + q2 := by omega
        subst e
        obtain ⟨h1, h1l, -, -⟩ := numB_take hx
        obtain ⟨h2, h2l, -, -⟩ := numB_take hy
        rw [List.length_drop] at h2l
        refine ⟨?_, by omega⟩
        unfold vputS
        rw [if_pos hg, List.take_add, h1, h2]
        simp
      · rw [if_neg hg] at h
        simp at h
    · rw [vget_err2 hx hy hf2] at h
      simp only [Prod.mk.injEq] at h
      exact absurd h.2.2 hf2
  · rw [vget_err1 hx hf] at h
    simp only [Prod.mk.injEq] at h
    exact absurd h.2.2 hf
theorem tget_form {l t : List UInt8} {m : Int} {q : Nat} (h : textS l m = (t, (q : Int), 0)) : putTextS [] t = l.take q ∧ q ≤ l.length ∧ (t.length : Int) ≤ m := by
  unfold textS at h
  by_cases he : (getS l).2.2 = 0
  · obtain ⟨q0, hq, hq1, hq2, hv0, hv1⟩ := getS_ok l he
    rw [if_neg (by omega)] at h
    by_cases c1 : m < (getS l).1
    · rw [if_pos c1] at h; simp at h
    · rw [if_neg c1] at h
      by_cases c2 : (l.length : Int) - (getS l).2.1 < (getS l).1
      · rw [if_pos c2] at h; simp at h
      · rw [if_neg c2] at h
        obtain ⟨⟨v, k, f⟩, hx⟩ : ∃ z, getS l = z := ⟨_, rfl⟩
        rw [hx] at he hq hv0 hv1 h c1 c2
        simp only at he hq hv0 hv1 h c1 c2
        subst he
        subst hq
        obtain ⟨V, rfl⟩ := Int.eq_ofNat_of_zero_le hv0
        have hf := (numB_take hx).1
        simp only [Int.toNat_natCast, Prod.mk.injEq, and_true] at h
        obtain ⟨h1, h2⟩ := h
        have hlen : t.length = V := by rw [← h1, List.length_take, List.length_drop]; omega
        have e : q = q0 + V := by omega
        subst e
        refine ⟨?_, by omega, by omega⟩
        unfold putTextS
        rw [List.take_add, hf, h1, hlen]
        rfl
  · rw [if_pos he] at h
    simp only [Prod.mk.injEq] at h
    exact absurd h.2.2 he
/-- What is put of a stamp is got. -/
theorem sget_put {n s : Int} (h : sgood n s = true) (t : List UInt8) : sgetS (sputS [] n s ++ t) = ((n, s), ((sputS [] n s).length : Int), 0) := by
  have hgd : (n = 0 ∧ s = 0) ∨ (1 ≤ n ∧ n ≤ 281474976710656 ∧ (s = 1 ∨ s = 2)) := by simpa [sgood] using h
  have hp : sputS [] n s = numB (scode n s) := by unfold sputS; rw [if_pos h]; rfl
  rw [hp]
  have hc : 0 ≤ scode n s ∧ scode n s ≤ 4611686018427387903 := by unfold scode; split <;> omega
  unfold sgetS
  rw [get_num _ t hc.1 hc.2]
  simp only [not_true_eq_false, if_false]
  by_cases h0 : scode n s = 0
  · rw [if_pos h0]
    have : n = 0 ∧ s = 0 := by unfold scode at h0; split at h0 <;> omega
    obtain ⟨rfl, rfl⟩ := this
    rfl
  · rw [if_neg h0]
    have hn : 1 ≤ n ∧ (s = 1 ∨ s = 2) := by
      rcases hgd with ⟨rfl, rfl⟩ | hh
      · exact absurd rfl h0
      · exact ⟨hh.1, hh.2.2⟩
    have e1 : scode n s / 2 = n := by unfold scode; rw [if_neg (by omega)]; omega
    have e2 : 1 + scode n s % 2 = s := by unfold scode; rw [if_neg (by omega)]; omega
    rw [e1, e2, if_pos h]
theorem vget_back {a b : Int} (h : vgood a b = true) (t : List UInt8) : vgetS (vputS [] a b ++ t) = ((a, b), ((vputS [] a b).length : Int), 0) := by
  obtain ⟨p0, p1, q0, q1⟩ := vgood_bd h
  have hp : vputS [] a b = numB a ++ numB b := by unfold vputS; rw [if_pos h]; rfl
  rw [hp, List.append_assoc]
  rw [vget_two (q := (numB a).length) (q2 := (numB b).length) (x := a) (y := b) (get_num a _ p0 (by omega)) (by rw [List.drop_left]; exact get_num b t q0 (by omega)), if_pos h, List.length_append]
  simp
theorem tget_back {s : List UInt8} {m : Int} (h : (s.length : Int) ≤ m) (hm : m ≤ 1000000) (t : List UInt8) : textS (putTextS [] s ++ t) m = (s, ((putTextS [] s).length : Int), 0) := by
  have hp : putTextS [] s = numB (s.length : Int) ++ s := by unfold putTextS; rfl
  have hg := get_num (s.length : Int) (s ++ t) (by omega) (by omega)
  rw [hp, List.append_assoc]
  unfold textS
  rw [hg]
  simp only [not_true_eq_false, if_false]
  rw [if_neg (by omega), if_neg (by simp only [List.length_append]; omega)]
  simp only [Int.toNat_natCast, List.length_append]
  rw [List.drop_left, List.take_left]
  simp

theorem sum_bits (w g z : Bool) : bit (sumS w g z) 1 = w ∧ bit (sumS w g z) 2 = g ∧ bit (sumS w g z) 4 = !z ∧ 0 ≤ sumS w g z ∧ sumS w g z ≤ 7 := by
  cases w <;> cases g <;> cases z <;> decide
theorem lay_head (c : Cl) : ∃ r, layS [] c = numB c.sum ++ r := by
  unfold layS
  have h1 := sput_app (numB c.sum) [] c.n c.s
  simp only [List.append_nil, List.nil_append] at h1 ⊢
  cases c.wrote <;> cases c.g <;> cases zeroS c.d c.e <;> simp only [if_true, if_false, Bool.false_eq_true]
  all_goals first
    | exact ⟨[], (List.append_nil _).symm⟩
    | (rw [h1]; exact ⟨_, by rw [vput_app, putText_app, vput_app]⟩)
    | (rw [h1]; exact ⟨_, by rw [vput_app, putText_app]⟩)
    | (rw [h1]; exact ⟨_, by rw [vput_app, vput_app]⟩)
    | (rw [h1]; exact ⟨_, by rw [vput_app]⟩)
    | (have h2 := vput_app (numB c.sum) [] c.d c.e; rw [List.append_nil] at h2; rw [h2]; exact ⟨_, rfl⟩)
theorem end_inv {l : List UInt8} {x : Int} {c c' : Cl} {q k : Nat} (h : endR l x c q = some (c', k)) :
    (bit x 4 = false ∧ c' = c ∧ k = q) ∨ (bit x 4 = true ∧ ∃ (d e : Int) (q4 : Nat), vgetS (l.drop q) = ((d, e), (q4 : Int), 0) ∧ c' = { c with d := d, e := e } ∧ k = q + q4) := by
  cases hb : bit x 4 with
  | false => rw [end_no hb] at h; left; simpa [eq_comm] using h
  | true =>
    right
    refine ⟨rfl, ?_⟩
    obtain ⟨⟨⟨d, e⟩, k4, f4⟩, hv⟩ : ∃ z, vgetS (l.drop q) = z := ⟨_, rfl⟩
    by_cases hf : f4 = 0
    · subst hf
      obtain ⟨q4, hq4, -⟩ := vgetS_ok (l.drop q) (by rw [hv])
      rw [hv] at hq4
      simp only at hq4
      subst hq4
      rw [end_yes hb hv] at h
      simp only [Option.some.injEq, Prod.mk.injEq] at h
      exact ⟨d, e, q4, hv, h.1.symm, h.2.symm⟩
    · rw [end_bad hb (by rw [hv]; exact hf)] at h
      cases h
theorem mid_inv {l : List UInt8} {k q : Nat} {g : Bool} {c : Cl} (h : midR l k g = some (c, q)) : ∃ (n s a b : Int) (q1 q2 : Nat), sgetS (l.drop k) = ((n, s), (q1 : Int), 0) ∧ vgetS (l.drop (k + q1)) = ((a, b), (q2 : Int), 0) ∧
    ((g = true ∧ c = ⟨n, s, a, b, true, [], 0, 0⟩ ∧ q = k + q1 + q2) ∨ (g = false ∧ ∃ (t : List UInt8) (q3 : Nat), textS (l.drop (k + q1 + q2)) 64 = (t, (q3 : Int), 0) ∧ c = ⟨n, s, a, b, false, t, 0, 0⟩ ∧ q = k + q1 + q2 + q3)) := by
  obtain ⟨⟨⟨n, s⟩, k1, f1⟩, hv1⟩ : ∃ z, sgetS (l.drop k) = z := ⟨_, rfl⟩
  by_cases h1 : f1 = 0
  · subst h1
    obtain ⟨q1, hq1, -⟩ := sgetS_ok (l.drop k) (by rw [hv1])
    rw [hv1] at hq1
    simp only at hq1
    subst hq1
    obtain ⟨⟨⟨a, b⟩, k2, f2⟩, hv2⟩ : ∃ z, vgetS (l.drop (k + q1)) = z := ⟨_, rfl⟩
    by_cases h2 : f2 = 0
    · subst h2
      obtain ⟨q2, hq2, -⟩ := vgetS_ok (l.drop (k + q1)) (by rw [hv2])
      rw [hv2] at hq2
      simp only at hq2
      subst hq2
      refine ⟨n, s, a, b, q1, q2, hv1, hv2, ?_⟩
      cases g with
      | true =>
        left
        rw [mid_gone hv1 hv2] at h
        simp only [Option.some.injEq, Prod.mk.injEq] at h
        exact ⟨rfl, h.1.symm, h.2.symm⟩
      | false =>
        right
        refine ⟨rfl, ?_⟩
        obtain ⟨⟨t, k3, f3⟩, hv3⟩ : ∃ z, textS (l.drop (k + q1 + q2)) 64 = z := ⟨_, rfl⟩
        by_cases h3 : f3 = 0
        · subst h3
          obtain ⟨q3, hq3, -, -⟩ := textS_in (l.drop (k + q1 + q2)) 64 (by rw [hv3])
          rw [hv3] at hq3
          simp only at hq3
          subst hq3
          rw [mid_all hv1 hv2 hv3] at h
          simp only [Option.some.injEq, Prod.mk.injEq] at h
          exact ⟨t, q3, hv3, h.1.symm, h.2.symm⟩
        · rw [mid_text hv1 hv2 (by rw [hv3]; exact h3)] at h
          cases h
    · rw [mid_vec hv1 (by rw [hv2]; exact h2)] at h
      cases h
  · rw [mid_stamp (by rw [hv1]; exact h1)] at h
    cases h
theorem parts_inv {l : List UInt8} {x : Int} {k q : Nat} {g : Bool} {c : Cl} (h : partsR l x k g = some (c, q)) : (bit x 1 = false ∧ endR l x (Cl.gone g) k = some (c, q)) ∨ (bit x 1 = true ∧ ∃ c1 q1, midR l k g = some (c1, q1) ∧ endR l x c1 q1 = some (c, q)) := by
  cases hb : bit x 1 with
  | false => left; rw [parts_bare hb] at h; exact ⟨rfl, h⟩
  | true =>
    right
    refine ⟨rfl, ?_⟩
    cases hm : midR l k g with
    | none => rw [parts_none hb hm] at h; cases h
    | some r =>
      obtain ⟨c1, q1⟩ := r
      rw [parts_some hb hm] at h
      exact ⟨c1, q1, rfl, h⟩
theorem end_ge {l : List UInt8} {x : Int} {c c' : Cl} {q k : Nat} (h : endR l x c q = some (c', k)) : q ≤ k := by
  rcases end_inv h with ⟨_, _, rfl⟩ | ⟨_, _, _, _, _, _, rfl⟩ <;> omega
theorem parts_ge {l : List UInt8} {x : Int} {k q : Nat} {g : Bool} {c : Cl} (h : partsR l x k g = some (c, q)) : k ≤ q := by
  rcases parts_inv h with ⟨_, h1⟩ | ⟨_, c1, q1, hm, h1⟩
  · exact end_ge h1
  · have h2 := end_ge h1
    obtain ⟨n, s, a, b, p1, p2, -, -, hh⟩ := mid_inv hm
    rcases hh with ⟨_, _, rfl⟩ | ⟨_, t, p3, _, _, rfl⟩ <;> omega
/-- A cell's bytes begin with the number that was read just if it is the cell's own. -/
theorem lay_sum {l : List UInt8} {x : Int} {q0 k : Nat} {c : Cl} (hx : getS l = (x, (q0 : Int), 0)) (hk : q0 ≤ k) (h : layS [] c = l.take k) : x = c.sum := by
  obtain ⟨r, hr⟩ := lay_head c
  obtain ⟨h1, h2, x0, x1⟩ := numB_take hx
  have hs := (sum_bits c.wrote c.g (zeroS c.d c.e)).2.2.2
  have e : l.take k = numB x ++ (l.take k).drop q0 := by
    rw [← h1]
    have : l.take q0 = (l.take k).take q0 := by rw [List.take_take, Nat.min_eq_left hk]
    rw [this, List.take_append_drop]
  have g1 := get_num c.sum r hs.1 (by have := hs.2; unfold Cl.sum; omega)
  have g2 := get_num x ((l.take k).drop q0) x0 x1
  rw [← hr, h] at g1
  rw [← e, g1] at g2
  simp only [Prod.mk.injEq] at g2
  exact g2.1.symm
theorem take_two (l : List UInt8) (p q : Nat) : l.take p ++ (l.drop p).take q = l.take (p + q) := by rw [List.take_add]
/-- What was read, with its own number, is put as it was. -/
theorem lay_read {l : List UInt8} {x : Int} {q0 k : Nat} {g : Bool} {c : Cl} (hx : getS l = (x, (q0 : Int), 0)) (h : partsR l x q0 g = some (c, k)) (hg : bit x 2 = g) (hs : x = c.sum) : layS [] c = l.take k := by
  obtain ⟨h1, -, -, -⟩ := numB_take hx
  have hb := sum_bits c.wrote c.g (zeroS c.d c.e)
  change bit c.sum 1 = c.wrote ∧ bit c.sum 2 = c.g ∧ bit c.sum 4 = (!zeroS c.d c.e) ∧ _ at hb
  rw [← hs] at hb
  obtain ⟨hw, hgg, hz, -⟩ := hb
  have he : ∀ (c1 : Cl) (q1 : Nat), endR l x c1 q1 = some (c, k) → (let o2 := if c.wrote = true then (let o := vputS (sputS (numB x) c.n c.s) c.a c.b; if c.g = true then o else putTextS o c.t) else numB x; o2 = l.take q1) → layS [] c = l.take k := by
    intro c1 q1 hend ho2
    unfold layS
    rw [List.nil_append, ← hs]
    simp only at ho2 ⊢
    rw [ho2]
    rcases end_inv hend with ⟨hb4, _, rfl⟩ | ⟨hb4, d, e, q4, hv, hc, rfl⟩
    · have : zeroS c.d c.e = true := by rw [hb4] at hz; simpa using hz.symm
      rw [if_pos this]
    · have : ¬ zeroS c.d c.e = true := by rw [hb4] at hz; simpa using hz.symm
      rw [if_neg this]
      have hd : c.d = d ∧ c.e = e := by rw [hc]; exact ⟨rfl, rfl⟩
      rw [hd.1, hd.2]
      have h3 := vput_app (l.take q1) [] d e
      rw [List.append_nil] at h3
      rw [h3, (vget_form hv).1, take_two]
  rcases parts_inv h with ⟨hb1, h2⟩ | ⟨hb1, c1, q1, hm, h2⟩
  · refine he _ _ h2 ?_
    rw [hb1] at hw
    simp only [← hw, Bool.false_eq_true, if_false]
    exact h1.symm
  · refine he _ _ h2 ?_
    rw [hb1] at hw
    rw [← hw]
    simp only [if_true]
    obtain ⟨n, s, a, b, p1, p2, v1, v2, hh⟩ := mid_inv hm
    have e1 := sput_app (numB x) [] n s
    rw [List.append_nil, ← h1, (sget_form v1).1, take_two] at e1
    have e2 := vput_app (l.take (q0 + p1)) [] a b
    rw [List.append_nil, (vget_form v2).1, take_two] at e2
    have hkeep : c.n = c1.n ∧ c.s = c1.s ∧ c.a = c1.a ∧ c.b = c1.b ∧ c.g = c1.g ∧ c.t = c1.t := by
      rcases end_inv h2 with ⟨_, rfl, _⟩ | ⟨_, d, e, q4, _, rfl, _⟩ <;> exact ⟨rfl, rfl, rfl, rfl, rfl, rfl⟩
    rcases hh with ⟨rfl, rfl, rfl⟩ | ⟨rfl, t, p3, v3, rfl, rfl⟩
    · simp only at hkeep
      rw [hkeep.1, hkeep.2.1, hkeep.2.2.1, hkeep.2.2.2.1, hkeep.2.2.2.2.1, if_pos rfl, ← h1, e1, e2]
    · simp only at hkeep
      rw [hkeep.1, hkeep.2.1, hkeep.2.2.1, hkeep.2.2.2.1, hkeep.2.2.2.2.1, hkeep.2.2.2.2.2, if_neg (by simp), ← h1, e1, e2]
      have e3 := putText_app (l.take (q0 + p1 + p2)) [] t
      rw [List.append_nil, (tget_form v3).1, take_two] at e3
      exact e3
/-- The program's way. -/
theorem cget_P (l : List UInt8) (p : Int) : cgetS l p = match readP l with
    | none => (Cl.zero, 0, 80)
    | some (c, k) => if (getS l).1 = c.sum ∧ c.good p = true then (c, (k : Int), 0) else (Cl.zero, 0, 80) := by
  obtain ⟨⟨x, k0, f0⟩, hx⟩ : ∃ z, getS l = z := ⟨_, rfl⟩
  by_cases hf : f0 = 0
  · subst hf
    obtain ⟨q0, hq0, -, -, x0, x1⟩ := getS_ok l (by rw [hx])
    rw [hx] at hq0 x0 x1
    simp only at hq0 x0 x1
    subst hq0
    rw [readP_at hx]
    unfold cgetS
    have hbig : ∀ c : Cl, c.sum ≤ 7 := fun c => (sum_bits c.wrote c.g (zeroS c.d c.e)).2.2.2.2
    have hxx : (getS l).1 = x := by rw [hx]
    by_cases h7 : x ≤ 7
    · rw [readS_at hx h7]
      by_cases hsame : (bit x 1 && bit x 2) = bit x 2
      · rw [hsame]
        cases hp : partsR l x q0 (bit x 2) with
        | none => rfl
        | some r =>
          obtain ⟨c, k⟩ := r
          simp only []
          rw [hxx]
          have hiff : (c.good p = true ∧ layS [] c = l.take k) ↔ (x = c.sum ∧ c.good p = true) :=
            ⟨fun h => ⟨lay_sum hx (parts_ge hp) h.2, h.1⟩, fun h => ⟨h.2, lay_read hx hp rfl h.1⟩⟩
          by_cases hc : x = c.sum ∧ c.good p = true
          · rw [if_pos hc, if_pos (hiff.2 hc)]
          · rw [if_neg hc, if_neg (fun h => hc (hiff.1 h))]
      · have hb1 : bit x 1 = false := by cases h : bit x 1 with | false => rfl | true => rw [h] at hsame; simp at hsame
        have hb2 : bit x 2 = true := by cases h : bit x 2 with | true => rfl | false => rw [h] at hsame; simp at hsame
        rw [hb1, hb2]
        have hL : (match partsR l x q0 (false && true) with
            | none => (Cl.zero, 0, 80)
            | some (c, k) => if c.good p = true ∧ layS [] c = l.take k then (c, (k : Int), 0) else (Cl.zero, 0, 80)) = (Cl.zero, (0 : Int), (80 : Int)) := by
          cases hp : partsR l x q0 (false && true) with
          | none => rfl
          | some r =>
            obtain ⟨c, k⟩ := r
            simp only []
            rw [if_neg]
            intro h
            have hs := lay_sum hx (parts_ge hp) h.2
            have hg2 := (sum_bits c.wrote c.g (zeroS c.d c.e)).2.1
            change bit c.sum 2 = c.g at hg2
            rw [← hs, hb2] at hg2
            rcases parts_inv hp with ⟨_, he⟩ | ⟨hb, _⟩
            · rcases end_inv he with ⟨_, rfl, _⟩ | ⟨_, d, e, q4, _, rfl, _⟩ <;> simp [Cl.gone] at hg2
            · rw [hb1] at hb; cases hb
        refine Eq.trans (b := (Cl.zero, (0 : Int), (80 : Int))) hL ?_
        cases hp : partsR l x q0 true with
        | none => rfl
        | some r =>
          obtain ⟨c, k⟩ := r
          simp only []
          rw [hxx, if_neg]
          intro h
          have hw1 := (sum_bits c.wrote c.g (zeroS c.d c.e)).1
          change bit c.sum 1 = c.wrote at hw1
          rw [← h.1, hb1] at hw1
          have hgt : c.g = true := by
            rcases parts_inv hp with ⟨_, he⟩ | ⟨hb, _⟩
            · rcases end_inv he with ⟨_, rfl, _⟩ | ⟨_, d, e, q4, _, rfl, _⟩ <;> rfl
            · rw [hb1] at hb; cases hb
          unfold Cl.wrote at hw1
          rw [hgt, wrote_gone] at hw1
          cases hw1
    · rw [readS_big (by rw [hxx]; omega)]
      simp only []
      cases hp : partsR l x q0 (bit x 2) with
      | none => rfl
      | some r =>
        obtain ⟨c, k⟩ := r
        simp only []
        rw [hxx, if_neg]
        intro h
        have := hbig c
        omega
  · rw [readP_err (by rw [hx]; exact hf)]
    exact cget_none (readS_err (by rw [hx]; exact hf))
end Go.Proofs.YtkjpmdpljdgcjaaDoor
