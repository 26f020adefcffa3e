/-
  Vec: the program's Good, Compare, Has, Next.
-/
import Derived.Test.YtjlolljlhoclhaaVQ
namespace Go.Proofs.Ytjlolljlhoclhaa
open Go.RowKit Go Go.Sort
set_option linter.unusedVariables false

theorem vgood_cov (a b : Int) : vgood a b = (vcov a b 0 0 && vcov 1099511627776 1099511627776 a b) := by
  unfold vgood vcov
  rw [Bool.eq_iff_iff]
  simp only [Bool.and_eq_true, decide_eq_true_eq]
  omega

set_option maxHeartbeats 1600000 in
theorem vgood_c (a b : Int) (w : World) : Calls Try.prog 8 #[.agg #[.int .i64 a, .int .i64 b]] w (Tells (.bool (vgood a b)) w) := by
  have hp := Pair.new w 23 a b
  have hb := alloc_below w (.cells #[.int .i64 a, .int .i64 b] 23)
  have HV := Lib.hid (vgood_cov a b)
  have H1 := Lib.hid (vcov_c a b 0 0)
  have H2 := Lib.hid (vcov_c 1099511627776 1099511627776 a b)
  have HP := Lib.hid hp
  have HB := Lib.hid hb
  have p0 := hp.c0
  have p1 := hp.c1
  clear hp hb
  cases e1 : vcov a b 0 0 <;> cases e2 : vcov 1099511627776 1099511627776 a b
  all_goals
    rw [e1, e2] at HV
    rw [e1] at H1
    rw [e2] at H2
    clear e1 e2
    go_enter Try.func8, Try.ntmps8
    go_wp2_with (first
      | (go_at_call 10; (with_reducible refine (H2.out w1).mono ?_); rintro e w2 ⟨rfl, hb2⟩; have hs2 := HB.out.trans ((hb1.trans (hb2.mono hb1.size)).mono HB.out.size))
      | (go_at_call 10; (with_reducible refine (H1.out _).mono ?_); rintro e w1 ⟨rfl, hb1⟩; have hs1 := HB.out.trans (hb1.mono HB.out.size); have q0 := (HP.out.kept hb1).c0; have q1 := (HP.out.kept hb1).c1))
    go_ret
    refine ⟨by rw [HV.out]; rfl, ?_⟩
    first
      | exact hs2
      | exact hs1

theorem vcmp_cov (a b c d : Int) : vcmp a b c d = if a = c ∧ b = d then 0 else if vcov c d a b = true then 1 else if vcov a b c d = true then 2 else 3 := by
  unfold vcmp
  by_cases h : a = c ∧ b = d
  · obtain ⟨rfl, rfl⟩ := h
    simp [vcov]
  · rw [if_neg h]
    cases h1 : vcov a b c d <;> cases h2 : vcov c d a b <;> simp
    simp [vcov] at h1 h2
    omega

set_option maxHeartbeats 1600000 in
theorem vcmp_same (a b : Int) (w : World) : Calls Try.prog 12 #[.agg #[.int .i64 a, .int .i64 b], .agg #[.int .i64 a, .int .i64 b]] w (Tells (.int .i64 0) w) := by
  have hp := (Pair.new w 23 a b).alloc (.cells #[.int .i64 a, .int .i64 b] 23)
  have hq := Pair.second w (.cells #[.int .i64 a, .int .i64 b] 23) 23 a b
  have hb := second_below w (.cells #[.int .i64 a, .int .i64 b] 23) (.cells #[.int .i64 a, .int .i64 b] 23)
  have hEQ := vec_eql
  have hEG := vec_eqg
  go_enter Try.func12, Try.ntmps12
  go_upto_region 1 with (fail)
  generalize (w.alloc (.cells #[.int .i64 a, .int .i64 b] 23)).alloc (.cells #[.int .i64 a, .int .i64 b] 23) = W1 at *
  have p0 := hp.c0
  have p1 := hp.c1
  have q0 := hq.c0
  have q1 := hq.c1
  have HB := Lib.hid hb
  clear hp hq hb
  go_wp2
  go_ret
  exact ⟨rfl, HB.out⟩

set_option maxHeartbeats 1600000 in
theorem vcmp_other (a b c d : Int) (h : ¬ (a = c ∧ b = d)) (w : World) : Calls Try.prog 12 #[.agg #[.int .i64 a, .int .i64 b], .agg #[.int .i64 c, .int .i64 d]] w (Tells (.int .i64 (vcmp a b c d)) w) := by
  have hp := (Pair.new w 23 a b).alloc (.cells #[.int .i64 c, .int .i64 d] 23)
  have hq := Pair.second w (.cells #[.int .i64 a, .int .i64 b] 23) 23 c d
  have hb := second_below w (.cells #[.int .i64 a, .int .i64 b] 23) (.cells #[.int .i64 c, .int .i64 d] 23)
  have hEQ : ∀ W, (binOp .eql 23 (.agg #[.int .i64 a, .int .i64 b]) (.agg #[.int .i64 c, .int .i64 d])).run Try.prog W = .ok (.bool false) W := by
    intro W
    have hne : ((a == c) && (b == d)) = false := by
      rw [Bool.eq_false_iff]; simp; intro h1 h2; exact h ⟨h1, h2⟩
    rw [run_eql_struct, vec_eqIn, hne]; rfl
  have hEG := vec_eqg
  have HV := Lib.hid (vcmp_cov a b c d)
  rw [if_neg h] at HV
  have H1 := Lib.hid (vcov_c c d a b)
  have H2 := Lib.hid (vcov_c a b c d)
  clear h
  cases e1 : vcov c d a b <;> cases e2 : vcov a b c d
  all_goals
    rw [e1, e2] at HV
    rw [e1] at H1
    rw [e2] at H2
    clear e1 e2
    go_enter Try.func12, Try.ntmps12
    go_upto_region 1 with (fail)
    generalize (w.alloc (.cells #[.int .i64 a, .int .i64 b] 23)).alloc (.cells #[.int .i64 c, .int .i64 d] 23) = W1 at *
    have p0 := hp.c0
    have p1 := hp.c1
    have q0 := hq.c0
    have q1 := hq.c1
    have HP := Lib.hid hp
    have HQ := Lib.hid hq
    have HB := Lib.hid hb
    clear hp hq hb
    go_wp2_with (first
      | (go_at_call 10; (with_reducible refine (H2.out w2).mono ?_); rintro e w3 ⟨rfl, hb3⟩; have hs3 := HB.out.trans ((hb2.trans (hb3.mono hb2.size)).mono HB.out.size))
      | (go_at_call 10; (with_reducible refine (H1.out _).mono ?_); rintro e w2 ⟨rfl, hb2⟩; have hs2 := HB.out.trans (hb2.mono HB.out.size); obtain ⟨r0, r1, r2, r3⟩ := two_cells HP.out HQ.out hb2))
    go_ret
    refine ⟨by rw [HV.out]; rfl, ?_⟩
    first
      | exact hs3
      | exact hs2

theorem vcmp_c (a b c d : Int) (w : World) : Calls Try.prog 12 #[.agg #[.int .i64 a, .int .i64 b], .agg #[.int .i64 c, .int .i64 d]] w (Tells (.int .i64 (vcmp a b c d)) w) := by
  by_cases h : a = c ∧ b = d
  · obtain ⟨rfl, rfl⟩ := h
    rw [vcmp_cov, if_pos ⟨rfl, rfl⟩]
    exact vcmp_same a b w
  · exact vcmp_other a b c d h w

def vplace (site : Int) : Int := if site = 1 then 0 else if site = 2 then 1 else -1
set_option maxHeartbeats 800000 in
theorem vplace_c (site : Int) (w : World) : Calls Try.prog 27 #[.int .i64 site] w (fun e w' => e = .returned (.int .i64 (vplace site)) ∧ w' = w) := by
  unfold vplace
  by_cases h1 : site = 1
  · subst h1
    go_enter Try.func27, Try.ntmps27
    go_wp2
    go_ret
    exact ⟨rfl, rfl⟩
  · rw [if_neg h1]
    have e1 : (site == 1) = false := by simpa using h1
    by_cases h2 : site = 2
    · subst h2
      go_enter Try.func27, Try.ntmps27
      go_wp2
      go_ret
      exact ⟨rfl, rfl⟩
    · rw [if_neg h2]
      have e2 : (site == 2) = false := by simpa using h2
      clear h1 h2
      go_enter Try.func27, Try.ntmps27
      go_wp2
      go_ret
      exact ⟨rfl, rfl⟩

set_option maxHeartbeats 1600000 in
theorem vhas_c (a b site seq : Int) (w : World) : Calls Try.prog 21 #[.agg #[.int .i64 a, .int .i64 b], .int .i64 site, .int .i64 seq] w (Tells (.bool (vhas a b site seq)) w) := by
  have hp := Pair.new w 23 a b
  have hb := alloc_below w (.cells #[.int .i64 a, .int .i64 b] 23)
  have h0 := hp.c0
  have h1 := hp.c1
  have HB := Lib.hid hb
  have HV := Lib.hid (show vhas a b site seq = decide ((site = 1 ∧ 1 ≤ seq ∧ seq ≤ a) ∨ (site = 2 ∧ 1 ≤ seq ∧ seq ≤ b)) from rfl)
  have HQ := Lib.hid (vplace_c site)
  clear hp hb
  by_cases s1 : site = 1
  · subst s1
    rw [show vplace 1 = 0 from rfl] at HQ
    by_cases q : 1 ≤ seq
    · by_cases r : seq ≤ a
      all_goals
        go_enter Try.func21, Try.ntmps21
        go_wp2_with (go_at_call 27; (with_reducible refine (HQ.out _).mono ?_); rintro e w1 ⟨rfl, rfl⟩)
        go_ret
        exact ⟨by rw [HV.out]; simp; omega, HB.out⟩
    · go_enter Try.func21, Try.ntmps21
      go_wp2_with (go_at_call 27; (with_reducible refine (HQ.out _).mono ?_); rintro e w1 ⟨rfl, rfl⟩)
      go_ret
      exact ⟨by rw [HV.out]; simp; omega, HB.out⟩
  · by_cases s2 : site = 2
    · subst s2
      rw [show vplace 2 = 1 from rfl] at HQ
      by_cases q : 1 ≤ seq
      · by_cases r : seq ≤ b
        all_goals
          go_enter Try.func21, Try.ntmps21
          go_wp2_with (go_at_call 27; (with_reducible refine (HQ.out _).mono ?_); rintro e w1 ⟨rfl, rfl⟩)
          go_ret
          exact ⟨by rw [HV.out]; simp; omega, HB.out⟩
      · go_enter Try.func21, Try.ntmps21
        go_wp2_with (go_at_call 27; (with_reducible refine (HQ.out _).mono ?_); rintro e w1 ⟨rfl, rfl⟩)
        go_ret
        exact ⟨by rw [HV.out]; simp; omega, HB.out⟩
    · rw [show vplace site = -1 by unfold vplace; rw [if_neg s1, if_neg s2]] at HQ
      go_enter Try.func21, Try.ntmps21
      go_wp2_with (go_at_call 27; (with_reducible refine (HQ.out _).mono ?_); rintro e w1 ⟨rfl, rfl⟩)
      go_ret
      exact ⟨by rw [HV.out]; simp; omega, HB.out⟩
end Go.Proofs.Ytjlolljlhoclhaa
