/-
  Vec: VecOn's walk over contracts.
-/
import Derived.Test.YtjlolljlhoclhaaV6
namespace Go.Proofs.Ytjlolljlhoclhaa
open Go.RowKit Go Go.Sort
set_option linter.unusedVariables false

theorem vnext_cases (a b site : Int) : (∃ f, f ≠ 0 ∧ vnext a b site = ((0, 0), f)) ∨ (0 ≤ a ∧ a < 1099511627776 ∧ 0 ≤ b ∧ b ≤ 1099511627776 ∧ site = 1 ∧ vnext a b site = ((a + 1, b), 0)) ∨ (0 ≤ a ∧ a ≤ 1099511627776 ∧ 0 ≤ b ∧ b < 1099511627776 ∧ site = 2 ∧ vnext a b site = ((a, b + 1), 0)) := by
  unfold vnext
  by_cases h : (site ≠ 1 ∧ site ≠ 2) ∨ vgood a b = false
  · rw [if_pos h]; exact .inl ⟨2, by decide, rfl⟩
  · rw [if_neg h]
    have hg : vgood a b = true := by
      cases hx : vgood a b with
      | false => exact absurd (.inr hx) h
      | true => rfl
    have hb : 0 ≤ a ∧ a ≤ 1099511627776 ∧ 0 ≤ b ∧ b ≤ 1099511627776 := by simpa [vgood] using hg
    have hs : site = 1 ∨ site = 2 := by
      by_cases h1 : site = 1
      · exact .inl h1
      · by_cases h2 : site = 2
        · exact .inr h2
        · exact absurd (.inl ⟨h1, h2⟩) h
    rcases hs with rfl | rfl
    · by_cases hm : a = 1099511627776
      · left; exact ⟨3, by decide, by simp [hm]⟩
      · right; left; exact ⟨hb.1, by omega, hb.2.2.1, hb.2.2.2, rfl, by simp [hm]⟩
    · by_cases hm : b = 1099511627776
      · left; exact ⟨3, by decide, by simp [hm]⟩
      · right; right; exact ⟨hb.1, hb.2.1, hb.2.2.1, by omega, rfl, by simp [hm]⟩

set_option maxRecDepth 100000 in
set_option maxHeartbeats 3200000 in
theorem von_walk (K : VecOk) (a b site : Int) {w : World} : Calls Try.prog 7 #[.agg #[.int .i64 a, .int .i64 b], .int .i64 site] w (Tells (.bool true) w) := by
  have hp := Pair.new w 23 a b
  have hb := alloc_below w (.cells #[.int .i64 a, .int .i64 b] 23)
  have hEQ := vec_eql
  have hEG := vec_eqg
  have N1 := K.next a b site
  have HL := Lib.hid (vlives_c K)
  rcases vnext_cases a b site with ⟨f, hf, hx⟩ | ⟨h1, h2, h3, h4, rfl, hx⟩ | ⟨h1, h2, h3, h4, rfl, hx⟩
  · simp only [hx] at N1
    have HN1 := Lib.hid N1
    have HP := Lib.hid hp
    have HB := Lib.hid hb
    have hfb : (f != 0) = true := by simpa using hf
    clear N1 hp hb hx
    go_enter Try.func7, Try.ntmps7
    go_upto_region 1 with (fail)
    generalize w.alloc (.cells #[.int .i64 a, .int .i64 b] 23) = W1 at *
    have a0 := HP.out.c0
    have a1 := HP.out.c1
    go_upto_region 2 with (go_at_call 19; (with_reducible refine (HN1.out _).mono ?_); rintro e w2 ⟨rfl, hb2⟩)
    have hx2 := Pair.new w2 23 0 0
    have HB2 := Lib.hid ((HB.out.trans (hb2.mono HB.out.size)).alloc (Nat.le_trans HB.out.size hb2.size) (.cells #[.int .i64 0, .int .i64 0] 23))
    clear a0 a1 hb2
    generalize w2.alloc (.cells #[.int .i64 0, .int .i64 0] 23) = W2 at *
    have x0 := hx2.c0
    have x1 := hx2.c1
    clear hx2
    go_wp2_with (go_at_call 16; (with_reducible refine (HL.out _).mono ?_); rintro e w3 ⟨rfl, hb3⟩)
    go_ret
    exact ⟨rfl, HB2.out.trans (hb3.mono HB2.out.size)⟩
  · simp only [hx] at N1
    have HN1 := Lib.hid N1
    have HP := Lib.hid hp
    have HB := Lib.hid hb
    have C1 := fun (w : World) => tells_grown (w := w) (K.cmp a b (a + 1) b)
    have A1 := fun (w : World) => tells_grown (w := w) (K.has (a + 1) b 1 (a + 1))
    have A2 := fun (w : World) => tells_grown (w := w) (K.has a b 1 (a + 1))
    have L1 := fun (w : World) => tells_grown (w := w) (vlives_c K)
    rw [show vcmp a b (a + 1) b = 1 by unfold vcmp vcov; simp; omega] at C1
    rw [show vhas (a + 1) b 1 (a + 1) = true by unfold vhas; simp; omega] at A1
    rw [show vhas a b 1 (a + 1) = false by unfold vhas; simp; omega] at A2
    have HC1 := Lib.hid C1
    have HA1 := Lib.hid A1
    have HA2 := Lib.hid A2
    have HL1 := Lib.hid L1
    have hone : a + 1 + b - a - b = 1 := by omega
    clear N1 hp hb hx C1 A1 A2 L1
    go_enter Try.func7, Try.ntmps7
    go_upto_region 1 with (fail)
    generalize w.alloc (.cells #[.int .i64 a, .int .i64 b] 23) = W1 at *
    have a0 := HP.out.c0
    have a1 := HP.out.c1
    go_upto_region 2 with (go_at_call 19; (with_reducible refine (HN1.out _).mono ?_); rintro e w2 ⟨rfl, hb2⟩)
    have hp2 := (HP.out.kept hb2).alloc (.cells #[.int .i64 (a + 1), .int .i64 b] 23)
    have hx2 := Pair.new w2 23 (a + 1) b
    have HB2 := Lib.hid ((HB.out.trans (hb2.mono HB.out.size)).alloc (Nat.le_trans HB.out.size hb2.size) (.cells #[.int .i64 (a + 1), .int .i64 b] 23))
    obtain ⟨gx, hgx⟩ : ∃ g, w2.heap.size = g := ⟨_, rfl⟩
    rw [hgx] at hx2 ⊢
    clear a0 a1 hb2 hgx
    generalize w2.alloc (.cells #[.int .i64 (a + 1), .int .i64 b] 23) = W2 at *
    have a0 := hp2.c0
    have a1 := hp2.c1
    have x0 := hx2.c0
    have x1 := hx2.c1
    have k0 := cell_regrown hp2.c0
    have k1 := cell_regrown hp2.c1
    have k2 := cell_regrown hx2.c0
    have k3 := cell_regrown hx2.c1
    clear hp2 hx2
    go_wp2
    refine wp_region_quiet_below (by kernel_rfl) (by kernel_rfl) ?_
    repeat (go_big_quiet_step (first | with_reducible exact HC1.out _ _ _ | with_reducible exact HA1.out _ _ _ | with_reducible exact HA2.out _ _ _ | with_reducible exact HL1.out _ _ _))
    refine wpQuiet_nil ?_
    intro _ hw'
    obtain ⟨⟨dq, osq⟩, hw''⟩ := hw'
    subst hw''
    have hB4 := below_regrown W2 dq osq
    go_wp2
    go_ret
    exact ⟨rfl, HB2.out.trans (hB4.mono HB2.out.size)⟩
  · simp only [hx] at N1
    have HN1 := Lib.hid N1
    have HP := Lib.hid hp
    have HB := Lib.hid hb
    have C1 := fun (w : World) => tells_grown (w := w) (K.cmp a b a (b + 1))
    have A1 := fun (w : World) => tells_grown (w := w) (K.has a (b + 1) 2 (b + 1))
    have A2 := fun (w : World) => tells_grown (w := w) (K.has a b 2 (b + 1))
    have L1 := fun (w : World) => tells_grown (w := w) (vlives_c K)
    rw [show vcmp a b a (b + 1) = 1 by unfold vcmp vcov; simp; omega] at C1
    rw [show vhas a (b + 1) 2 (b + 1) = true by unfold vhas; simp; omega] at A1
    rw [show vhas a b 2 (b + 1) = false by unfold vhas; simp; omega] at A2
    have HC1 := Lib.hid C1
    have HA1 := Lib.hid A1
    have HA2 := Lib.hid A2
    have HL1 := Lib.hid L1
    have hone : a + (b + 1) - a - b = 1 := by omega
    clear N1 hp hb hx C1 A1 A2 L1
    go_enter Try.func7, Try.ntmps7
    go_upto_region 1 with (fail)
    generalize w.alloc (.cells #[.int .i64 a, .int .i64 b] 23) = W1 at *
    have a0 := HP.out.c0
    have a1 := HP.out.c1
    go_upto_region 2 with (go_at_call 19; (with_reducible refine (HN1.out _).mono ?_); rintro e w2 ⟨rfl, hb2⟩)
    have hp2 := (HP.out.kept hb2).alloc (.cells #[.int .i64 a, .int .i64 (b + 1)] 23)
    have hx2 := Pair.new w2 23 a (b + 1)
    have HB2 := Lib.hid ((HB.out.trans (hb2.mono HB.out.size)).alloc (Nat.le_trans HB.out.size hb2.size) (.cells #[.int .i64 a, .int .i64 (b + 1)] 23))
    obtain ⟨gx, hgx⟩ : ∃ g, w2.heap.size = g := ⟨_, rfl⟩
    rw [hgx] at hx2 ⊢
    clear a0 a1 hb2 hgx
    generalize w2.alloc (.cells #[.int .i64 a, .int .i64 (b + 1)] 23) = W2 at *
    have a0 := hp2.c0
    have a1 := hp2.c1
    have x0 := hx2.c0
    have x1 := hx2.c1
    have k0 := cell_regrown hp2.c0
    have k1 := cell_regrown hp2.c1
    have k2 := cell_regrown hx2.c0
    have k3 := cell_regrown hx2.c1
    clear hp2 hx2
    go_wp2
    refine wp_region_quiet_below (by kernel_rfl) (by kernel_rfl) ?_
    repeat (go_big_quiet_step (first | with_reducible exact HC1.out _ _ _ | with_reducible exact HA1.out _ _ _ | with_reducible exact HA2.out _ _ _ | with_reducible exact HL1.out _ _ _))
    refine wpQuiet_nil ?_
    intro _ hw'
    obtain ⟨⟨dq, osq⟩, hw''⟩ := hw'
    subst hw''
    have hB4 := below_regrown W2 dq osq
    go_wp2
    go_ret
    exact ⟨rfl, HB2.out.trans (hB4.mono HB2.out.size)⟩
end Go.Proofs.Ytjlolljlhoclhaa
