/-
  Vec: what the document says of pairs of counts; the reference's functions.
-/
import Derived.Test.YtjlolljlhoclhaaV0
namespace Go.Proofs.Ytjlolljlhoclhaa
open Go.RowKit Go Go.Sort
set_option linter.unusedVariables false

def vgood (a b : Int) : Bool := decide (0 ≤ a) && (decide (a ≤ 1099511627776) && (decide (0 ≤ b) && decide (b ≤ 1099511627776)))
def vcov (a b c d : Int) : Bool := decide (c ≤ a) && decide (d ≤ b)
def vcmp (a b c d : Int) : Int := if vcov a b c d = true then (if vcov c d a b = true then 0 else 2) else (if vcov c d a b = true then 1 else 3)

set_option maxHeartbeats 1600000 in
theorem rvgood_c (a b : Int) (w : World) : Calls Try.prog 9 #[.agg #[.int .i64 a, .int .i64 b]] w (Tells (.bool (vgood a b)) w) := by
  have hp := Pair.new w 23 a b
  have hb := alloc_below w (.cells #[.int .i64 a, .int .i64 b] 23)
  have h0 := hp.c0
  have h1 := hp.c1
  have HB := Lib.hid hb
  have HV := Lib.hid (show vgood a b = (decide (0 ≤ a) && (decide (a ≤ 1099511627776) && (decide (0 ≤ b) && decide (b ≤ 1099511627776)))) from rfl)
  clear hp hb
  by_cases g0 : 0 ≤ a
  · by_cases g1 : a ≤ 1099511627776
    · by_cases g2 : 0 ≤ b
      · by_cases g3 : b ≤ 1099511627776
        · go_enter Try.func9, Try.ntmps9
          go_wp2
          go_ret
          exact ⟨by rw [HV.out]; simp; omega, HB.out⟩
        · go_enter Try.func9, Try.ntmps9
          go_wp2
          go_ret
          exact ⟨by rw [HV.out]; simp; omega, HB.out⟩
      · go_enter Try.func9, Try.ntmps9
        go_wp2
        go_ret
        exact ⟨by rw [HV.out]; simp; omega, HB.out⟩
    · go_enter Try.func9, Try.ntmps9
      go_wp2
      go_ret
      exact ⟨by rw [HV.out]; simp; omega, HB.out⟩
  · go_enter Try.func9, Try.ntmps9
    go_wp2
    go_ret
    exact ⟨by rw [HV.out]; simp; omega, HB.out⟩

set_option maxHeartbeats 1600000 in
theorem rvcov_c (a b c d : Int) (w : World) : Calls Try.prog 11 #[.agg #[.int .i64 a, .int .i64 b], .agg #[.int .i64 c, .int .i64 d]] w (Tells (.bool (vcov a b c d)) w) := by
  have hp := (Pair.new w 23 a b).alloc (.cells #[.int .i64 c, .int .i64 d] 23)
  have hq := Pair.new (w.alloc (.cells #[.int .i64 a, .int .i64 b] 23)) 23 c d
  rw [World.size_alloc] at hq
  have hb := (alloc_below w (.cells #[.int .i64 a, .int .i64 b] 23)).alloc (by simp) (.cells #[.int .i64 c, .int .i64 d] 23)
  have h0 := hp.c0
  have h1 := hp.c1
  have k0 := hq.c0
  have k1 := hq.c1
  have HB := Lib.hid hb
  have HV := Lib.hid (show vcov a b c d = (decide (c ≤ a) && decide (d ≤ b)) from rfl)
  clear hp hq hb
  by_cases g0 : c ≤ a
  · by_cases g1 : d ≤ b
    · go_enter Try.func11, Try.ntmps11
      go_wp2
      go_ret
      exact ⟨by rw [HV.out]; simp; omega, HB.out⟩
    · go_enter Try.func11, Try.ntmps11
      go_wp2
      go_ret
      exact ⟨by rw [HV.out]; simp; omega, HB.out⟩
  · go_enter Try.func11, Try.ntmps11
    go_wp2
    go_ret
    exact ⟨by rw [HV.out]; simp; omega, HB.out⟩

/-- Both pairs' cells, in every world in which nothing of the old is turned. -/
theorem two_cells {W W' : World} {g1 g2 : Nat} {t1 t2 : TypeId} {a b c d : Int} (h : Pair W g1 t1 a b) (k : Pair W g2 t2 c d) (hb : Below W.heap.size W W') :
    W'.cell? ⟨g1, 0, none⟩ = some (.int .i64 a) ∧ W'.cell? ⟨g1, 1, none⟩ = some (.int .i64 b) ∧ W'.cell? ⟨g2, 0, none⟩ = some (.int .i64 c) ∧ W'.cell? ⟨g2, 1, none⟩ = some (.int .i64 d) :=
  ⟨(h.kept hb).c0, (h.kept hb).c1, (k.kept hb).c0, (k.kept hb).c1⟩
set_option maxHeartbeats 1600000 in
theorem rvcmp_c (a b c d : Int) (w : World) : Calls Try.prog 13 #[.agg #[.int .i64 a, .int .i64 b], .agg #[.int .i64 c, .int .i64 d]] w (Tells (.int .i64 (vcmp a b c d)) w) := by
  have hp := (Pair.new w 23 a b).alloc (.cells #[.int .i64 c, .int .i64 d] 23)
  have hq := Pair.new (w.alloc (.cells #[.int .i64 a, .int .i64 b] 23)) 23 c d
  rw [World.size_alloc] at hq
  have hb := (alloc_below w (.cells #[.int .i64 a, .int .i64 b] 23)).alloc (by simp) (.cells #[.int .i64 c, .int .i64 d] 23)
  have HP := Lib.hid hp
  have HQ := Lib.hid hq
  have HB := Lib.hid hb
  have HV := Lib.hid (show vcmp a b c d = if vcov a b c d = true then (if vcov c d a b = true then 0 else 2) else (if vcov c d a b = true then 1 else 3) from rfl)
  have H1 := Lib.hid (rvcov_c a b c d)
  have H2 := Lib.hid (rvcov_c c d a b)
  clear hp hq hb
  cases e1 : vcov a b c d <;> cases e2 : vcov c d a b
  · rw [e1] at H1 HV
    rw [e2] at H2 HV
    obtain ⟨a0, a1, b0, b1⟩ := two_cells HP.out HQ.out (Below.refl _ _)
    clear e1 e2
    go_enter Try.func13, Try.ntmps13
    go_wp2_with (first
      | (go_at_call 11; (with_reducible refine (H1.out w2).mono ?_); rintro e w3 ⟨rfl, hb3⟩; have hs3 := (hs2.trans (hb3.mono hs2.size)); obtain ⟨p3, q3, r3, s3⟩ := two_cells HP.out HQ.out hs3)
      | (go_at_call 11; (with_reducible refine (H2.out w1).mono ?_); rintro e w2 ⟨rfl, hb2⟩; have hs2 := (hs1.trans (hb2.mono hs1.size)); obtain ⟨p2, q2, r2, s2⟩ := two_cells HP.out HQ.out hs2)
      | (go_at_call 11; (with_reducible refine (H1.out _).mono ?_); rintro e w1 ⟨rfl, hb1⟩; have hs1 := hb1; obtain ⟨p1, q1, r1, s1⟩ := two_cells HP.out HQ.out hs1))
    go_ret
    exact ⟨by rw [HV.out]; rfl, HB.out.trans (hs3.mono HB.out.size)⟩
  · rw [e1] at H1 HV
    rw [e2] at H2 HV
    obtain ⟨a0, a1, b0, b1⟩ := two_cells HP.out HQ.out (Below.refl _ _)
    clear e1 e2
    go_enter Try.func13, Try.ntmps13
    go_wp2_with (first
      | (go_at_call 11; (with_reducible refine (H2.out w1).mono ?_); rintro e w2 ⟨rfl, hb2⟩; have hs2 := (hs1.trans (hb2.mono hs1.size)); obtain ⟨p2, q2, r2, s2⟩ := two_cells HP.out HQ.out hs2)
      | (go_at_call 11; (with_reducible refine (H1.out _).mono ?_); rintro e w1 ⟨rfl, hb1⟩; have hs1 := hb1; obtain ⟨p1, q1, r1, s1⟩ := two_cells HP.out HQ.out hs1))
    go_ret
    exact ⟨by rw [HV.out]; rfl, HB.out.trans (hs2.mono HB.out.size)⟩
  · rw [e1] at H1 HV
    rw [e2] at H2 HV
    obtain ⟨a0, a1, b0, b1⟩ := two_cells HP.out HQ.out (Below.refl _ _)
    clear e1 e2
    go_enter Try.func13, Try.ntmps13
    go_wp2_with (first
      | (go_at_call 11; (with_reducible refine (H1.out w3).mono ?_); rintro e w4 ⟨rfl, hb4⟩; have hs4 := (hs3.trans (hb4.mono hs3.size)); obtain ⟨p4, q4, r4, s4⟩ := two_cells HP.out HQ.out hs4)
      | (go_at_call 11; (with_reducible refine (H2.out w2).mono ?_); rintro e w3 ⟨rfl, hb3⟩; have hs3 := (hs2.trans (hb3.mono hs2.size)); obtain ⟨p3, q3, r3, s3⟩ := two_cells HP.out HQ.out hs3)
      | (go_at_call 11; (with_reducible refine (H2.out w1).mono ?_); rintro e w2 ⟨rfl, hb2⟩; have hs2 := (hs1.trans (hb2.mono hs1.size)); obtain ⟨p2, q2, r2, s2⟩ := two_cells HP.out HQ.out hs2)
      | (go_at_call 11; (with_reducible refine (H1.out _).mono ?_); rintro e w1 ⟨rfl, hb1⟩; have hs1 := hb1; obtain ⟨p1, q1, r1, s1⟩ := two_cells HP.out HQ.out hs1))
    go_ret
    exact ⟨by rw [HV.out]; rfl, HB.out.trans (hs4.mono HB.out.size)⟩
  · rw [e1] at H1 HV
    rw [e2] at H2 HV
    obtain ⟨a0, a1, b0, b1⟩ := two_cells HP.out HQ.out (Below.refl _ _)
    clear e1 e2
    go_enter Try.func13, Try.ntmps13
    go_wp2_with (first
      | (go_at_call 11; (with_reducible refine (H2.out w1).mono ?_); rintro e w2 ⟨rfl, hb2⟩; have hs2 := (hs1.trans (hb2.mono hs1.size)); obtain ⟨p2, q2, r2, s2⟩ := two_cells HP.out HQ.out hs2)
      | (go_at_call 11; (with_reducible refine (H1.out _).mono ?_); rintro e w1 ⟨rfl, hb1⟩; have hs1 := hb1; obtain ⟨p1, q1, r1, s1⟩ := two_cells HP.out HQ.out hs1))
    go_ret
    exact ⟨by rw [HV.out]; rfl, HB.out.trans (hs2.mono HB.out.size)⟩
end Go.Proofs.Ytjlolljlhoclhaa
