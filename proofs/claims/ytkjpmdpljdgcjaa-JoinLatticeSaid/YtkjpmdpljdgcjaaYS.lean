/-
  Same of two cells.
-/
import Derived.Test.YtkjpmdpljdgcjaaYC
namespace Go.Proofs.Ytkjpmdpljdgcjaa
open Go.RowKit Go Go.Sort
set_option linter.unusedVariables false
set_option maxRecDepth 20000

set_option maxHeartbeats 6400000 in
theorem rsame_c (n s a b : Int) (g : Bool) (t : List UInt8) (d e : Int) (n' s' a' b' : Int) (g' : Bool) (t' : List UInt8) (d' e' : Int) (w : World) : Calls Try.prog 28 #[.agg #[.int .i64 n, .int .i64 s, .int .i64 a, .int .i64 b, .bool g, .string (text t), .int .i64 d, .int .i64 e], .agg #[.int .i64 n', .int .i64 s', .int .i64 a', .int .i64 b', .bool g', .string (text t'), .int .i64 d', .int .i64 e']] w (Tells (.bool (sameC ⟨n, s, a, b, g, t, d, e⟩ ⟨n', s', a', b', g', t', d', e'⟩)) w) := by
  have hp := (Cel.new w n s a b g t d e).alloc (.cells #[.int .i64 n', .int .i64 s', .int .i64 a', .int .i64 b', .bool g', .string (text t'), .int .i64 d', .int .i64 e'] 27)
  have hq := Cel.new (w.alloc (.cells #[.int .i64 n, .int .i64 s, .int .i64 a, .int .i64 b, .bool g, .string (text t), .int .i64 d, .int .i64 e] 27)) n' s' a' b' g' t' d' e'
  rw [World.size_alloc] at hq
  have HB := Lib.hid ((alloc_below w (.cells #[.int .i64 n, .int .i64 s, .int .i64 a, .int .i64 b, .bool g, .string (text t), .int .i64 d, .int .i64 e] 27)).alloc (by simp) (.cells #[.int .i64 n', .int .i64 s', .int .i64 a', .int .i64 b', .bool g', .string (text t'), .int .i64 d', .int .i64 e'] 27))
  have HV := Lib.hid (show sameC ⟨n, s, a, b, g, t, d, e⟩ ⟨n', s', a', b', g', t', d', e'⟩ = (((n == n') && (s == s')) && (((a == a') && (b == b')) && ((g == g') && (decide (t = t') && ((d == d') && (e == e')))))) from rfl)
  obtain ⟨r, hr⟩ : ∃ r, sameC ⟨n, s, a, b, g, t, d, e⟩ ⟨n', s', a', b', g', t', d', e'⟩ = r := ⟨_, rfl⟩
  rw [hr] at HV ⊢
  have hng := stamp_eqg
  have hvg := vec_eqg
  have hte : ((text t).toList == (text t').toList) = decide (t = t') := by rw [text_eqb, Bool.eq_iff_iff]; simp
  obtain ⟨c0, c1, c2, c3, c4, c5, c6, c7⟩ := hp.cs
  obtain ⟨k0, k1, k2, k3, k4, k5, k6, k7⟩ := hq.cs
  obtain ⟨u, hu⟩ : ∃ u, text t = u := ⟨_, rfl⟩
  obtain ⟨v, hv⟩ : ∃ u, text t' = u := ⟨_, rfl⟩
  rw [hu, hv] at c0 c1 c2 c3 c4 c5 c6 c7 k0 k1 k2 k3 k4 k5 k6 k7 hte HB
  rw [hu, hv]
  obtain ⟨q1, h1⟩ : ∃ q, ((n == n') && (s == s')) = q := ⟨_, rfl⟩
  obtain ⟨q2, h2⟩ : ∃ q, ((a == a') && (b == b')) = q := ⟨_, rfl⟩
  obtain ⟨q3, h3⟩ : ∃ q, (g == g') = q := ⟨_, rfl⟩
  obtain ⟨q4, h4⟩ : ∃ q, decide (t = t') = q := ⟨_, rfl⟩
  obtain ⟨q5, h5⟩ : ∃ q, ((d == d') && (e == e')) = q := ⟨_, rfl⟩
  have e1 := stamp_eqb n s n' s' _ h1
  have e2 := vec_eqb a b a' b' _ h2
  have e5 := vec_eqb d e d' e' _ h5
  rw [h1, h2, h3, h4, h5] at HV
  rw [h4] at hte
  clear hp hq hr hu hv h1 h2 h4 h5
  cases q1 with
  | false =>
    go_enter Try.func28, Try.ntmps28
    go_wp2
    go_ret
    exact ⟨by rw [HV.out]; rfl, HB.out⟩
  | true =>
  cases q2 with
  | false =>
    go_enter Try.func28, Try.ntmps28
    go_wp2
    go_ret
    exact ⟨by rw [HV.out]; rfl, HB.out⟩
  | true =>
  cases q3 with
  | false =>
    go_enter Try.func28, Try.ntmps28
    go_wp2
    go_ret
    exact ⟨by rw [HV.out]; rfl, HB.out⟩
  | true =>
  cases q4 with
  | false =>
    go_enter Try.func28, Try.ntmps28
    go_wp2
    go_ret
    exact ⟨by rw [HV.out]; rfl, HB.out⟩
  | true =>
    go_enter Try.func28, Try.ntmps28
    go_wp2
    go_ret
    exact ⟨by rw [HV.out]; cases q5 <;> rfl, HB.out⟩
end Go.Proofs.Ytkjpmdpljdgcjaa
