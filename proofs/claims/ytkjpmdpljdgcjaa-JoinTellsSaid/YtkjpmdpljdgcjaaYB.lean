/-
  Join: Less of both.
-/
import Derived.Test.YtkjpmdpljdgcjaaYA
namespace Go.Proofs.Ytkjpmdpljdgcjaa
open Go.RowKit Go Go.Sort
set_option linter.unusedVariables false
set_option maxRecDepth 20000

theorem text_eqb (t t' : List UInt8) : ((text t).toList == (text t').toList) = (t == t') := by rw [text_toList, text_toList]
theorem text_lss (t t' : List UInt8) : Op.bytesLess (text t).toList (text t').toList = Op.bytesLess t t' := by rw [text_toList, text_toList]

set_option maxHeartbeats 3200000 in
theorem less_c (n s a b : Int) (g : Bool) (t : List UInt8) (d e : Int) (n' s' a' b' : Int) (g' : Bool) (t' : List UInt8) (d' e' : Int) (w : World) : Calls Try.prog 11 #[.agg #[.int .i64 n, .int .i64 s, .int .i64 a, .int .i64 b, .bool g, .string (text t), .int .i64 d, .int .i64 e], .agg #[.int .i64 n', .int .i64 s', .int .i64 a', .int .i64 b', .bool g', .string (text t'), .int .i64 d', .int .i64 e']] w (Tells (.bool (lessS ⟨n, s, a, b, g, t, d, e⟩ ⟨n', s', a', b', g', t', d', e'⟩)) w) := by
  have hp := (Cel.new w n s a b g t d e).alloc (.cells #[.int .i64 n', .int .i64 s', .int .i64 a', .int .i64 b', .bool g', .string (text t'), .int .i64 d', .int .i64 e'] 27)
  have hq := Cel.new (w.alloc (.cells #[.int .i64 n, .int .i64 s, .int .i64 a, .int .i64 b, .bool g, .string (text t), .int .i64 d, .int .i64 e] 27)) n' s' a' b' g' t' d' e'
  rw [World.size_alloc] at hq
  have HB := Lib.hid ((alloc_below w (.cells #[.int .i64 n, .int .i64 s, .int .i64 a, .int .i64 b, .bool g, .string (text t), .int .i64 d, .int .i64 e] 27)).alloc (by simp) (.cells #[.int .i64 n', .int .i64 s', .int .i64 a', .int .i64 b', .bool g', .string (text t'), .int .i64 d', .int .i64 e'] 27))
  have HV := Lib.hid (show lessS ⟨n, s, a, b, g, t, d, e⟩ ⟨n', s', a', b', g', t', d', e'⟩ = if ((n == n') && (s == s')) = false then sless n s n' s' else if (g == g') = false then g' else if (t == t') = false then Op.bytesLess t t' else if (a == a') = false then decide (a < a') else decide (b < b') from rfl)
  obtain ⟨r, hr⟩ : ∃ r, lessS ⟨n, s, a, b, g, t, d, e⟩ ⟨n', s', a', b', g', t', d', e'⟩ = r := ⟨_, rfl⟩
  rw [hr] at HV ⊢
  have hng := stamp_eqg
  have hte := text_eqb t t'
  have htl := text_lss t t'
  obtain ⟨c0, c1, c2, c3, c4, c5, c6, c7⟩ := hp.cs
  obtain ⟨k0, k1, k2, k3, k4, k5, k6, k7⟩ := hq.cs
  obtain ⟨u, hu⟩ : ∃ u, text t = u := ⟨_, rfl⟩
  obtain ⟨v, hv⟩ : ∃ u, text t' = u := ⟨_, rfl⟩
  rw [hu, hv] at c0 c1 c2 c3 c4 c5 c6 c7 k0 k1 k2 k3 k4 k5 k6 k7 hte htl HB
  rw [hu, hv]
  clear hp hq hr hu hv
  cases q1 : ((n == n') && (s == s')) with
  | false =>
    have hne := stamp_neb n s n' s' _ q1
    rw [q1] at HV
    have HS := Lib.hid (fun W => sless_c n s n' s' W)
    clear q1 hte htl
    go_enter Try.func11, Try.ntmps11
    go_wp2_with (go_at_call 23; (with_reducible refine (HS.out _).mono ?_); rintro e9 w9 ⟨rfl, hb9⟩)
    go_ret
    exact ⟨by rw [HV.out]; rfl, HB.out.trans (hb9.mono HB.out.size)⟩
  | true =>
    have hne := stamp_neb n s n' s' _ q1
    rw [q1] at HV
    clear q1
    cases q2 : (g == g') with
    | false =>
      rw [q2] at HV
      have q2' : (g != g') = true := by rw [bne, q2]; rfl
      clear hte htl
      go_enter Try.func11, Try.ntmps11
      go_wp2
      go_ret
      exact ⟨by rw [HV.out]; rfl, HB.out⟩
    | true =>
      rw [q2] at HV
      have q2' : (g != g') = false := by rw [bne, q2]; rfl
      skip
      cases q3 : (t == t') with
      | false =>
        rw [q3] at HV hte
        skip
        obtain ⟨q5, hq5⟩ : ∃ q, Op.bytesLess t t' = q := ⟨_, rfl⟩
        rw [hq5] at htl HV
        clear hq5
        go_enter Try.func11, Try.ntmps11
        go_wp2
        go_ret
        exact ⟨by rw [HV.out]; rfl, HB.out⟩
      | true =>
        rw [q3] at HV hte
        clear htl
        cases q4 : (a == a') with
        | false =>
          rw [q4] at HV
          have q4' : (a != a') = true := by rw [bne, q4]; rfl
          skip
          go_enter Try.func11, Try.ntmps11
          go_wp2
          go_ret
          exact ⟨by rw [HV.out]; rfl, HB.out⟩
        | true =>
          rw [q4] at HV
          have q4' : (a != a') = false := by rw [bne, q4]; rfl
          skip
          go_enter Try.func11, Try.ntmps11
          go_wp2
          go_ret
          exact ⟨by rw [HV.out]; rfl, HB.out⟩

set_option maxHeartbeats 3200000 in
theorem rless_c (n s a b : Int) (g : Bool) (t : List UInt8) (d e : Int) (n' s' a' b' : Int) (g' : Bool) (t' : List UInt8) (d' e' : Int) (w : World) : Calls Try.prog 12 #[.agg #[.int .i64 n, .int .i64 s, .int .i64 a, .int .i64 b, .bool g, .string (text t), .int .i64 d, .int .i64 e], .agg #[.int .i64 n', .int .i64 s', .int .i64 a', .int .i64 b', .bool g', .string (text t'), .int .i64 d', .int .i64 e']] w (Tells (.bool (lessS ⟨n, s, a, b, g, t, d, e⟩ ⟨n', s', a', b', g', t', d', e'⟩)) w) := by
  have hp := (Cel.new w n s a b g t d e).alloc (.cells #[.int .i64 n', .int .i64 s', .int .i64 a', .int .i64 b', .bool g', .string (text t'), .int .i64 d', .int .i64 e'] 27)
  have hq := Cel.new (w.alloc (.cells #[.int .i64 n, .int .i64 s, .int .i64 a, .int .i64 b, .bool g, .string (text t), .int .i64 d, .int .i64 e] 27)) n' s' a' b' g' t' d' e'
  rw [World.size_alloc] at hq
  have HB := Lib.hid ((alloc_below w (.cells #[.int .i64 n, .int .i64 s, .int .i64 a, .int .i64 b, .bool g, .string (text t), .int .i64 d, .int .i64 e] 27)).alloc (by simp) (.cells #[.int .i64 n', .int .i64 s', .int .i64 a', .int .i64 b', .bool g', .string (text t'), .int .i64 d', .int .i64 e'] 27))
  have HV := Lib.hid (show lessS ⟨n, s, a, b, g, t, d, e⟩ ⟨n', s', a', b', g', t', d', e'⟩ = if ((n == n') && (s == s')) = false then sless n s n' s' else if (g == g') = false then g' else if (t == t') = false then Op.bytesLess t t' else if (a == a') = false then decide (a < a') else decide (b < b') from rfl)
  obtain ⟨r, hr⟩ : ∃ r, lessS ⟨n, s, a, b, g, t, d, e⟩ ⟨n', s', a', b', g', t', d', e'⟩ = r := ⟨_, rfl⟩
  rw [hr] at HV ⊢
  have hng := stamp_eqg
  have hte := text_eqb t t'
  have htl := text_lss t t'
  obtain ⟨c0, c1, c2, c3, c4, c5, c6, c7⟩ := hp.cs
  obtain ⟨k0, k1, k2, k3, k4, k5, k6, k7⟩ := hq.cs
  obtain ⟨u, hu⟩ : ∃ u, text t = u := ⟨_, rfl⟩
  obtain ⟨v, hv⟩ : ∃ u, text t' = u := ⟨_, rfl⟩
  rw [hu, hv] at c0 c1 c2 c3 c4 c5 c6 c7 k0 k1 k2 k3 k4 k5 k6 k7 hte htl HB
  rw [hu, hv]
  clear hp hq hr hu hv
  cases q1 : ((n == n') && (s == s')) with
  | false =>
    have hne := stamp_neb n s n' s' _ q1
    rw [q1] at HV
    have HS := Lib.hid (fun W => rsless_c n s n' s' W)
    clear q1 hte htl
    go_enter Try.func12, Try.ntmps12
    go_wp2_with (go_at_call 24; (with_reducible refine (HS.out _).mono ?_); rintro e9 w9 ⟨rfl, hb9⟩)
    go_ret
    exact ⟨by rw [HV.out]; rfl, HB.out.trans (hb9.mono HB.out.size)⟩
  | true =>
    have hne := stamp_neb n s n' s' _ q1
    rw [q1] at HV
    clear q1
    cases q2 : (g == g') with
    | false =>
      rw [q2] at HV
      have q2' : (g != g') = true := by rw [bne, q2]; rfl
      clear hte htl
      go_enter Try.func12, Try.ntmps12
      go_wp2
      go_ret
      exact ⟨by rw [HV.out]; rfl, HB.out⟩
    | true =>
      rw [q2] at HV
      have q2' : (g != g') = false := by rw [bne, q2]; rfl
      skip
      cases q3 : (t == t') with
      | false =>
        rw [q3] at HV hte
        skip
        obtain ⟨q5, hq5⟩ : ∃ q, Op.bytesLess t t' = q := ⟨_, rfl⟩
        rw [hq5] at htl HV
        clear hq5
        go_enter Try.func12, Try.ntmps12
        go_wp2
        go_ret
        exact ⟨by rw [HV.out]; rfl, HB.out⟩
      | true =>
        rw [q3] at HV hte
        clear htl
        cases q4 : (a == a') with
        | false =>
          rw [q4] at HV
          have q4' : (a != a') = true := by rw [bne, q4]; rfl
          skip
          go_enter Try.func12, Try.ntmps12
          go_wp2
          go_ret
          exact ⟨by rw [HV.out]; rfl, HB.out⟩
        | true =>
          rw [q4] at HV
          have q4' : (a != a') = false := by rw [bne, q4]; rfl
          skip
          go_enter Try.func12, Try.ntmps12
          go_wp2
          go_ret
          exact ⟨by rw [HV.out]; rfl, HB.out⟩
end Go.Proofs.Ytkjpmdpljdgcjaa
