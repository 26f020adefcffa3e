/-
  Join: the walk of JoinLast.
-/
import Derived.Test.YtkjpmdpljdgcjaaYV
import Derived.Test.YtkjpmdpljdgcjaaYK
namespace Go.Proofs.Ytkjpmdpljdgcjaa
open Go.RowKit Go Go.Sort
set_option linter.unusedVariables false
set_option maxRecDepth 20000

set_option maxRecDepth 100000 in
set_option maxHeartbeats 6400000 in
theorem jlast_walk {w : World} {x : Option Addr} {m cap : Nat} {l : List Cl} (hl : Cls w x m cap l) (hs : ∀ c ∈ l, c.t.length ≤ 9223372036854775807) :
    Calls Try.prog 7 #[.slice x m cap] w (Tells (.bool true) w) := by
  have HLv := Lib.hid jlives_c
  have HL := Lib.hid hl
  have hln := hl.len
  have hle := hl.le
  have hmax := hl.max
  clear hl
  by_cases hm : 60 < m
  · have hmi : (60 : Int) < (m : Int) := by omega
    go_enter Try.func7, Try.ntmps7
    go_wp2_with (go_at_call 10; (with_reducible refine (HLv.out _).mono ?_); rintro e9 w9 ⟨rfl, hb9⟩)
    go_ret
    exact ⟨rfl, hb9⟩
  · have hmi : ¬ (60 : Int) < (m : Int) := by omega
    have ho := zeros w
    have hb := alloc_below w (.cells #[.int .i64 0, .int .i64 0, .int .i64 0, .int .i64 0, .bool false, .string ⟨#[]⟩, .int .i64 0, .int .i64 0] 27)
    go_enter Try.func7, Try.ntmps7
    go_upto_region 4 with (fail)
    obtain ⟨B, hB⟩ : ∃ q, w.heap.size = q := ⟨_, rfl⟩
    have HBe := Lib.hid hB
    have HB0 := Lib.hid hb
    rw [hB] at ho ⊢
    clear hB hb
    generalize w.alloc (.cells #[.int .i64 0, .int .i64 0, .int .i64 0, .int .i64 0, .bool false, .string ⟨#[]⟩, .int .i64 0, .int .i64 0] 27) = W1 at *
    have HO := Lib.hid ho
    clear ho
    go_wp2
    go_loopw [19] (fun i wr => ∃ k : Nat, k ≤ m ∧ i = .int .i64 k ∧ LastInv l k ∧ CelC wr B (joinC (l.take k)) ∧ Below w.heap.size w wr) (fun i _ => m - (intOf i).toNat)
    case atStart => exact ⟨0, by omega, rfl, ⟨fun j hj => by omega, .inl rfl⟩, HO.out, HB0.out⟩
    case round =>
      clear HO HB0
      obtain ⟨k, hk, rfl, hI, hJ, hB⟩ := hrel
      by_cases hlt : k < m
      · have hki : (k : Int) < (m : Int) := by omega
        have hki2 : (k : Int) < (cap : Int) := by omega
        have hki3 : (k : Int) ≤ (cap : Int) := by omega
        obtain ⟨bk, off, rfl, hat⟩ := HL.out.at hlt
        have hyl := hs _ (mem_getD (l := l) (k := k) (by omega))
        have hln2 := fun hc hs => last_next (l := l) (k := k) hI (by omega) hc hs
        obtain ⟨y, hy⟩ : ∃ y, l.getD k Cl.zero = y := ⟨_, rfl⟩
        obtain ⟨J, hj⟩ : ∃ y, joinC (l.take k) = y := ⟨_, rfl⟩
        rw [hy] at hat hyl hln2
        rw [hj] at hJ hln2
        obtain ⟨n', s', a', b', g', t', d', e'⟩ := y
        obtain ⟨n, s, a, b, g, t, d, e⟩ := J
        obtain ⟨p0, p1, p2, p3, p4, p5, p6, p7⟩ := hat wr hB
        simp only at p0 p1 p2 p3 p4 p5 p6 p7 hyl hln2
        have HLN := Lib.hid hln2
        have hC := fun W => cgood_c 1 n' s' a' b' g' t' d' e' hyl W
        have HB := Lib.hid hB
        have HJ := Lib.hid hJ
        clear hat hy hj hln2 hB hJ hI
        go_upto_region 7 with (fail)
        have hx2 := Cel.new wr n' s' a' b' g' t' d' e'
        have HB2 := Lib.hid (HB.out.alloc HB.out.size (.cells #[.int .i64 n', .int .i64 s', .int .i64 a', .int .i64 b', .bool g', .string (text t'), .int .i64 d', .int .i64 e'] 27))
        have HJ2 := Lib.hid (HJ.out.alloc (.cells #[.int .i64 n', .int .i64 s', .int .i64 a', .int .i64 b', .bool g', .string (text t'), .int .i64 d', .int .i64 e'] 27))
        obtain ⟨gx, hgx⟩ : ∃ g, wr.heap.size = g := ⟨_, rfl⟩
        have HGX := Lib.hid (show gx ≠ B by have := Cel.lt HJ.out; omega)
        rw [hgx] at hx2 ⊢
        generalize wr.alloc (.cells #[.int .i64 n', .int .i64 s', .int .i64 a', .int .i64 b', .bool g', .string (text t'), .int .i64 d', .int .i64 e'] 27) = W2 at *
        obtain ⟨k0, k1, k2, k3, k4, k5, k6, k7⟩ := hx2.cs
        have HX2 := Lib.hid hx2
        clear hx2 p0 p1 p2 p3 p4 p5 p6 p7 HB HJ hgx
        cases hb : cgoodS 1 n' s' a' b' g' t' d' e' with
        | false =>
          rw [hb] at hC
          have HC := Lib.hid hC
          clear hC hb
          go_wp2_with (first
            | (go_at_call 20; (with_reducible refine (HC.out _).mono ?_); rintro e9 w3 ⟨rfl, hb3⟩)
            | (go_at_call 10; (with_reducible refine (HLv.out _).mono ?_); rintro e9 w4 ⟨rfl, hb4⟩))
          go_ret
          exact ⟨rfl, (HB2.out.trans (hb3.mono HB2.out.size)).trans (hb4.mono (Nat.le_trans HB2.out.size hb3.size))⟩
        | true =>
          rw [hb] at hC
          have HC := Lib.hid hC
          replace HLN := Lib.hid (fun hs => HLN.out hb hs)
          clear hC hb
          go_upto_region 10 with (go_at_call 20; (with_reducible refine (HC.out _).mono ?_); rintro e9 w3 ⟨rfl, hb3⟩)
          have HX3 := Lib.hid (HX2.out.kept hb3)
          have HJ3 := Lib.hid (HJ2.out.kept hb3)
          have HB3 := Lib.hid (HB2.out.trans (hb3.mono HB2.out.size))
          clear hb3 HX2 HJ2 HB2 k0 k1 k2 k3 k4 k5 k6 k7
          go_loopw [32] (fun i wr => ∃ j : Nat, j ≤ k ∧ i = .int .i64 j ∧ (∀ i, i < j → n' = (l.getD i Cl.zero).n → s' = (l.getD i Cl.zero).s → (⟨n', s', a', b', g', t', d', e'⟩ : Cl) = l.getD i Cl.zero) ∧ Cel wr gx n' s' a' b' g' t' d' e' ∧ CelC wr B ⟨n, s, a, b, g, t, d, e⟩ ∧ Below w.heap.size w wr) (fun i _ => k - (intOf i).toNat)
          case atStart => exact ⟨0, by omega, rfl, fun i hi => by omega, HX3.out, HJ3.out, HB3.out⟩
          case round =>
            clear HX3 HJ3 HB3
            obtain ⟨j, hj, rfl, hsm, hC2, hJ2, hB2⟩ := hrel
            by_cases hjt : j < k
            · have hji : (j : Int) < (k : Int) := by omega
              have hji2 : (j : Int) < (cap : Int) := by omega
              have hjm : j < m := by omega
              obtain ⟨bk', off', hbk, hat⟩ := HL.out.at hjm
              injection hbk with hbk
              injection hbk with hbk1 hbk2
              subst hbk1
              subst hbk2
              have hnx := fun (h : (n' = (l.getD j Cl.zero).n → s' = (l.getD j Cl.zero).s → (⟨n', s', a', b', g', t', d', e'⟩ : Cl) = l.getD j Cl.zero)) => (fun i (hi : i < j + 1) => if e : i = j then (by rw [e]; exact h : n' = (l.getD i Cl.zero).n → s' = (l.getD i Cl.zero).s → (⟨n', s', a', b', g', t', d', e'⟩ : Cl) = l.getD i Cl.zero) else hsm i (by omega))
              obtain ⟨z, hz⟩ : ∃ z, l.getD j Cl.zero = z := ⟨_, rfl⟩
              rw [hz] at hat hnx
              obtain ⟨n'', s'', a'', b'', g'', t'', d'', e''⟩ := z
              obtain ⟨p0, p1, p2, p3, p4, p5, p6, p7⟩ := hat wr hB2
              simp only at p0 p1 p2 p3 p4 p5 p6 p7 hnx
              have HNX := Lib.hid hnx
              have HC2 := Lib.hid hC2
              have HJ2 := Lib.hid hJ2
              have HB2 := Lib.hid hB2
              clear hat hnx hz hsm hC2 hJ2 hB2
              go_upto_region 12 with (fail)
              have hd := Cel.new wr n'' s'' a'' b'' g'' t'' d'' e''
              have HC3 := Lib.hid (HC2.out.alloc (.cells #[.int .i64 n'', .int .i64 s'', .int .i64 a'', .int .i64 b'', .bool g'', .string (text t''), .int .i64 d'', .int .i64 e''] 27))
              have HJ3 := Lib.hid (HJ2.out.alloc (.cells #[.int .i64 n'', .int .i64 s'', .int .i64 a'', .int .i64 b'', .bool g'', .string (text t''), .int .i64 d'', .int .i64 e''] 27))
              have HB3 := Lib.hid (HB2.out.alloc HB2.out.size (.cells #[.int .i64 n'', .int .i64 s'', .int .i64 a'', .int .i64 b'', .bool g'', .string (text t''), .int .i64 d'', .int .i64 e''] 27))
              obtain ⟨gd, hgd⟩ : ∃ g, wr.heap.size = g := ⟨_, rfl⟩
              rw [hgd] at hd ⊢
              clear hgd
              generalize wr.alloc (.cells #[.int .i64 n'', .int .i64 s'', .int .i64 a'', .int .i64 b'', .bool g'', .string (text t''), .int .i64 d'', .int .i64 e''] 27) = W3 at *
              obtain ⟨k0, k1, k2, k3, k4, k5, k6, k7⟩ := HC3.out.cs
              obtain ⟨d0, d1, d2, d3, d4, d5, d6, d7⟩ := hd.cs
              clear p0 p1 p2 p3 p4 p5 p6 p7 hd HC2 HJ2 HB2
              have hng := stamp_eqg
              have hceg := cell_eqg
              cases q1 : ((n' == n'') && (s' == s'')) with
              | false =>
                have hne := stamp_eqb n' s' n'' s'' _ q1
                have HN2 := Lib.hid (HNX.out (fun h1 h2 => by subst h1; subst h2; simp at q1))
                clear q1 HNX
                go_wp2
                go_roundw
                case rel => exact ⟨j + 1, by omega, by go_num, HN2.out, HC3.out, HJ3.out, HB3.out⟩
                case measure => simp [intOf]; omega
              | true =>
                have hne := stamp_eqb n' s' n'' s'' _ q1
                cases q2 : cellEq n' s' a' b' g' t' d' e' n'' s'' a'' b'' g'' t'' d'' e'' with
                | false =>
                  have hcn := cell_neb n' s' a' b' g' t' d' e' n'' s'' a'' b'' g'' t'' d'' e'' _ q2
                  clear q1 q2 HNX
                  go_wp2_with (go_at_call 10; (with_reducible refine (HLv.out _).mono ?_); rintro e9 w9 ⟨rfl, hb9⟩)
                  go_ret
                  exact ⟨rfl, HB3.out.trans (hb9.mono HB3.out.size)⟩
                | true =>
                  have hcn := cell_neb n' s' a' b' g' t' d' e' n'' s'' a'' b'' g'' t'' d'' e'' _ q2
                  have HN2 := Lib.hid (HNX.out (fun h1 h2 => (same_iff ⟨n', s', a', b', g', t', d', e'⟩ ⟨n'', s'', a'', b'', g'', t'', d'', e''⟩).1 q2))
                  clear q1 q2 HNX
                  go_wp2
                  go_roundw
                  case rel => exact ⟨j + 1, by omega, by go_num, HN2.out, HC3.out, HJ3.out, HB3.out⟩
                  case measure => simp [intOf]; omega
            · obtain rfl : j = k := by omega
              have HS := Lib.hid (HLN.out hsm)
              obtain ⟨k0, k1, k2, k3, k4, k5, k6, k7⟩ := hC2.cs
              obtain ⟨c0, c1, c2, c3, c4, c5, c6, c7⟩ := (show Cel wr B n s a b g t d e from hJ2).cs
              have cfz := (show Cel wr B n s a b g t d e from hJ2).fz
              have hlB := (show Cel wr B n s a b g t d e from hJ2).lt
              have HJ2 := Lib.hid (show Cel wr B n s a b g t d e from hJ2)
              have HB2 := Lib.hid hB2
              clear hsm hC2 hJ2 hB2
              by_cases f1 : n < n'
              · have HSL := Lib.hid (show sless n s n' s' = true by unfold sless; simp; omega)
                clear hlB
                have HST := Lib.hid (show joinC (l.take (j + 1)) = ⟨n', s', a', b', g', t', d', e'⟩ by have h := HS.out.2; rw [HSL.out] at h; exact h)
                go_wp2
                go_roundw
                case rel => exact ⟨j + 1, by omega, by go_num, HS.out.1, by rw [HST.out]; exact HJ2.out.put n' s' a' b' g' t' d' e', put_below HB2.out (by have := HBe.out; omega) n' s' a' b' g' t' d' e'⟩
                case measure => simp [intOf]; omega
              · by_cases f2 : n = n'
                · have f2b : (n == n') = true := by simpa using f2
                  by_cases f3 : s < s'
                  · have HSL := Lib.hid (show sless n s n' s' = true by unfold sless; simp; omega)
                    clear f2 hlB
                    have HST := Lib.hid (show joinC (l.take (j + 1)) = ⟨n', s', a', b', g', t', d', e'⟩ by have h := HS.out.2; rw [HSL.out] at h; exact h)
                    go_wp2
                    go_roundw
                    case rel => exact ⟨j + 1, by omega, by go_num, HS.out.1, by rw [HST.out]; exact HJ2.out.put n' s' a' b' g' t' d' e', put_below HB2.out (by have := HBe.out; omega) n' s' a' b' g' t' d' e'⟩
                    case measure => simp [intOf]; omega
                  · have HSL := Lib.hid (show sless n s n' s' = false by unfold sless; simp; omega)
                    clear f2 hlB
                    have HST := Lib.hid (show joinC (l.take (j + 1)) = ⟨n, s, a, b, g, t, d, e⟩ by have h := HS.out.2; rw [HSL.out] at h; exact h)
                    go_wp2
                    go_roundw
                    case rel => exact ⟨j + 1, by omega, by go_num, HS.out.1, by rw [HST.out]; exact HJ2.out, HB2.out⟩
                    case measure => simp [intOf]; omega
                · have f2b : (n == n') = false := by simpa using f2
                  have HSL := Lib.hid (show sless n s n' s' = false by unfold sless; simp; omega)
                  clear f2 hlB
                  have HST := Lib.hid (show joinC (l.take (j + 1)) = ⟨n, s, a, b, g, t, d, e⟩ by have h := HS.out.2; rw [HSL.out] at h; exact h)
                  go_wp2
                  go_roundw
                  case rel => exact ⟨j + 1, by omega, by go_num, HS.out.1, by rw [HST.out]; exact HJ2.out, HB2.out⟩
                  case measure => simp [intOf]; omega
      · obtain rfl : k = m := by omega
        have hg := last_good hI
        rw [List.take_of_length_le (by omega)] at hJ hg
        have hJC := fun W (h : Below w.heap.size w W) => join_c (HL.out.below h)
        obtain ⟨J, hj⟩ : ∃ y, joinC l = y := ⟨_, rfl⟩
        rw [hj] at hJ hg hJC
        obtain ⟨n, s, a, b, g, t, d, e⟩ := J
        have hlen : t.length ≤ 9223372036854775807 := good_len hg
        have hS := fun W => cseen_c 1 n s a b g t d e hlen W
        obtain ⟨⟨q, b9⟩, hq⟩ : ∃ q, cseenS 1 n s a b g t d e = q := ⟨_, rfl⟩
        rw [hq] at hS
        simp only at hS
        simp only [Cl.arr] at hJC
        have htb : ((text q).toList == (text q).toList) = true := by simp
        obtain ⟨Q, hQ⟩ : ∃ z, text q = z := ⟨_, rfl⟩
        rw [hQ] at htb hS
        have HS := Lib.hid hS
        have HJC := Lib.hid hJC
        have HB := Lib.hid hB
        have HCW := Lib.hid (fun W (h : Below wr.heap.size wr W) => ((show Cel wr B n s a b g t d e from hJ).kept h).cs)
        have HJB := Lib.hid (fun W (h : Below wr.heap.size wr W) => HJC.out W (HB.out.trans (h.mono HB.out.size)))
        clear hJ hB hg hlen hj hq hQ hS hJC hI hs HJC
        have hcur := Below.refl wr.heap.size wr
        obtain ⟨c0, c1, c2, c3, c4, c5, c6, c7⟩ := HCW.out _ hcur
        have hbb : (b9 == b9) = true := by simp
        go_wp2_with (first
          | (go_at_call 13; (with_reducible refine (HJB.out _ hcur).mono ?_); rintro e9 w9 ⟨rfl, hb9⟩; (replace hcur := hcur.trans (hb9.mono hcur.size)); clear hb9; obtain ⟨c0, c1, c2, c3, c4, c5, c6, c7⟩ := HCW.out _ hcur)
          | (go_at_call 21; (with_reducible refine (HS.out _).mono ?_); rintro e9 w9 ⟨rfl, hb9⟩; (replace hcur := hcur.trans (hb9.mono hcur.size)); clear hb9; obtain ⟨c0, c1, c2, c3, c4, c5, c6, c7⟩ := HCW.out _ hcur)
          | (go_at_call 10; (with_reducible refine (HLv.out _).mono ?_); rintro e9 w9 ⟨rfl, hb9⟩; (replace hcur := hcur.trans (hb9.mono hcur.size)); clear hb9))
        go_ret
        exact ⟨rfl, HB.out.trans (hcur.mono HB.out.size)⟩
end Go.Proofs.Ytkjpmdpljdgcjaa
