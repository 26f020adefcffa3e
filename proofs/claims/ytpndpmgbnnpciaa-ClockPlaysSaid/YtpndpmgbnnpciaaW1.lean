/-
  Stamp: what the document says of pairs of a number and a site; the reference's Good, Less, Code, Next.
-/
import Derived.Test.YtpndpmgbnnpciaaV0
import Derived.Lib.MinMax
namespace Go.Proofs.Ytpndpmgbnnpciaa
open Go.RowKit Go Go.Sort
set_option linter.unusedVariables false

def sgood (n s : Int) : Bool := decide ((n = 0 ∧ s = 0) ∨ (1 ≤ n ∧ n ≤ 281474976710656 ∧ (s = 1 ∨ s = 2)))
def sless (n s m t : Int) : Bool := decide (n < m ∨ (n = m ∧ s < t))
def scode (n s : Int) : Int := if n = 0 then 0 else 2 * n + s - 1
def snext (n s now site : Int) : (Int × Int) × Int :=
  if (site ≠ 1 ∧ site ≠ 2) ∨ sgood n s = false then ((0, 0), 2)
  else if 281474976710656 < max (n + 1) (min now 1099511627776) then ((0, 0), 50) else ((max (n + 1) (min now 1099511627776), site), 0)
theorem size2s (a b : Int) : (Try.prog.info? 66).map (·.size) = some (#[Value.int .i64 a, Value.int .i64 b] : Array Value).size := by
  show _ = some 2
  kernel_rfl

set_option maxHeartbeats 1600000 in
theorem rsgood_c (n s : Int) (w : World) : Calls Try.prog 78 #[.agg #[.int .i64 n, .int .i64 s]] w (Tells (.bool (sgood n s)) w) := by
  have hp := Pair.new w 66 n s
  have hb := alloc_below w (.cells #[.int .i64 n, .int .i64 s] 66)
  have h0 := hp.c0
  have h1 := hp.c1
  have HB := Lib.hid hb
  have HV := Lib.hid (show sgood n s = decide ((n = 0 ∧ s = 0) ∨ (1 ≤ n ∧ n ≤ 281474976710656 ∧ (s = 1 ∨ s = 2))) from rfl)
  clear hp hb
  by_cases n0 : n = 0
  · subst n0
    by_cases s0 : s = 0
    · subst s0
      go_enter Try.func78, Try.ntmps78
      go_wp2
      go_ret
      exact ⟨by rw [HV.out]; simp; try omega, HB.out⟩
    · have e0 : (s == 0) = false := by simpa using s0
      go_enter Try.func78, Try.ntmps78
      go_wp2
      go_ret
      exact ⟨by rw [HV.out]; simp; try omega, HB.out⟩
  · have e0 : (n == 0) = false := by simpa using n0
    by_cases n1 : 1 ≤ n
    · by_cases n2 : n ≤ 281474976710656
      · by_cases s1 : s = 1
        · subst s1
          go_enter Try.func78, Try.ntmps78
          go_wp2
          go_ret
          exact ⟨by rw [HV.out]; simp; try omega, HB.out⟩
        · have e1 : (s == 1) = false := by simpa using s1
          by_cases s2 : s = 2
          · subst s2
            go_enter Try.func78, Try.ntmps78
            go_wp2
            go_ret
            exact ⟨by rw [HV.out]; simp; try omega, HB.out⟩
          · have e2 : (s == 2) = false := by simpa using s2
            go_enter Try.func78, Try.ntmps78
            go_wp2
            go_ret
            exact ⟨by rw [HV.out]; simp; try omega, HB.out⟩
      · go_enter Try.func78, Try.ntmps78
        go_wp2
        go_ret
        exact ⟨by rw [HV.out]; simp; try omega, HB.out⟩
    · go_enter Try.func78, Try.ntmps78
      go_wp2
      go_ret
      exact ⟨by rw [HV.out]; simp; try omega, HB.out⟩

set_option maxHeartbeats 1600000 in
theorem rsless_c (n s m t : Int) (w : World) : Calls Try.prog 92 #[.agg #[.int .i64 n, .int .i64 s], .agg #[.int .i64 m, .int .i64 t]] w (Tells (.bool (sless n s m t)) w) := by
  have hp := (Pair.new w 66 n s).alloc (.cells #[.int .i64 m, .int .i64 t] 66)
  have hq := Pair.second w (.cells #[.int .i64 n, .int .i64 s] 66) 66 m t
  have hb := second_below w (.cells #[.int .i64 n, .int .i64 s] 66) (.cells #[.int .i64 m, .int .i64 t] 66)
  have h0 := hp.c0
  have h1 := hp.c1
  have k0 := hq.c0
  have k1 := hq.c1
  have HB := Lib.hid hb
  have HV := Lib.hid (show sless n s m t = decide (n < m ∨ (n = m ∧ s < t)) from rfl)
  clear hp hq hb
  by_cases e : n = m
  · subst e
    by_cases l : s < t
    all_goals
      go_enter Try.func92, Try.ntmps92
      go_wp2
      go_ret
      exact ⟨by rw [HV.out]; simp; try omega, HB.out⟩
  · have e0 : (n != m) = true := by simpa using e
    by_cases l : n < m
    all_goals
      go_enter Try.func92, Try.ntmps92
      go_wp2
      go_ret
      exact ⟨by rw [HV.out]; simp; try omega, HB.out⟩

set_option maxHeartbeats 1600000 in
theorem rsnext_c (n s now site : Int) (w : World) : Calls Try.prog 84 #[.agg #[.int .i64 n, .int .i64 s], .int .i64 now, .int .i64 site] w (Tells (.tuple #[.agg #[.int .i64 (snext n s now site).1.1, .int .i64 (snext n s now site).1.2], .int .i64 (snext n s now site).2]) w) := by
  have hp := (Pair.new w 66 n s).alloc (.cells #[.int .i64 0, .int .i64 0] 66)
  have ho := Pair.second w (.cells #[.int .i64 n, .int .i64 s] 66) 66 0 0
  have hb := second_below w (.cells #[.int .i64 n, .int .i64 s] 66) (.cells #[.int .i64 0, .int .i64 0] 66)
  have HP := Lib.hid hp
  have HO := Lib.hid ho
  have HB := Lib.hid hb
  have HG := Lib.hid (rsgood_c n s)
  have HV := Lib.hid (show snext n s now site = if (site ≠ 1 ∧ site ≠ 2) ∨ sgood n s = false then ((0, 0), 2) else if 281474976710656 < max (n + 1) (min now 1099511627776) then ((0, 0), 50) else ((max (n + 1) (min now 1099511627776), site), 0) from rfl)
  clear hp ho hb
  by_cases hs : site = 1 ∨ site = 2
  · cases hg : sgood n s with
    | false =>
      rw [hg] at HG
      have hv : snext n s now site = ((0, 0), 2) := by rw [HV.out, if_pos (.inr hg)]
      rw [hv]
      have l0 := HP.out.c0
      have l1 := HP.out.c1
      clear hv hg
      rcases hs with rfl | rfl
      all_goals
        go_enter Try.func84, Try.ntmps84
        go_wp2_with (go_at_call 78; (with_reducible refine (HG.out _).mono ?_); rintro e w1 ⟨rfl, hb1⟩; have o0 := (HO.out.kept hb1).c0; have o1 := (HO.out.kept hb1).c1; have z0 := (HO.out.kept hb1).fz 0; have z1 := (HO.out.kept hb1).fz 1)
        refine bodyPost_ret (res_cell_tmp rfl _ _ (w.heap.size + 1) 66 _ (0, 0) _ _ rfl rfl (((HO.out.kept hb1).set0 0).set1 0) Try.underlying66 rfl (size2s _ _)) rfl ⟨rfl, ((HB.out.trans (hb1.mono HB.out.size)).setCell (by simp) _).setCell (by simp) _⟩
    | true =>
      rw [hg] at HG
      have hgd : (n = 0 ∧ s = 0) ∨ (1 ≤ n ∧ n ≤ 281474976710656 ∧ (s = 1 ∨ s = 2)) := by simpa [sgood] using hg
      have hnb : 0 ≤ n ∧ n ≤ 281474976710656 := by omega
      have l0 := HP.out.c0
      have l1 := HP.out.c1
      obtain ⟨k, hk⟩ : ∃ k, max (n + 1) (min now 1099511627776) = k := ⟨_, rfl⟩
      rw [hk] at HV
      by_cases hm : 281474976710656 < k
      · have hv : snext n s now site = ((0, 0), 50) := by rw [HV.out, if_neg (by rw [hg]; rcases hs with rfl | rfl <;> simp), if_pos hm]
        rw [hv]
        clear hv hg hgd
        rcases hs with rfl | rfl
        all_goals
          go_enter Try.func84, Try.ntmps84
          go_wp2_with (go_at_call 78; (with_reducible refine (HG.out _).mono ?_); rintro e w1 ⟨rfl, hb1⟩; have o0 := (HO.out.kept hb1).c0; have o1 := (HO.out.kept hb1).c1; have z0 := (HO.out.kept hb1).fz 0; have z1 := (HO.out.kept hb1).fz 1; have m0 := (HP.out.kept hb1).c0; have m1 := (HP.out.kept hb1).c1)
          refine bodyPost_ret (res_cell_tmp rfl _ _ (w.heap.size + 1) 66 _ (0, 0) _ _ rfl rfl (((HO.out.kept hb1).set0 0).set1 0) Try.underlying66 rfl (size2s _ _)) rfl ⟨rfl, ((HB.out.trans (hb1.mono HB.out.size)).setCell (by simp) _).setCell (by simp) _⟩
      · have hv : snext n s now site = ((k, site), 0) := by rw [HV.out, if_neg (by rw [hg]; rcases hs with rfl | rfl <;> simp), if_neg hm]
        rw [hv]
        clear hv hg hgd
        rcases hs with rfl | rfl
        all_goals
          go_enter Try.func84, Try.ntmps84
          go_wp2_with (go_at_call 78; (with_reducible refine (HG.out _).mono ?_); rintro e w1 ⟨rfl, hb1⟩; have o0 := (HO.out.kept hb1).c0; have o1 := (HO.out.kept hb1).c1; have z0 := (HO.out.kept hb1).fz 0; have z1 := (HO.out.kept hb1).fz 1; have m0 := (HP.out.kept hb1).c0; have m1 := (HP.out.kept hb1).c1)
          refine bodyPost_ret (res_cell_tmp rfl _ _ (w.heap.size + 1) 66 _ (0, 0) _ _ rfl rfl (((HO.out.kept hb1).set0 _).set1 _) Try.underlying66 rfl (size2s _ _)) rfl ⟨rfl, ((HB.out.trans (hb1.mono HB.out.size)).setCell (by simp) _).setCell (by simp) _⟩
  · have s1 : (site != 1) = true := by simp; omega
    have s2 : (site != 2) = true := by simp; omega
    have hv : snext n s now site = ((0, 0), 2) := by rw [HV.out, if_pos (.inl ⟨by omega, by omega⟩)]
    rw [hv]
    have o0 := HO.out.c0
    have o1 := HO.out.c1
    have z0 := HO.out.fz 0
    have z1 := HO.out.fz 1
    clear hv
    go_enter Try.func84, Try.ntmps84
    go_wp2
    refine bodyPost_ret (res_cell_tmp rfl _ _ (w.heap.size + 1) 66 _ (0, 0) _ _ rfl rfl (Pair.second w _ _ _ _) Try.underlying66 rfl (size2s _ _)) rfl ⟨rfl, second_below w _ _⟩
end Go.Proofs.Ytpndpmgbnnpciaa
