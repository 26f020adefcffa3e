/-
  Vec: the reference's Meet, Has, Next.
-/
import Derived.Test.YtjlolljlhoclhaaV1
namespace Go.Proofs.Ytjlolljlhoclhaa
open Go.RowKit Go Go.Sort
set_option linter.unusedVariables false

def vhas (a b site seq : Int) : Bool := decide ((site = 1 ∧ 1 ≤ seq ∧ seq ≤ a) ∨ (site = 2 ∧ 1 ≤ seq ∧ seq ≤ b))
/-- What Next tells: both counts, and the error's number. -/
def vnext (a b site : Int) : (Int × Int) × Int :=
  if (site ≠ 1 ∧ site ≠ 2) ∨ vgood a b = false then ((0, 0), 2)
  else if (if site = 1 then a else b) = 1099511627776 then ((0, 0), 3)
  else if site = 1 then ((a + 1, b), 0) else ((a, b + 1), 0)
theorem size2 (a b : Int) : (Try.prog.info? 23).map (·.size) = some (#[Value.int .i64 a, Value.int .i64 b] : Array Value).size := by
  show _ = some 2
  kernel_rfl

theorem pair_eq {x y x' y' : Int} (h1 : x = x') (h2 : y = y') : Ending.returned (.agg #[.int .i64 x, .int .i64 y]) = .returned (.agg #[.int .i64 x', .int .i64 y']) := by rw [h1, h2]

set_option maxHeartbeats 1600000 in
theorem rvhas_c (a b site seq : Int) (w : World) : Calls Try.prog 22 #[.agg #[.int .i64 a, .int .i64 b], .int .i64 site, .int .i64 seq] w (Tells (.bool (vhas a b site seq)) w) := by
  have hp := Pair.new w 23 a b
  have hb := alloc_below w (.cells #[.int .i64 a, .int .i64 b] 23)
  have h0 := hp.c0
  have h1 := hp.c1
  have HB := Lib.hid hb
  have HV := Lib.hid (show vhas a b site seq = decide ((site = 1 ∧ 1 ≤ seq ∧ seq ≤ a) ∨ (site = 2 ∧ 1 ≤ seq ∧ seq ≤ b)) from rfl)
  clear hp hb
  by_cases s1 : site = 1
  · subst s1
    by_cases q : 1 ≤ seq
    · by_cases r : seq ≤ a
      all_goals
        go_enter Try.func22, Try.ntmps22
        go_wp2
        go_ret
        exact ⟨by rw [HV.out]; simp; omega, HB.out⟩
    · go_enter Try.func22, Try.ntmps22
      go_wp2
      go_ret
      exact ⟨by rw [HV.out]; simp; omega, HB.out⟩
  · by_cases s2 : site = 2
    · subst s2
      by_cases q : 1 ≤ seq
      · by_cases r : seq ≤ b
        all_goals
          go_enter Try.func22, Try.ntmps22
          go_wp2
          go_ret
          exact ⟨by rw [HV.out]; simp; omega, HB.out⟩
      · go_enter Try.func22, Try.ntmps22
        go_wp2
        go_ret
        exact ⟨by rw [HV.out]; simp; omega, HB.out⟩
    · have e1 : (site != 1) = true := by simpa using s1
      have e2 : (site != 2) = true := by simpa using s2
      go_enter Try.func22, Try.ntmps22
      go_wp2
      go_ret
      exact ⟨by rw [HV.out]; simp; omega, HB.out⟩

set_option maxHeartbeats 1600000 in
theorem rvmeet_c (a b c d : Int) (w : World) : Calls Try.prog 15 #[.agg #[.int .i64 a, .int .i64 b], .agg #[.int .i64 c, .int .i64 d]] w (Tells (.agg #[.int .i64 (min a c), .int .i64 (min b d)]) w) := by
  have hp := (Pair.new w 23 a b).alloc (.cells #[.int .i64 c, .int .i64 d] 23) |>.alloc (.cells #[.int .i64 0, .int .i64 0] 23)
  have hq := (Pair.new (w.alloc (.cells #[.int .i64 a, .int .i64 b] 23)) 23 c d).alloc (.cells #[.int .i64 0, .int .i64 0] 23)
  have ho := Pair.new ((w.alloc (.cells #[.int .i64 a, .int .i64 b] 23)).alloc (.cells #[.int .i64 c, .int .i64 d] 23)) 23 0 0
  rw [World.size_alloc] at hq
  rw [World.size_alloc, World.size_alloc] at ho
  have hb := ((alloc_below w (.cells #[.int .i64 a, .int .i64 b] 23)).alloc (by simp) (.cells #[.int .i64 c, .int .i64 d] 23)).alloc (by simp; omega) (.cells #[.int .i64 0, .int .i64 0] 23)
  have h0 := hp.c0
  have h1 := hp.c1
  have k0 := hq.c0
  have k1 := hq.c1
  have o0 := ho.c0
  have o1 := ho.c1
  have z0 := ho.fz 0
  have z1 := ho.fz 1
  have HB := Lib.hid hb
  clear hp hq ho hb
  go_enter Try.func15, Try.ntmps15
  go_wp2
  all_goals
    refine bodyPost_ret (results_cell_row rfl _ _ (w.heap.size + 1 + 1) 23 _ (0, 0) _ rfl (Pair.third w _ _ _ _ _) Try.underlying23 rfl (size2 _ _)) rfl ⟨pair_eq (by omega) (by omega), third_below w _ _ _⟩

set_option maxHeartbeats 1600000 in
theorem rvnext_c (a b site : Int) (w : World) : Calls Try.prog 20 #[.agg #[.int .i64 a, .int .i64 b], .int .i64 site] w (Tells (.tuple #[.agg #[.int .i64 (vnext a b site).1.1, .int .i64 (vnext a b site).1.2], .int .i64 (vnext a b site).2]) w) := by
  have hp := (Pair.new w 23 a b).alloc (.cells #[.int .i64 0, .int .i64 0] 23)
  have ho := Pair.new (w.alloc (.cells #[.int .i64 a, .int .i64 b] 23)) 23 0 0
  rw [World.size_alloc] at ho
  have hb := (alloc_below w (.cells #[.int .i64 a, .int .i64 b] 23)).alloc (by simp) (.cells #[.int .i64 0, .int .i64 0] 23)
  have HP := Lib.hid hp
  have HO := Lib.hid ho
  have HB := Lib.hid hb
  have HG := Lib.hid (rvgood_c a b)
  have HV := Lib.hid (show vnext a b site = if (site ≠ 1 ∧ site ≠ 2) ∨ vgood a b = false then ((0, 0), 2) else if (if site = 1 then a else b) = 1099511627776 then ((0, 0), 3) else if site = 1 then ((a + 1, b), 0) else ((a, b + 1), 0) from rfl)
  clear hp ho hb
  by_cases hs : site = 1 ∨ site = 2
  · cases hg : vgood a b with
    | false =>
      rw [hg] at HG
      have hv : vnext a b site = ((0, 0), 2) := by rw [HV.out, if_pos (.inr hg)]
      rw [hv]
      have l0 := HP.out.c0
      have l1 := HP.out.c1
      have hsx : ((site != 1) && (site != 2)) = false := by rcases hs with rfl | rfl <;> rfl
      clear hv hg
      rcases hs with rfl | rfl
      all_goals
        go_enter Try.func20, Try.ntmps20
        go_wp2_with (go_at_call 9; (with_reducible refine (HG.out _).mono ?_); rintro e w1 ⟨rfl, hb1⟩; have o0 := (HO.out.kept hb1).c0; have o1 := (HO.out.kept hb1).c1; have z0 := (HO.out.kept hb1).fz 0; have z1 := (HO.out.kept hb1).fz 1)
        refine bodyPost_ret (res_cell_tmp rfl _ _ (w.heap.size + 1) 23 _ (0, 0) _ _ rfl rfl (((HO.out.kept hb1).set0 0).set1 0) Try.underlying23 rfl (size2 _ _)) rfl ⟨rfl, ((HB.out.trans (hb1.mono HB.out.size)).setCell (by simp) _).setCell (by simp) _⟩
    | true =>
      rw [hg] at HG
      have hgd : 0 ≤ a ∧ a ≤ 1099511627776 ∧ 0 ≤ b ∧ b ≤ 1099511627776 := by simpa [vgood] using hg
      have l0 := HP.out.c0
      have l1 := HP.out.c1
      by_cases hm : (if site = 1 then a else b) = 1099511627776
      · have hv : vnext a b site = ((0, 0), 3) := by rw [HV.out, if_neg (by rw [hg]; rcases hs with rfl | rfl <;> simp), if_pos hm]
        rw [hv]
        clear hv hg
        rcases hs with rfl | rfl
        all_goals
          simp at hm
          subst hm
          go_enter Try.func20, Try.ntmps20
          go_wp2_with (go_at_call 9; (with_reducible refine (HG.out _).mono ?_); rintro e w1 ⟨rfl, hb1⟩; have o0 := (HO.out.kept hb1).c0; have o1 := (HO.out.kept hb1).c1; have z0 := (HO.out.kept hb1).fz 0; have z1 := (HO.out.kept hb1).fz 1; have m0 := (HP.out.kept hb1).c0; have m1 := (HP.out.kept hb1).c1)
          refine bodyPost_ret (res_cell_tmp rfl _ _ (w.heap.size + 1) 23 _ (0, 0) _ _ rfl rfl (((HO.out.kept hb1).set0 0).set1 0) Try.underlying23 rfl (size2 _ _)) rfl ⟨rfl, ((HB.out.trans (hb1.mono HB.out.size)).setCell (by simp) _).setCell (by simp) _⟩
      · rcases hs with rfl | rfl
        · have hv : vnext a b 1 = ((a + 1, b), 0) := by rw [HV.out, if_neg (by rw [hg]; simp), if_neg hm, if_pos rfl]
          rw [hv]
          simp at hm
          clear hv hg
          go_enter Try.func20, Try.ntmps20
          go_wp2_with (go_at_call 9; (with_reducible refine (HG.out _).mono ?_); rintro e w1 ⟨rfl, hb1⟩; have o0 := (HO.out.kept hb1).c0; have o1 := (HO.out.kept hb1).c1; have z0 := (HO.out.kept hb1).fz 0; have z1 := (HO.out.kept hb1).fz 1; have m0 := (HP.out.kept hb1).c0; have m1 := (HP.out.kept hb1).c1; have y0 := (HP.out.kept hb1).fz 0; have y1 := (HP.out.kept hb1).fz 1)
          refine bodyPost_ret (res_cell_tmp rfl _ _ (w.heap.size + 1) 23 _ (0, 0) _ _ rfl rfl ((((HO.out.kept hb1).other _ _ (by simp)).set0 (a + 1)).set1 b) Try.underlying23 rfl (size2 _ _)) rfl ⟨rfl, (((HB.out.trans (hb1.mono HB.out.size)).setCell (by simp) _).setCell (by simp) _).setCell (by simp) _⟩
        · have hv : vnext a b 2 = ((a, b + 1), 0) := by rw [HV.out, if_neg (by rw [hg]; simp), if_neg hm, if_neg (by decide)]
          rw [hv]
          simp at hm
          clear hv hg
          go_enter Try.func20, Try.ntmps20
          go_wp2_with (go_at_call 9; (with_reducible refine (HG.out _).mono ?_); rintro e w1 ⟨rfl, hb1⟩; have o0 := (HO.out.kept hb1).c0; have o1 := (HO.out.kept hb1).c1; have z0 := (HO.out.kept hb1).fz 0; have z1 := (HO.out.kept hb1).fz 1; have m0 := (HP.out.kept hb1).c0; have m1 := (HP.out.kept hb1).c1; have y0 := (HP.out.kept hb1).fz 0; have y1 := (HP.out.kept hb1).fz 1)
          refine bodyPost_ret (res_cell_tmp rfl _ _ (w.heap.size + 1) 23 _ (0, 0) _ _ rfl rfl ((((HO.out.kept hb1).other _ _ (by simp)).set0 a).set1 (b + 1)) Try.underlying23 rfl (size2 _ _)) rfl ⟨rfl, (((HB.out.trans (hb1.mono HB.out.size)).setCell (by simp) _).setCell (by simp) _).setCell (by simp) _⟩
  · have s1 : (site != 1) = true := by simp; omega
    have s2 : (site != 2) = true := by simp; omega
    have hv : vnext a b site = ((0, 0), 2) := by rw [HV.out, if_pos (.inl ⟨by omega, by omega⟩)]
    rw [hv]
    have o0 := HO.out.c0
    have o1 := HO.out.c1
    have z0 := HO.out.fz 0
    have z1 := HO.out.fz 1
    clear hv
    go_enter Try.func20, Try.ntmps20
    go_wp2
    refine bodyPost_ret (res_cell_tmp rfl _ _ (w.heap.size + 1) 23 _ (0, 0) _ _ rfl rfl (Pair.second w _ _ _ _) Try.underlying23 rfl (size2 _ _)) rfl ⟨rfl, second_below w _ _⟩
end Go.Proofs.Ytjlolljlhoclhaa
