/-
  Vec: Get of the program and of the reference.
-/
import Derived.Test.YtjlolljlhoclhaaDoorVB
import Derived.Test.YtjlolljlhoclhaaDoorW6
namespace Go.Proofs.YtjlolljlhoclhaaDoor
open Go.RowKit Go Go.Sort
set_option linter.unusedVariables false

theorem slice_bys {W : World} {a : Option Addr} {n cap : Nat} {l : List UInt8} (h : Bys W a n cap l) {q : Nat} (hq : q ≤ n) :
    ∃ a', (∀ W', (Instr.slice 37 (.slice a n cap) (some (.int .i64 (q : Int))) none none).run Tryd.prog W' = .ok (.slice a' (n - q) (cap - q)) W') ∧
      (∀ W', (Instr.sliceAt 37 (.slice a n cap) (some (.int .i64 (q : Int))) none none).run Tryd.prog W' = .ok (.slice a' (n - q) (cap - q)) W') ∧ Bys W a' (n - q) (cap - q) (l.drop q) := by
  have hle := h.le
  have he : Tryd.prog.elem 37 = 5 := by kernel_rfl
  obtain ⟨i0, hi, hz0, hz1, hz2⟩ := info_parts Tryd.info5
  have key : ∃ a', (∀ W', (Instr.slice 37 (.slice a n cap) (some (.int .i64 (q : Int))) none none).run Tryd.prog W' = .ok (.slice a' (n - q) (cap - q)) W') ∧ Bys W a' (n - q) (cap - q) (l.drop q) := by
    by_cases hc : cap = q
    · refine ⟨a, fun W' => ?_, h.dropEnd hq hc⟩
      rw [run_slice_l W' 37 a n cap (by kernel_rfl) .i64 (q : Int) (by omega) (by omega), he]
      have hsz : (sizeOf 5).run Tryd.prog W' = .ok 1 W' := by simp [sizeOf, typeInfo, hi, hz1, go_sem]
      rw [hsz]
      simp only [Result.andThen_ok, sliced, Int.toNat_natCast, Nat.mul_one]
      rw [if_pos hc]
    · refine ⟨a.map (fun x => x.add q), fun W' => ?_, h.drop hq⟩
      rw [run_slice_l W' 37 a n cap (by kernel_rfl) .i64 (q : Int) (by omega) (by omega), he]
      have hsz : (sizeOf 5).run Tryd.prog W' = .ok 1 W' := by simp [sizeOf, typeInfo, hi, hz1, go_sem]
      rw [hsz]
      simp only [Result.andThen_ok, sliced, Int.toNat_natCast, Nat.mul_one]
      rw [if_neg hc]
  obtain ⟨a', h1, h2⟩ := key
  refine ⟨a', h1, fun W' => ?_, h2⟩
  rw [run_sliceAt_slice _ _ _ _ _ _ (by kernel_rfl)]
  exact h1 W'

/-- The counts with which bytes begin. -/
def vgetS (l : List UInt8) : (Int × Int) × Int × Int :=
  if ¬ (getS l).2.2 = 0 then ((0, 0), 0, (getS l).2.2)
  else if ¬ (getS (l.drop (getS l).2.1.toNat)).2.2 = 0 then ((0, 0), 0, (getS (l.drop (getS l).2.1.toNat)).2.2)
  else if vgood (getS l).1 (getS (l.drop (getS l).2.1.toNat)).1 = true then (((getS l).1, (getS (l.drop (getS l).2.1.toNat)).1), (getS l).2.1 + (getS (l.drop (getS l).2.1.toNat)).2.1, 0) else ((0, 0), 0, 11)

theorem vget_err1 {l : List UInt8} {x k f : Int} (h : getS l = (x, k, f)) (hf : f ≠ 0) : vgetS l = ((0, 0), 0, f) := by
  unfold vgetS; rw [h]; simp [hf]
theorem vget_err2 {l : List UInt8} {x y k2 f : Int} {q : Nat} (h : getS l = (x, (q : Int), 0)) (h2 : getS (l.drop q) = (y, k2, f)) (hf : f ≠ 0) : vgetS l = ((0, 0), 0, f) := by
  unfold vgetS; rw [h]; simp [h2, hf]
theorem vget_two {l : List UInt8} {x y : Int} {q q2 : Nat} (h : getS l = (x, (q : Int), 0)) (h2 : getS (l.drop q) = (y, (q2 : Int), 0)) :
    vgetS l = if vgood x y = true then ((x, y), (q : Int) + (q2 : Int), 0) else ((0, 0), 0, 11) := by
  unfold vgetS; rw [h]; simp [h2]

set_option maxHeartbeats 1600000 in
theorem rvget_c {w : World} {a : Option Addr} {n cap : Nat} {l : List UInt8} (hl : Bys w a n cap l) :
    Calls Tryd.prog 29 #[.slice a n cap] w (Tells (.tuple #[.agg #[.int .i64 (vgetS l).1.1, .int .i64 (vgetS l).1.2], .int .i64 (vgetS l).2.1, .int .i64 (vgetS l).2.2]) w) := by
  have ho := Pair.new w 51 0 0
  have hb := alloc_below w (.cells #[.int .i64 0, .int .i64 0] 51)
  have hl1 := hl.below hb
  have HR := Lib.hid (rget_c hl1)
  have hok := getS_ok l
  have hlen := hl.len
  have hmx : n ≤ 9223372036854775807 := Nat.le_trans hl.le hl.max
  have HO := Lib.hid ho
  have HB := Lib.hid hb
  clear ho hb hl
  obtain ⟨⟨x, k, f⟩, hx⟩ : ∃ q, getS l = q := ⟨_, rfl⟩
  rw [hx] at HR hok
  simp only at HR hok
  by_cases hf : f = 0
  · subst hf
    obtain ⟨q, rfl, hq1, hq2, x0, x1⟩ := hok rfl
    obtain ⟨a', hs1, hs2, hl2⟩ := slice_bys hl1 (q := q) (by omega)
    have HR2 := Lib.hid (rget_c hl2)
    have hok2 := getS_ok (l.drop q)
    obtain ⟨⟨y, k2, f2⟩, hy⟩ : ∃ z, getS (l.drop q) = z := ⟨_, rfl⟩
    rw [hy] at HR2 hok2
    simp only at HR2 hok2
    have hq3 : q ≤ n := by omega
    clear hl1 hl2 hok
    by_cases hf2 : f2 = 0
    · subst hf2
      obtain ⟨q2, rfl, hq4, hq5, y0, y1⟩ := hok2 rfl
      have HV := Lib.hid (vget_two hx hy)
      have hsum : ((q : Int) + (q2 : Int)) ≤ 9223372036854775807 := by rw [List.length_drop] at hq5; omega
      have G := rvgood_c x y
      clear hok2 hq5 hx hy hlen hmx
      go_enter Tryd.func29, Tryd.ntmps29
      go_upto_region 1 with (fail)
      generalize w.alloc (.cells #[.int .i64 0, .int .i64 0] 51) = W1 at *
      go_upto_region 8 with (first
        | (go_at_call 36; (with_reducible refine HR.out.mono ?_); rintro e w1 ⟨rfl, rfl⟩)
        | (go_at_call 36; (with_reducible refine HR2.out.mono ?_); rintro e w1 ⟨rfl, rfl⟩))
      have HO2 := Lib.hid (HO.out.alloc (.cells #[.int .i64 x, .int .i64 y] 51))
      have hx2 := Pair.new W1 51 x y
      have HB2 := Lib.hid (HB.out.alloc HB.out.size (.cells #[.int .i64 x, .int .i64 y] 51))
      obtain ⟨gx, hgx⟩ : ∃ g, W1.heap.size = g := ⟨_, rfl⟩
      rw [hgx] at hx2 ⊢
      generalize W1.alloc (.cells #[.int .i64 x, .int .i64 y] 51) = W2 at *
      have u0 := hx2.c0
      have u1 := hx2.c1
      have HX2 := Lib.hid hx2
      clear hx2 hgx HO HB
      cases hg : vgood x y with
      | true =>
        rw [hg] at G HV
        have HG := Lib.hid G
        have HV3 := Lib.hid (show vgetS l = ((x, y), (q : Int) + (q2 : Int), 0) by rw [HV.out, if_pos rfl])
        clear G hg HV
        go_wp2_with (go_at_call 47; (with_reducible refine (HG.out _).mono ?_); rintro e w3 ⟨rfl, hb3⟩; have y0 := (HX2.out.kept hb3).c0; have y1 := (HX2.out.kept hb3).c1; have o0 := (HO2.out.kept hb3).c0; have o1 := (HO2.out.kept hb3).c1; have z0 := (HO2.out.kept hb3).fz 0; have z1 := (HO2.out.kept hb3).fz 1)
        refine bodyPost_ret (res_cell_tmp2 rfl _ _ w.heap.size 51 _ (0, 0) _ (.int .i64 ((q : Int) + (q2 : Int))) (.int .i64 0) rfl rfl rfl (((HO2.out.kept hb3).set0 _).set1 _) Tryd.underlying51 rfl (size2 _ _)) rfl ⟨by rw [HV3.out], ((HB2.out.trans (hb3.mono HB2.out.size)).setCell (by simp) _).setCell (by simp) _⟩
      | false =>
        rw [hg] at G HV
        have HG := Lib.hid G
        have HV3 := Lib.hid (show vgetS l = ((0, 0), 0, 11) by rw [HV.out, if_neg (by simp)])
        clear G hg HV
        go_wp2_with (go_at_call 47; (with_reducible refine (HG.out _).mono ?_); rintro e w3 ⟨rfl, hb3⟩; have y0 := (HX2.out.kept hb3).c0; have y1 := (HX2.out.kept hb3).c1; have o0 := (HO2.out.kept hb3).c0; have o1 := (HO2.out.kept hb3).c1; have z0 := (HO2.out.kept hb3).fz 0; have z1 := (HO2.out.kept hb3).fz 1)
        refine bodyPost_ret (res_cell_tmp2 rfl _ _ w.heap.size 51 _ (0, 0) _ (.int .i64 0) (.int .i64 11) rfl rfl rfl (((HO2.out.kept hb3).set0 _).set1 _) Tryd.underlying51 rfl (size2 _ _)) rfl ⟨by rw [HV3.out], ((HB2.out.trans (hb3.mono HB2.out.size)).setCell (by simp) _).setCell (by simp) _⟩
    · have hf1 : (f2 != 0) = true := by simpa using hf2
      have HV2 := Lib.hid (vget_err2 hx hy hf2)
      clear hok2 hx hy hlen hf2 hmx
      go_enter Tryd.func29, Tryd.ntmps29
      go_upto_region 1 with (fail)
      generalize w.alloc (.cells #[.int .i64 0, .int .i64 0] 51) = W1 at *
      have o0 := HO.out.c0
      have o1 := HO.out.c1
      have z0 := HO.out.fz 0
      have z1 := HO.out.fz 1
      go_wp2_with (first
        | (go_at_call 36; (with_reducible refine HR.out.mono ?_); rintro e w1 ⟨rfl, rfl⟩)
        | (go_at_call 36; (with_reducible refine HR2.out.mono ?_); rintro e w1 ⟨rfl, rfl⟩))
      refine bodyPost_ret (res_cell_tmp2 rfl _ _ w.heap.size 51 _ (0, 0) _ (.int .i64 0) (.int .i64 f2) rfl rfl rfl ((HO.out.set0 _).set1 _) Tryd.underlying51 rfl (size2 _ _)) rfl ⟨by rw [HV2.out], (HB.out.setCell (by simp) _).setCell (by simp) _⟩
  · have hf1 : (f != 0) = true := by simpa using hf
    have HV2 := Lib.hid (vget_err1 hx hf)
    clear hok hx hlen hf hl1 hmx
    go_enter Tryd.func29, Tryd.ntmps29
    go_upto_region 1 with (fail)
    generalize w.alloc (.cells #[.int .i64 0, .int .i64 0] 51) = W1 at *
    have o0 := HO.out.c0
    have o1 := HO.out.c1
    have z0 := HO.out.fz 0
    have z1 := HO.out.fz 1
    go_wp2_with (go_at_call 36; (with_reducible refine HR.out.mono ?_); rintro e w1 ⟨rfl, rfl⟩)
    refine bodyPost_ret (res_cell_tmp2 rfl _ _ w.heap.size 51 _ (0, 0) _ (.int .i64 0) (.int .i64 f) rfl rfl rfl ((HO.out.set0 _).set1 _) Tryd.underlying51 rfl (size2 _ _)) rfl ⟨by rw [HV2.out], (HB.out.setCell (by simp) _).setCell (by simp) _⟩
end Go.Proofs.YtjlolljlhoclhaaDoor
