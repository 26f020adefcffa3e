/-
  Cell: the walk of CellSeen.
-/
import Derived.Test.YtkhihfpdghjfmaaDoorKM
import Derived.Test.YtkhihfpdghjfmaaDoorK6
namespace Go.Proofs.YtkhihfpdghjfmaaDoor
open Go.RowKit Go Go.Sort
set_option linter.unusedVariables false
set_option maxRecDepth 20000

theorem cof_err {p n s a b f : Int} {g : Bool} {t : List UInt8} {c : Cl} (h : cofS p n s a b g t = (c, f)) (hf : f ≠ 0) : c = Cl.zero := by
  unfold cofS at h
  split at h
  · split at h
    · simp only [Prod.mk.injEq] at h; exact h.1.symm
    · split at h <;> simp only [Prod.mk.injEq] at h <;> exact absurd h.2.symm hf
  · simp only [Prod.mk.injEq] at h; exact h.1.symm
theorem cof_ok {p n s a b : Int} {g : Bool} {t : List UInt8} {c : Cl} (h : cofS p n s a b g t = (c, 0)) : (p = 1 ∨ p = 2) ∧ sgood n s = true ∧ 0 < n ∧ vgood a b = true ∧ (g = true → t = []) ∧ t.length ≤ 64 ∧
    ((p = 2 ∧ g = true ∧ c = ⟨0, 0, 0, 0, false, [], a, b⟩) ∨ ((p = 2 → g = false) ∧ c = ⟨n, s, a, b, g, t, 0, 0⟩)) := by
  unfold cofS at h
  by_cases ha : argS p n s a b g t = true
  · rw [if_pos ha] at h
    by_cases hl : 64 < t.length
    · rw [if_pos hl] at h; simp at h
    · rw [if_neg hl] at h
      unfold argS at ha
      simp only [Bool.and_eq_true, Bool.or_eq_true, beq_iff_eq, whenS, decide_eq_true_eq] at ha
      obtain ⟨hp, ⟨hs, hn⟩, hv, hg⟩ := ha
      refine ⟨hp, hs, hn, hv, ?_, by omega, ?_⟩
      · intro hgt; subst hgt; simpa using hg
      · by_cases h2 : ((p == 2) && g) = true
        · rw [if_pos h2] at h
          simp only [Prod.mk.injEq, and_true] at h
          simp only [Bool.and_eq_true, beq_iff_eq] at h2
          exact .inl ⟨h2.1, h2.2, h.symm⟩
        · rw [if_neg h2] at h
          simp only [Prod.mk.injEq, and_true] at h
          refine .inr ⟨fun hp2 => ?_, h.symm⟩
          subst hp2
          simpa using h2
  · rw [if_neg ha] at h; simp at h
theorem seen_one {p n s a b n' s' a' b' d' e' : Int} {g g' : Bool} {t t' : List UInt8} (h : cofS p n s a b g t = (⟨n', s', a', b', g', t', d', e'⟩, 0)) : cseenS p n' s' a' b' g' t' d' e' = if g = true then ([], false) else (t, true) := by
  obtain ⟨hp, hs, hn, hv, hgt, hl, hc⟩ := cof_ok h
  have hn0 : (n != 0) = true := by simp; omega
  obtain ⟨v0, v2, v1, v3⟩ := vgood_bd hv
  rcases hc with ⟨rfl, rfl, hc⟩ | ⟨hpg, hc⟩
  · simp only [Cl.mk.injEq] at hc
    obtain ⟨rfl, rfl, rfl, rfl, rfl, rfl, rfl, rfl⟩ := hc
    simp [cseenS, wroteS]
  · simp only [Cl.mk.injEq] at hc
    obtain ⟨rfl, rfl, rfl, rfl, rfl, rfl, rfl, rfl⟩ := hc
    cases g' with
    | true => simp [cseenS]
    | false =>
      rcases hp with rfl | rfl <;> simp [cseenS, cgoodS, wroteS, hn0, zeroS, hs, hn, hl, vcov, v0, v1, v2, v3, vgood]
theorem seen_two {n s a b n' s' a' b' d' e' x y : Int} {g g' : Bool} {t t' : List UInt8} (h : cofS 2 n s a b g t = (⟨n', s', a', b', g', t', d', e'⟩, 0)) (hv : vgood x y = true) : cseenS 2 n' s' a' b' g' t' x y = if (!g && (decide (x ≤ a) && decide (y ≤ b))) = true then (t, true) else ([], false) := by
  obtain ⟨hp, hs, hn, hva, hgt, hl, hc⟩ := cof_ok h
  have hn0 : (n != 0) = true := by simp; omega
  rcases hc with ⟨-, rfl, hc⟩ | ⟨hpg, hc⟩
  · simp only [Cl.mk.injEq] at hc
    obtain ⟨rfl, rfl, rfl, rfl, rfl, rfl, rfl, rfl⟩ := hc
    simp [cseenS, wroteS]
  · obtain rfl := hpg rfl
    simp only [Cl.mk.injEq] at hc
    obtain ⟨rfl, rfl, rfl, rfl, rfl, rfl, rfl, rfl⟩ := hc
    simp [cseenS, cgoodS, wroteS, hn0, hs, hn, hv, hva, hl, vcov]
theorem AskAt.dead {W : World} {q q' : Nat} {n s a b : Int} {g : Bool} {t : List UInt8} (h : AskAt W q' n s a b g t) (hne : q' ≠ q) (d' : Int) (e' : Int) : AskAt ((W.setCell ⟨q, 6, none⟩ (.int .i64 d')).setCell ⟨q, 7, none⟩ (.int .i64 e')) q' n s a b g t := by
  unfold AskAt at h ⊢
  rw [heap_setCell_other _ _ _ _ (by exact hne), heap_setCell_other _ _ _ _ (by exact hne)]
  exact h

set_option maxRecDepth 100000 in
set_option maxHeartbeats 12800000 in
theorem cseens_walk {w : World} (p n s a b : Int) (g : Bool) (t : List UInt8) (x y : Int) (hmax : t.length ≤ 9223372036854775807) (hT : TabW w) :
    Calls Tryd.prog 12 #[.int .i64 p, .agg #[.int .i64 n, .int .i64 s, .int .i64 a, .int .i64 b, .bool g, .string (text t)], .agg #[.int .i64 x, .int .i64 y]] w (Tells (.bool true) w) := by
  have hp := (AskAt.new w n s a b g t).kept (alloc_below (w.alloc (.cells #[.int .i64 n, .int .i64 s, .int .i64 a, .int .i64 b, .bool g, .string (text t)] 67)) (.cells #[.int .i64 x, .int .i64 y] 59))
  have hv := Pair.second w (.cells #[.int .i64 n, .int .i64 s, .int .i64 a, .int .i64 b, .bool g, .string (text t)] 67) 59 x y
  have HB := Lib.hid (second_below w (.cells #[.int .i64 n, .int .i64 s, .int .i64 a, .int .i64 b, .bool g, .string (text t)] 67) (.cells #[.int .i64 x, .int .i64 y] 59))
  have HLv := Lib.hid (fun W (h : Below w.heap.size w W) => clives_c (hT.below h))
  have hO := fun W => cof_c p n s a b g t hmax W
  have herr := @cof_err p n s a b
  have hs1 := @seen_one p n s a b
  have hs2 := @seen_two n s a b
  have hln := cof_len p n s a b g t
  obtain ⟨⟨⟨n', s', a', b', g', t', d', e'⟩, f⟩, hx⟩ : ∃ q, cofS p n s a b g t = q := ⟨_, rfl⟩
  rw [hx] at hO hln
  have hO : ∀ W, Calls Tryd.prog 36 #[.int .i64 p, .agg #[.int .i64 n, .int .i64 s], .agg #[.int .i64 a, .int .i64 b], .bool g, .string (text t)] W (Tells (.tuple #[.agg #[.int .i64 n', .int .i64 s', .int .i64 a', .int .i64 b', .bool g', .string (text t'), .int .i64 d', .int .i64 e'], .int .i64 f]) W) := hO
  have hS := fun d e W => cseen_c p n' s' a' b' g' t' d e (by simp only at hln; omega) W
  have HERR := Lib.hid (fun (h : f ≠ 0) => herr hx h)
  have HS1 := Lib.hid (fun (h : f = 0) => hs1 (by rw [hx, h]))
  have HS2 := Lib.hid (fun (h : f = 0) (hp : p = 2) (hv : vgood x y = true) => by subst hp; exact hs2 (by rw [hx, h]) hv)
  have HO := Lib.hid hO
  have HS := Lib.hid hS
  clear hO hx hT hmax herr hs1 hs2 hln hS
  have hnil : text ([] : List UInt8) = ⟨#[]⟩ := rfl
  go_enter Tryd.func12, Tryd.ntmps12
  go_upto_region 1 with (fail)
  obtain ⟨ga, hga⟩ : ∃ q, w.heap.size = q := ⟨_, rfl⟩
  obtain ⟨gv, hgv⟩ : ∃ q, w.heap.size + 1 = q := ⟨_, rfl⟩
  rw [hgv] at hv
  rw [hga] at hp
  have HGA := Lib.hid hga
  have HGV := Lib.hid hgv
  try simp only [World.size_alloc]
  simp only [hgv]
  rw [hga]
  have HLB := Lib.hid (show w.heap.size + 1 < ((w.alloc (.cells #[.int .i64 n, .int .i64 s, .int .i64 a, .int .i64 b, .bool g, .string (text t)] 67)).alloc (.cells #[.int .i64 x, .int .i64 y] 59)).heap.size by simp)
  clear hga hgv
  generalize (w.alloc (.cells #[.int .i64 n, .int .i64 s, .int .i64 a, .int .i64 b, .bool g, .string (text t)] 67)).alloc (.cells #[.int .i64 x, .int .i64 y] 59) = W1 at *
  obtain ⟨k0, k1, k2, k3, k4, k5⟩ := hp.cs
  go_upto_region 2 with (go_at_call 36; (with_reducible refine (HO.out _).mono ?_); rintro e9 w2 ⟨rfl, hb2⟩)
  clear k0 k1 k2 k3 k4 k5
  have hp2 := (hp.kept hb2).kept (alloc_below w2 (.cells #[.int .i64 n', .int .i64 s', .int .i64 a', .int .i64 b', .bool g', .string (text t'), .int .i64 d', .int .i64 e'] 61))
  have hv2 := (hv.kept hb2).kept (alloc_below w2 (.cells #[.int .i64 n', .int .i64 s', .int .i64 a', .int .i64 b', .bool g', .string (text t'), .int .i64 d', .int .i64 e'] 61))
  have HGC := Lib.hid (show w.heap.size + 1 < w2.heap.size from Nat.lt_of_lt_of_le HLB.out hb2.size)
  have HB := Lib.hid ((HB.out.trans (hb2.mono HB.out.size)).alloc (Nat.le_trans HB.out.size hb2.size) (.cells #[.int .i64 n', .int .i64 s', .int .i64 a', .int .i64 b', .bool g', .string (text t'), .int .i64 d', .int .i64 e'] 61))
  have hc := Cel.new w2 n' s' a' b' g' t' d' e'
  clear hp hb2 hv
  obtain ⟨gc, hgc⟩ : ∃ q, w2.heap.size = q := ⟨_, rfl⟩
  rw [hgc] at hc HGC ⊢
  clear hgc HO HLB
  generalize w2.alloc (.cells #[.int .i64 n', .int .i64 s', .int .i64 a', .int .i64 b', .bool g', .string (text t'), .int .i64 d', .int .i64 e'] 61) = W2 at *
  have HP := Lib.hid (fun W (h : Below W2.heap.size W2 W) => hp2.kept h)
  have HV := Lib.hid (fun W (h : Below W2.heap.size W2 W) => hv2.kept h)
  have HC := Lib.hid (fun W (h : Below W2.heap.size W2 W) => hc.kept h)
  have hcur := Below.refl W2.heap.size W2
  clear hp2 hv2 hc
  by_cases hf : f = 0
  · subst hf
    have hS1 := HS.out d' e'
    rw [HS1.out rfl] at hS1
    have hgne : gv ≠ gc ∧ ga ≠ gc := by have := HGC.out; have := HGA.out; have := HGV.out; omega
    have hwc : w.heap.size ≤ gc := by have := HGC.out; omega
    have HNE := Lib.hid hgne
    have HWC := Lib.hid hwc
    clear hgne hwc HGA HGV HGC HERR HS1
    cases g with
    | true =>
      rw [if_pos rfl, hnil] at hS1
      have HS1 := Lib.hid hS1
      clear hS1
      obtain ⟨c0, c1, c2, c3, c4, c5, c6, c7⟩ := (HC.out _ hcur).cs
      obtain ⟨k0, k1, k2, k3, k4, k5⟩ := (HP.out _ hcur).cs
      have p0 := (HV.out _ hcur).c0
      have p1 := (HV.out _ hcur).c1
      go_upto_region 7 with (go_at_call 29; (with_reducible refine (HS1.out _).mono ?_); rintro e9 w9 ⟨rfl, hb9⟩; (replace hcur := hcur.trans (hb9.mono hcur.size)); clear hb9; obtain ⟨c0, c1, c2, c3, c4, c5, c6, c7⟩ := (HC.out _ hcur).cs; obtain ⟨k0, k1, k2, k3, k4, k5⟩ := (HP.out _ hcur).cs; have p0 := (HV.out _ hcur).c0; have p1 := (HV.out _ hcur).c1)
      by_cases hp2 : p = 2
      · subst hp2
        by_cases hx0 : 0 ≤ x
        · by_cases hy0 : 0 ≤ y
          · by_cases hx1 : x ≤ 1099511627776
            · by_cases hy1 : y ≤ 1099511627776
              · have hvg : vgood x y = true := by simp [vgood, hx0, hy0, hx1, hy1]
                have hfz := (HC.out _ hcur).fz
                have hN := (HC.out _ hcur).dead x y
                have hPN := (HP.out _ hcur).dead HNE.out.2 x y
                have hVN := ((HV.out _ hcur).other ⟨gc, 6, none⟩ (.int .i64 x) HNE.out.1).other ⟨gc, 7, none⟩ (.int .i64 y) HNE.out.1
                have hBN := dead_below (HB.out.trans (hcur.mono HB.out.size)) HWC.out x y
                have HN := Lib.hid hN
                have HPN := Lib.hid hPN
                have HVN := Lib.hid hVN
                have HBN := Lib.hid hBN
                clear hN hPN hVN hBN
                go_upto_region 9 with (fail)
                clear c0 c1 c2 c3 c4 c5 c6 c7 k0 k1 k2 k3 k4 k5 p0 p1 hcur hfz HC HP HV HB
                generalize World.setCell _ ⟨gc, 7, none⟩ (.int .i64 y) = W4 at *
                have hcur := Below.refl W4.heap.size W4
                obtain ⟨c0, c1, c2, c3, c4, c5, c6, c7⟩ := HN.out.cs
                have HPN := Lib.hid (fun W (h : Below W4.heap.size W4 W) => HPN.out.kept h)
                have HVN := Lib.hid (fun W (h : Below W4.heap.size W4 W) => HVN.out.kept h)
                have hS2 := HS.out x y
                rw [HS2.out (by simp) (by simp) hvg, if_neg (by simp)] at hS2
                rw [hnil] at hS2
                have HS2n := Lib.hid hS2
                clear hS2
                go_wp2_with (first
                  | (go_at_call 29; (with_reducible refine (HS2n.out _).mono ?_); rintro e9 w9 ⟨rfl, hb9⟩; (replace hcur := hcur.trans (hb9.mono hcur.size)); clear hb9; obtain ⟨k0, k1, k2, k3, k4, k5⟩ := (HPN.out _ hcur).cs; have p0 := (HVN.out _ hcur).c0; have p1 := (HVN.out _ hcur).c1)
                  | (go_at_call 35; (with_reducible refine (HLv.out _ (HBN.out.trans (hcur.mono HBN.out.size))).mono ?_); rintro e9 w9 ⟨rfl, hb9⟩; (replace hcur := hcur.trans (hb9.mono hcur.size)); clear hb9))
                go_ret
                exact ⟨rfl, HBN.out.trans (hcur.mono HBN.out.size)⟩
              · go_wp2_with (go_at_call 35; (with_reducible refine (HLv.out _ (HB.out.trans (hcur.mono HB.out.size))).mono ?_); rintro e9 w9 ⟨rfl, hb9⟩; (replace hcur := hcur.trans (hb9.mono hcur.size)); clear hb9)
                go_ret
                exact ⟨rfl, HB.out.trans (hcur.mono HB.out.size)⟩
            · go_wp2_with (go_at_call 35; (with_reducible refine (HLv.out _ (HB.out.trans (hcur.mono HB.out.size))).mono ?_); rintro e9 w9 ⟨rfl, hb9⟩; (replace hcur := hcur.trans (hb9.mono hcur.size)); clear hb9)
              go_ret
              exact ⟨rfl, HB.out.trans (hcur.mono HB.out.size)⟩
          · go_wp2_with (go_at_call 35; (with_reducible refine (HLv.out _ (HB.out.trans (hcur.mono HB.out.size))).mono ?_); rintro e9 w9 ⟨rfl, hb9⟩; (replace hcur := hcur.trans (hb9.mono hcur.size)); clear hb9)
            go_ret
            exact ⟨rfl, HB.out.trans (hcur.mono HB.out.size)⟩
        · go_wp2_with (go_at_call 35; (with_reducible refine (HLv.out _ (HB.out.trans (hcur.mono HB.out.size))).mono ?_); rintro e9 w9 ⟨rfl, hb9⟩; (replace hcur := hcur.trans (hb9.mono hcur.size)); clear hb9)
          go_ret
          exact ⟨rfl, HB.out.trans (hcur.mono HB.out.size)⟩
      · go_wp2_with (go_at_call 35; (with_reducible refine (HLv.out _ (HB.out.trans (hcur.mono HB.out.size))).mono ?_); rintro e9 w9 ⟨rfl, hb9⟩; (replace hcur := hcur.trans (hb9.mono hcur.size)); clear hb9)
        go_ret
        exact ⟨rfl, HB.out.trans (hcur.mono HB.out.size)⟩
    | false =>
      rw [if_neg (by simp)] at hS1
      have htb : ((text t).toList == (text t).toList) = true := by simp
      have hts : ((text t).toList != (text t).toList) = false := by simp
      have HS1 := Lib.hid hS1
      clear hS1
      obtain ⟨c0, c1, c2, c3, c4, c5, c6, c7⟩ := (HC.out _ hcur).cs
      obtain ⟨k0, k1, k2, k3, k4, k5⟩ := (HP.out _ hcur).cs
      have p0 := (HV.out _ hcur).c0
      have p1 := (HV.out _ hcur).c1
      go_upto_region 7 with (go_at_call 29; (with_reducible refine (HS1.out _).mono ?_); rintro e9 w9 ⟨rfl, hb9⟩; (replace hcur := hcur.trans (hb9.mono hcur.size)); clear hb9; obtain ⟨c0, c1, c2, c3, c4, c5, c6, c7⟩ := (HC.out _ hcur).cs; obtain ⟨k0, k1, k2, k3, k4, k5⟩ := (HP.out _ hcur).cs; have p0 := (HV.out _ hcur).c0; have p1 := (HV.out _ hcur).c1)
      by_cases hp2 : p = 2
      · subst hp2
        by_cases hx0 : 0 ≤ x
        · by_cases hy0 : 0 ≤ y
          · by_cases hx1 : x ≤ 1099511627776
            · by_cases hy1 : y ≤ 1099511627776
              · have hvg : vgood x y = true := by simp [vgood, hx0, hy0, hx1, hy1]
                have hfz := (HC.out _ hcur).fz
                have hN := (HC.out _ hcur).dead x y
                have hPN := (HP.out _ hcur).dead HNE.out.2 x y
                have hVN := ((HV.out _ hcur).other ⟨gc, 6, none⟩ (.int .i64 x) HNE.out.1).other ⟨gc, 7, none⟩ (.int .i64 y) HNE.out.1
                have hBN := dead_below (HB.out.trans (hcur.mono HB.out.size)) HWC.out x y
                have HN := Lib.hid hN
                have HPN := Lib.hid hPN
                have HVN := Lib.hid hVN
                have HBN := Lib.hid hBN
                clear hN hPN hVN hBN
                go_upto_region 9 with (fail)
                clear c0 c1 c2 c3 c4 c5 c6 c7 k0 k1 k2 k3 k4 k5 p0 p1 hcur hfz HC HP HV HB
                generalize World.setCell _ ⟨gc, 7, none⟩ (.int .i64 y) = W4 at *
                have hcur := Below.refl W4.heap.size W4
                obtain ⟨c0, c1, c2, c3, c4, c5, c6, c7⟩ := HN.out.cs
                have HPN := Lib.hid (fun W (h : Below W4.heap.size W4 W) => HPN.out.kept h)
                have HVN := Lib.hid (fun W (h : Below W4.heap.size W4 W) => HVN.out.kept h)
                by_cases hxa : x ≤ a
                · by_cases hyb : y ≤ b
                  · have hS2 := HS.out x y
                    rw [HS2.out (by simp) (by simp) hvg, if_pos (by simp [hxa, hyb])] at hS2
                    have HS2n := Lib.hid hS2
                    clear hS2
                    go_wp2_with (first
                      | (go_at_call 29; (with_reducible refine (HS2n.out _).mono ?_); rintro e9 w9 ⟨rfl, hb9⟩; (replace hcur := hcur.trans (hb9.mono hcur.size)); clear hb9; obtain ⟨k0, k1, k2, k3, k4, k5⟩ := (HPN.out _ hcur).cs; have p0 := (HVN.out _ hcur).c0; have p1 := (HVN.out _ hcur).c1)
                      | (go_at_call 35; (with_reducible refine (HLv.out _ (HBN.out.trans (hcur.mono HBN.out.size))).mono ?_); rintro e9 w9 ⟨rfl, hb9⟩; (replace hcur := hcur.trans (hb9.mono hcur.size)); clear hb9))
                    go_ret
                    exact ⟨rfl, HBN.out.trans (hcur.mono HBN.out.size)⟩
                  · have hS2 := HS.out x y
                    rw [HS2.out (by simp) (by simp) hvg, if_neg (by simp [hyb])] at hS2
                    rw [hnil] at hS2
                    have HS2n := Lib.hid hS2
                    clear hS2
                    go_wp2_with (first
                      | (go_at_call 29; (with_reducible refine (HS2n.out _).mono ?_); rintro e9 w9 ⟨rfl, hb9⟩; (replace hcur := hcur.trans (hb9.mono hcur.size)); clear hb9; obtain ⟨k0, k1, k2, k3, k4, k5⟩ := (HPN.out _ hcur).cs; have p0 := (HVN.out _ hcur).c0; have p1 := (HVN.out _ hcur).c1)
                      | (go_at_call 35; (with_reducible refine (HLv.out _ (HBN.out.trans (hcur.mono HBN.out.size))).mono ?_); rintro e9 w9 ⟨rfl, hb9⟩; (replace hcur := hcur.trans (hb9.mono hcur.size)); clear hb9))
                    go_ret
                    exact ⟨rfl, HBN.out.trans (hcur.mono HBN.out.size)⟩
                · have hS2 := HS.out x y
                  rw [HS2.out (by simp) (by simp) hvg, if_neg (by simp [hxa])] at hS2
                  rw [hnil] at hS2
                  have HS2n := Lib.hid hS2
                  clear hS2
                  go_wp2_with (first
                    | (go_at_call 29; (with_reducible refine (HS2n.out _).mono ?_); rintro e9 w9 ⟨rfl, hb9⟩; (replace hcur := hcur.trans (hb9.mono hcur.size)); clear hb9; obtain ⟨k0, k1, k2, k3, k4, k5⟩ := (HPN.out _ hcur).cs; have p0 := (HVN.out _ hcur).c0; have p1 := (HVN.out _ hcur).c1)
                    | (go_at_call 35; (with_reducible refine (HLv.out _ (HBN.out.trans (hcur.mono HBN.out.size))).mono ?_); rintro e9 w9 ⟨rfl, hb9⟩; (replace hcur := hcur.trans (hb9.mono hcur.size)); clear hb9))
                  go_ret
                  exact ⟨rfl, HBN.out.trans (hcur.mono HBN.out.size)⟩
              · go_wp2_with (go_at_call 35; (with_reducible refine (HLv.out _ (HB.out.trans (hcur.mono HB.out.size))).mono ?_); rintro e9 w9 ⟨rfl, hb9⟩; (replace hcur := hcur.trans (hb9.mono hcur.size)); clear hb9)
                go_ret
                exact ⟨rfl, HB.out.trans (hcur.mono HB.out.size)⟩
            · go_wp2_with (go_at_call 35; (with_reducible refine (HLv.out _ (HB.out.trans (hcur.mono HB.out.size))).mono ?_); rintro e9 w9 ⟨rfl, hb9⟩; (replace hcur := hcur.trans (hb9.mono hcur.size)); clear hb9)
              go_ret
              exact ⟨rfl, HB.out.trans (hcur.mono HB.out.size)⟩
          · go_wp2_with (go_at_call 35; (with_reducible refine (HLv.out _ (HB.out.trans (hcur.mono HB.out.size))).mono ?_); rintro e9 w9 ⟨rfl, hb9⟩; (replace hcur := hcur.trans (hb9.mono hcur.size)); clear hb9)
            go_ret
            exact ⟨rfl, HB.out.trans (hcur.mono HB.out.size)⟩
        · go_wp2_with (go_at_call 35; (with_reducible refine (HLv.out _ (HB.out.trans (hcur.mono HB.out.size))).mono ?_); rintro e9 w9 ⟨rfl, hb9⟩; (replace hcur := hcur.trans (hb9.mono hcur.size)); clear hb9)
          go_ret
          exact ⟨rfl, HB.out.trans (hcur.mono HB.out.size)⟩
      · go_wp2_with (go_at_call 35; (with_reducible refine (HLv.out _ (HB.out.trans (hcur.mono HB.out.size))).mono ?_); rintro e9 w9 ⟨rfl, hb9⟩; (replace hcur := hcur.trans (hb9.mono hcur.size)); clear hb9)
        go_ret
        exact ⟨rfl, HB.out.trans (hcur.mono HB.out.size)⟩
  · have hz := HERR.out hf
    simp only [Cl.zero, Cl.mk.injEq] at hz
    obtain ⟨rfl, rfl, rfl, rfl, rfl, rfl, rfl, rfl⟩ := hz
    have hne : (f != 0) = true := by simpa using hf
    have hceq := cell_eqb 0 0 0 0 false [] 0 0 0 0 0 0 false [] 0 0 true (cellEq_self ..)
    have hceg := cell_eqg .eql
    obtain ⟨c0, c1, c2, c3, c4, c5, c6, c7⟩ := (HC.out _ hcur).cs
    rw [hnil] at hceq c5
    clear HS1 HS2 HS HERR HGA HGV HGC
    go_wp2_with (go_at_call 35; (with_reducible refine (HLv.out _ (HB.out.trans (hcur.mono HB.out.size))).mono ?_); rintro e9 w9 ⟨rfl, hb9⟩; (replace hcur := hcur.trans (hb9.mono hcur.size)); clear hb9)
    go_ret
    exact ⟨rfl, HB.out.trans (hcur.mono HB.out.size)⟩
end Go.Proofs.YtkhihfpdghjfmaaDoor
