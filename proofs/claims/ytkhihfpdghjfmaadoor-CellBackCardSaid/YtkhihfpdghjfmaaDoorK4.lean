/-
  Cell: Of, of the reference and of the program.
-/
import Derived.Test.YtkhihfpdghjfmaaDoorK3
namespace Go.Proofs.YtkhihfpdghjfmaaDoor
open Go.RowKit Go Go.Sort
set_option linter.unusedVariables false
set_option maxRecDepth 20000

/-- A whole cell is stored. -/
theorem Cel.put {W : World} {q : Nat} {n s a b d e : Int} {g : Bool} {t : List UInt8} (h : Cel W q n s a b g t d e) (n' s' a' b' : Int) (g' : Bool) (t' : List UInt8) (d' e' : Int) :
    Cel ((((((((W.setCell ⟨q, 0, none⟩ (.int .i64 n')).setCell ⟨q, 1, none⟩ (.int .i64 s')).setCell ⟨q, 2, none⟩ (.int .i64 a')).setCell ⟨q, 3, none⟩ (.int .i64 b')).setCell ⟨q, 4, none⟩ (.bool g')).setCell ⟨q, 5, none⟩ (.string (text t'))).setCell ⟨q, 6, none⟩ (.int .i64 d')).setCell ⟨q, 7, none⟩ (.int .i64 e')) q n' s' a' b' g' t' d' e' := by
  have h0 : (W.setCell ⟨q, 0, none⟩ (.int .i64 n')).heap[q]? = some (.cells #[.int .i64 n', .int .i64 s, .int .i64 a, .int .i64 b, .bool g, .string (text t), .int .i64 d, .int .i64 e] 61 (0, 0)) := (heap_setCell_same _ q 0 _ _ _ h).trans rfl
  have h1 : ((W.setCell ⟨q, 0, none⟩ (.int .i64 n')).setCell ⟨q, 1, none⟩ (.int .i64 s')).heap[q]? = some (.cells #[.int .i64 n', .int .i64 s', .int .i64 a, .int .i64 b, .bool g, .string (text t), .int .i64 d, .int .i64 e] 61 (0, 0)) := (heap_setCell_same _ q 1 _ _ _ h0).trans rfl
  have h2 : (((W.setCell ⟨q, 0, none⟩ (.int .i64 n')).setCell ⟨q, 1, none⟩ (.int .i64 s')).setCell ⟨q, 2, none⟩ (.int .i64 a')).heap[q]? = some (.cells #[.int .i64 n', .int .i64 s', .int .i64 a', .int .i64 b, .bool g, .string (text t), .int .i64 d, .int .i64 e] 61 (0, 0)) := (heap_setCell_same _ q 2 _ _ _ h1).trans rfl
  have h3 : ((((W.setCell ⟨q, 0, none⟩ (.int .i64 n')).setCell ⟨q, 1, none⟩ (.int .i64 s')).setCell ⟨q, 2, none⟩ (.int .i64 a')).setCell ⟨q, 3, none⟩ (.int .i64 b')).heap[q]? = some (.cells #[.int .i64 n', .int .i64 s', .int .i64 a', .int .i64 b', .bool g, .string (text t), .int .i64 d, .int .i64 e] 61 (0, 0)) := (heap_setCell_same _ q 3 _ _ _ h2).trans rfl
  have h4 : (((((W.setCell ⟨q, 0, none⟩ (.int .i64 n')).setCell ⟨q, 1, none⟩ (.int .i64 s')).setCell ⟨q, 2, none⟩ (.int .i64 a')).setCell ⟨q, 3, none⟩ (.int .i64 b')).setCell ⟨q, 4, none⟩ (.bool g')).heap[q]? = some (.cells #[.int .i64 n', .int .i64 s', .int .i64 a', .int .i64 b', .bool g', .string (text t), .int .i64 d, .int .i64 e] 61 (0, 0)) := (heap_setCell_same _ q 4 _ _ _ h3).trans rfl
  have h5 : ((((((W.setCell ⟨q, 0, none⟩ (.int .i64 n')).setCell ⟨q, 1, none⟩ (.int .i64 s')).setCell ⟨q, 2, none⟩ (.int .i64 a')).setCell ⟨q, 3, none⟩ (.int .i64 b')).setCell ⟨q, 4, none⟩ (.bool g')).setCell ⟨q, 5, none⟩ (.string (text t'))).heap[q]? = some (.cells #[.int .i64 n', .int .i64 s', .int .i64 a', .int .i64 b', .bool g', .string (text t'), .int .i64 d, .int .i64 e] 61 (0, 0)) := (heap_setCell_same _ q 5 _ _ _ h4).trans rfl
  have h6 : (((((((W.setCell ⟨q, 0, none⟩ (.int .i64 n')).setCell ⟨q, 1, none⟩ (.int .i64 s')).setCell ⟨q, 2, none⟩ (.int .i64 a')).setCell ⟨q, 3, none⟩ (.int .i64 b')).setCell ⟨q, 4, none⟩ (.bool g')).setCell ⟨q, 5, none⟩ (.string (text t'))).setCell ⟨q, 6, none⟩ (.int .i64 d')).heap[q]? = some (.cells #[.int .i64 n', .int .i64 s', .int .i64 a', .int .i64 b', .bool g', .string (text t'), .int .i64 d', .int .i64 e] 61 (0, 0)) := (heap_setCell_same _ q 6 _ _ _ h5).trans rfl
  have h7 : ((((((((W.setCell ⟨q, 0, none⟩ (.int .i64 n')).setCell ⟨q, 1, none⟩ (.int .i64 s')).setCell ⟨q, 2, none⟩ (.int .i64 a')).setCell ⟨q, 3, none⟩ (.int .i64 b')).setCell ⟨q, 4, none⟩ (.bool g')).setCell ⟨q, 5, none⟩ (.string (text t'))).setCell ⟨q, 6, none⟩ (.int .i64 d')).setCell ⟨q, 7, none⟩ (.int .i64 e')).heap[q]? = some (.cells #[.int .i64 n', .int .i64 s', .int .i64 a', .int .i64 b', .bool g', .string (text t'), .int .i64 d', .int .i64 e'] 61 (0, 0)) := (heap_setCell_same _ q 7 _ _ _ h6).trans rfl
  exact h7
theorem put_below {B : Nat} {w W : World} (h : Below B w W) {q : Nat} (hq : B ≤ q) (n' s' a' b' : Int) (g' : Bool) (t' : List UInt8) (d' e' : Int) : Below B w ((((((((W.setCell ⟨q, 0, none⟩ (.int .i64 n')).setCell ⟨q, 1, none⟩ (.int .i64 s')).setCell ⟨q, 2, none⟩ (.int .i64 a')).setCell ⟨q, 3, none⟩ (.int .i64 b')).setCell ⟨q, 4, none⟩ (.bool g')).setCell ⟨q, 5, none⟩ (.string (text t'))).setCell ⟨q, 6, none⟩ (.int .i64 d')).setCell ⟨q, 7, none⟩ (.int .i64 e')) :=
  (((((((h.setCell (p := ⟨q, 0, none⟩) hq _).setCell (p := ⟨q, 1, none⟩) hq _).setCell (p := ⟨q, 2, none⟩) hq _).setCell (p := ⟨q, 3, none⟩) hq _).setCell (p := ⟨q, 4, none⟩) hq _).setCell (p := ⟨q, 5, none⟩) hq _).setCell (p := ⟨q, 6, none⟩) hq _).setCell (p := ⟨q, 7, none⟩) hq _
theorem sizeC (n s a b : Int) (g : Bool) (t : List UInt8) (d e : Int) : (Tryd.prog.info? 61).map (·.size) = some (#[.int .i64 n, .int .i64 s, .int .i64 a, .int .i64 b, .bool g, .string (text t), .int .i64 d, .int .i64 e] : Array Value).size := by kernel_rfl
theorem Cel.third (W : World) (o1 o2 : Obj) (n s a b : Int) (g : Bool) (t : List UInt8) (d e : Int) : Cel (((W.alloc o1).alloc o2).alloc (.cells #[.int .i64 n, .int .i64 s, .int .i64 a, .int .i64 b, .bool g, .string (text t), .int .i64 d, .int .i64 e] 61)) (W.heap.size + 1 + 1) n s a b g t d e := by
  have h := Cel.new ((W.alloc o1).alloc o2) n s a b g t d e
  rwa [World.size_alloc, World.size_alloc] at h

/-- A cell, and an error. -/
def OfPost (r : Cl × Int) (w : World) (e : Ending) (w' : World) : Prop := Tells (.tuple #[.agg r.1.arr, .int .i64 r.2]) w e w'

set_option maxHeartbeats 6400000 in
theorem rcof_c (p n s a b : Int) (g : Bool) (t : List UInt8) (hmax : t.length ≤ 9223372036854775807) (w : World) :
    Calls Tryd.prog 37 #[.int .i64 p, .agg #[.int .i64 n, .int .i64 s], .agg #[.int .i64 a, .int .i64 b], .bool g, .string (text t)] w (OfPost (cofS p n s a b g t) w) := by
  have hp := ((Pair.new w 57 n s).alloc (.cells #[.int .i64 a, .int .i64 b] 59)).alloc (.cells #[.int .i64 0, .int .i64 0, .int .i64 0, .int .i64 0, .bool false, .string (text []), .int .i64 0, .int .i64 0] 61)
  have hq := (Pair.second w (.cells #[.int .i64 n, .int .i64 s] 57) 59 a b).alloc (.cells #[.int .i64 0, .int .i64 0, .int .i64 0, .int .i64 0, .bool false, .string (text []), .int .i64 0, .int .i64 0] 61)
  have ho := Cel.third w (.cells #[.int .i64 n, .int .i64 s] 57) (.cells #[.int .i64 a, .int .i64 b] 59) 0 0 0 0 false [] 0 0
  have hb := third_below w (.cells #[.int .i64 n, .int .i64 s] 57) (.cells #[.int .i64 a, .int .i64 b] 59) (.cells #[.int .i64 0, .int .i64 0, .int .i64 0, .int .i64 0, .bool false, .string (text []), .int .i64 0, .int .i64 0] 61)
  have hts : ((text t).toList == []) = (t == []) := by rw [text_toList]
  have hsz : ((text t).size : Int) = (t.length : Int) := by rw [text_size]
  have hnil : text ([] : List UInt8) = ⟨#[]⟩ := rfl
  rw [hnil] at hp hq ho hb
  have HB := Lib.hid hb
  have HV := (show cofS p n s a b g t = if argS p n s a b g t = true then (if 64 < t.length then (Cl.zero, 3) else if ((p == 2) && g) = true then (⟨0, 0, 0, 0, false, [], a, b⟩, 0) else (⟨n, s, a, b, g, t, 0, 0⟩, 0)) else (Cl.zero, 2) from rfl)
  have HA := (show argS p n s a b g t = ((p == 1 || p == 2) && (whenS n s && (vgood a b && !(g && !(t == []))))) from rfl)
  have HW0 := Lib.hid (show whenS n s = (sgood n s && decide (0 < n)) from rfl)
  have hG := fun W => rsgood_c n s W
  have hK := fun W => rvgood_c a b W
  obtain ⟨z, hz⟩ : ∃ z, (t == []) = z := ⟨_, rfl⟩
  rw [hz] at hts HA
  obtain ⟨L, hL⟩ : ∃ L, t.length = L := ⟨_, rfl⟩
  rw [hL] at hsz HV hmax
  obtain ⟨v, hv⟩ : ∃ v, vgood a b = v := ⟨_, rfl⟩
  rw [hv] at HA hK
  have HK := Lib.hid hK
  obtain ⟨R, hR⟩ : ∃ R, cofS p n s a b g t = R := ⟨_, rfl⟩
  rw [hR] at HV ⊢
  obtain ⟨A, hA⟩ : ∃ A, argS p n s a b g t = A := ⟨_, rfl⟩
  rw [hA] at HV HA
  clear hb hnil hz hL hv hR hA hK
  go_enter Tryd.func37, Tryd.ntmps37
  go_upto_region 1 with (fail)
  generalize ((w.alloc (.cells #[.int .i64 n, .int .i64 s] 57)).alloc (.cells #[.int .i64 a, .int .i64 b] 59)).alloc (.cells #[.int .i64 0, .int .i64 0, .int .i64 0, .int .i64 0, .bool false, .string ⟨#[]⟩, .int .i64 0, .int .i64 0] 61) = W1 at *
  have HP := Lib.hid (fun W (h : Below W1.heap.size W1 W) => (And.intro (hp.kept h).c0 (And.intro (hp.kept h).c1 (And.intro (hq.kept h).c0 (hq.kept h).c1))))
  have HO := Lib.hid (fun W (h : Below W1.heap.size W1 W) => ho.kept h)
  have hcur := Below.refl W1.heap.size W1
  obtain ⟨p0, p1, q0, q1⟩ := HP.out _ hcur
  obtain ⟨c0, c1, c2, c3, c4, c5, c6, c7⟩ := (HO.out _ hcur).cs
  have hfz := (HO.out _ hcur).fz
  clear hp hq ho
  by_cases p1 : p = 1
  · subst p1
    cases hs : sgood n s with
    | false =>
      rw [hs] at HW0 hG
      rw [HW0.out] at HA
      have HG := Lib.hid hG
      clear hs HW0 hG
      have HR := Lib.hid (show R = (Cl.zero, 2) by rw [HV, HA]; rfl)
      clear HV HA
      go_wp2_with (first
        | (go_at_call 66; (with_reducible refine (HG.out _).mono ?_); rintro e9 w9 ⟨rfl, hb9⟩; (replace hcur := hcur.trans (hb9.mono hcur.size)); clear hb9; obtain ⟨p0, p1, q0, q1⟩ := HP.out _ hcur; obtain ⟨c0, c1, c2, c3, c4, c5, c6, c7⟩ := (HO.out _ hcur).cs; have hfz := (HO.out _ hcur).fz))
      refine bodyPost_ret (res_cell_tmp rfl _ _ (w.heap.size + 1 + 1) 61 _ (0, 0) _ (.int .i64 2) rfl rfl ((HO.out _ hcur).put 0 0 0 0 false [] 0 0) Tryd.underlying61 rfl (sizeC _ _ _ _ _ _ _ _)) rfl ⟨by rw [HR.out]; rfl, put_below (HB.out.trans (hcur.mono HB.out.size)) (by omega) _ _ _ _ _ _ _ _⟩
    | true =>
      rw [hs] at HW0 hG
      have HG := Lib.hid hG
      by_cases hn : n = 0
      · have hnb : (n == 0) = true := by simpa using hn
        rw [HW0.out, decide_eq_false (show ¬ 0 < n by omega)] at HA
        clear hs HW0 hn hG
        have HR := Lib.hid (show R = (Cl.zero, 2) by rw [HV, HA]; rfl)
        clear HV HA
        go_wp2_with (first
          | (go_at_call 66; (with_reducible refine (HG.out _).mono ?_); rintro e9 w9 ⟨rfl, hb9⟩; (replace hcur := hcur.trans (hb9.mono hcur.size)); clear hb9; obtain ⟨p0, p1, q0, q1⟩ := HP.out _ hcur; obtain ⟨c0, c1, c2, c3, c4, c5, c6, c7⟩ := (HO.out _ hcur).cs; have hfz := (HO.out _ hcur).fz))
        refine bodyPost_ret (res_cell_tmp rfl _ _ (w.heap.size + 1 + 1) 61 _ (0, 0) _ (.int .i64 2) rfl rfl ((HO.out _ hcur).put 0 0 0 0 false [] 0 0) Tryd.underlying61 rfl (sizeC _ _ _ _ _ _ _ _)) rfl ⟨by rw [HR.out]; rfl, put_below (HB.out.trans (hcur.mono HB.out.size)) (by omega) _ _ _ _ _ _ _ _⟩
      · have hnb : (n == 0) = false := by simpa using hn
        have hn0 : 0 < n := by have : (n = 0 ∧ s = 0) ∨ (1 ≤ n ∧ n ≤ 281474976710656 ∧ (s = 1 ∨ s = 2)) := by simpa [sgood] using hs
                               omega
        rw [HW0.out, decide_eq_true hn0] at HA
        clear hs HW0 hn hn0 hG
        cases v with
        | false =>
          have HR := Lib.hid (show R = (Cl.zero, 2) by rw [HV, HA]; rfl)
          clear HV HA
          go_wp2_with (first
            | (go_at_call 66; (with_reducible refine (HG.out _).mono ?_); rintro e9 w9 ⟨rfl, hb9⟩; (replace hcur := hcur.trans (hb9.mono hcur.size)); clear hb9; obtain ⟨p0, p1, q0, q1⟩ := HP.out _ hcur; obtain ⟨c0, c1, c2, c3, c4, c5, c6, c7⟩ := (HO.out _ hcur).cs; have hfz := (HO.out _ hcur).fz)
            | (go_at_call 65; (with_reducible refine (HK.out _).mono ?_); rintro e9 w9 ⟨rfl, hb9⟩; (replace hcur := hcur.trans (hb9.mono hcur.size)); clear hb9; obtain ⟨p0, p1, q0, q1⟩ := HP.out _ hcur; obtain ⟨c0, c1, c2, c3, c4, c5, c6, c7⟩ := (HO.out _ hcur).cs; have hfz := (HO.out _ hcur).fz))
          refine bodyPost_ret (res_cell_tmp rfl _ _ (w.heap.size + 1 + 1) 61 _ (0, 0) _ (.int .i64 2) rfl rfl ((HO.out _ hcur).put 0 0 0 0 false [] 0 0) Tryd.underlying61 rfl (sizeC _ _ _ _ _ _ _ _)) rfl ⟨by rw [HR.out]; rfl, put_below (HB.out.trans (hcur.mono HB.out.size)) (by omega) _ _ _ _ _ _ _ _⟩
        | true =>
          cases g with
          | false =>
            have HAt : A = true := by rw [HA]; rfl
            by_cases hl : 64 < L
            · have hli : (64 : Int) < (L : Int) := by omega
              have HR := Lib.hid (show R = (Cl.zero, 3) by rw [HV, if_pos HAt, if_pos hl])
              clear HV HA
              go_wp2_with (first
                | (go_at_call 66; (with_reducible refine (HG.out _).mono ?_); rintro e9 w9 ⟨rfl, hb9⟩; (replace hcur := hcur.trans (hb9.mono hcur.size)); clear hb9; obtain ⟨p0, p1, q0, q1⟩ := HP.out _ hcur; obtain ⟨c0, c1, c2, c3, c4, c5, c6, c7⟩ := (HO.out _ hcur).cs; have hfz := (HO.out _ hcur).fz)
                | (go_at_call 65; (with_reducible refine (HK.out _).mono ?_); rintro e9 w9 ⟨rfl, hb9⟩; (replace hcur := hcur.trans (hb9.mono hcur.size)); clear hb9; obtain ⟨p0, p1, q0, q1⟩ := HP.out _ hcur; obtain ⟨c0, c1, c2, c3, c4, c5, c6, c7⟩ := (HO.out _ hcur).cs; have hfz := (HO.out _ hcur).fz))
              refine bodyPost_ret (res_cell_tmp rfl _ _ (w.heap.size + 1 + 1) 61 _ (0, 0) _ (.int .i64 3) rfl rfl ((HO.out _ hcur).put 0 0 0 0 false [] 0 0) Tryd.underlying61 rfl (sizeC _ _ _ _ _ _ _ _)) rfl ⟨by rw [HR.out]; rfl, put_below (HB.out.trans (hcur.mono HB.out.size)) (by omega) _ _ _ _ _ _ _ _⟩
            · have hli : ¬ (64 : Int) < (L : Int) := by omega
              have HR := Lib.hid (show R = (⟨n, s, a, b, false, t, 0, 0⟩, 0) by rw [HV, if_pos HAt, if_neg hl]; rfl)
              clear HV HA
              go_wp2_with (first
                | (go_at_call 66; (with_reducible refine (HG.out _).mono ?_); rintro e9 w9 ⟨rfl, hb9⟩; (replace hcur := hcur.trans (hb9.mono hcur.size)); clear hb9; obtain ⟨p0, p1, q0, q1⟩ := HP.out _ hcur; obtain ⟨c0, c1, c2, c3, c4, c5, c6, c7⟩ := (HO.out _ hcur).cs; have hfz := (HO.out _ hcur).fz)
                | (go_at_call 65; (with_reducible refine (HK.out _).mono ?_); rintro e9 w9 ⟨rfl, hb9⟩; (replace hcur := hcur.trans (hb9.mono hcur.size)); clear hb9; obtain ⟨p0, p1, q0, q1⟩ := HP.out _ hcur; obtain ⟨c0, c1, c2, c3, c4, c5, c6, c7⟩ := (HO.out _ hcur).cs; have hfz := (HO.out _ hcur).fz))
              refine bodyPost_ret (res_cell_tmp rfl _ _ (w.heap.size + 1 + 1) 61 _ (0, 0) _ (.int .i64 0) rfl rfl ((HO.out _ hcur).put n s a b false t 0 0) Tryd.underlying61 rfl (sizeC _ _ _ _ _ _ _ _)) rfl ⟨by rw [HR.out]; rfl, put_below (HB.out.trans (hcur.mono HB.out.size)) (by omega) _ _ _ _ _ _ _ _⟩
          | true =>
            cases z with
            | false =>
              have HR := Lib.hid (show R = (Cl.zero, 2) by rw [HV, HA]; rfl)
              clear HV HA
              go_wp2_with (first
                | (go_at_call 66; (with_reducible refine (HG.out _).mono ?_); rintro e9 w9 ⟨rfl, hb9⟩; (replace hcur := hcur.trans (hb9.mono hcur.size)); clear hb9; obtain ⟨p0, p1, q0, q1⟩ := HP.out _ hcur; obtain ⟨c0, c1, c2, c3, c4, c5, c6, c7⟩ := (HO.out _ hcur).cs; have hfz := (HO.out _ hcur).fz)
                | (go_at_call 65; (with_reducible refine (HK.out _).mono ?_); rintro e9 w9 ⟨rfl, hb9⟩; (replace hcur := hcur.trans (hb9.mono hcur.size)); clear hb9; obtain ⟨p0, p1, q0, q1⟩ := HP.out _ hcur; obtain ⟨c0, c1, c2, c3, c4, c5, c6, c7⟩ := (HO.out _ hcur).cs; have hfz := (HO.out _ hcur).fz))
              refine bodyPost_ret (res_cell_tmp rfl _ _ (w.heap.size + 1 + 1) 61 _ (0, 0) _ (.int .i64 2) rfl rfl ((HO.out _ hcur).put 0 0 0 0 false [] 0 0) Tryd.underlying61 rfl (sizeC _ _ _ _ _ _ _ _)) rfl ⟨by rw [HR.out]; rfl, put_below (HB.out.trans (hcur.mono HB.out.size)) (by omega) _ _ _ _ _ _ _ _⟩
            | true =>
              have HAt : A = true := by rw [HA]; rfl
              by_cases hl : 64 < L
              · have hli : (64 : Int) < (L : Int) := by omega
                have HR := Lib.hid (show R = (Cl.zero, 3) by rw [HV, if_pos HAt, if_pos hl])
                clear HV HA
                go_wp2_with (first
                  | (go_at_call 66; (with_reducible refine (HG.out _).mono ?_); rintro e9 w9 ⟨rfl, hb9⟩; (replace hcur := hcur.trans (hb9.mono hcur.size)); clear hb9; obtain ⟨p0, p1, q0, q1⟩ := HP.out _ hcur; obtain ⟨c0, c1, c2, c3, c4, c5, c6, c7⟩ := (HO.out _ hcur).cs; have hfz := (HO.out _ hcur).fz)
                  | (go_at_call 65; (with_reducible refine (HK.out _).mono ?_); rintro e9 w9 ⟨rfl, hb9⟩; (replace hcur := hcur.trans (hb9.mono hcur.size)); clear hb9; obtain ⟨p0, p1, q0, q1⟩ := HP.out _ hcur; obtain ⟨c0, c1, c2, c3, c4, c5, c6, c7⟩ := (HO.out _ hcur).cs; have hfz := (HO.out _ hcur).fz))
                refine bodyPost_ret (res_cell_tmp rfl _ _ (w.heap.size + 1 + 1) 61 _ (0, 0) _ (.int .i64 3) rfl rfl ((HO.out _ hcur).put 0 0 0 0 false [] 0 0) Tryd.underlying61 rfl (sizeC _ _ _ _ _ _ _ _)) rfl ⟨by rw [HR.out]; rfl, put_below (HB.out.trans (hcur.mono HB.out.size)) (by omega) _ _ _ _ _ _ _ _⟩
              · have hli : ¬ (64 : Int) < (L : Int) := by omega
                have HR := Lib.hid (show R = (⟨n, s, a, b, true, t, 0, 0⟩, 0) by rw [HV, if_pos HAt, if_neg hl]; rfl)
                clear HV HA
                go_wp2_with (first
                  | (go_at_call 66; (with_reducible refine (HG.out _).mono ?_); rintro e9 w9 ⟨rfl, hb9⟩; (replace hcur := hcur.trans (hb9.mono hcur.size)); clear hb9; obtain ⟨p0, p1, q0, q1⟩ := HP.out _ hcur; obtain ⟨c0, c1, c2, c3, c4, c5, c6, c7⟩ := (HO.out _ hcur).cs; have hfz := (HO.out _ hcur).fz)
                  | (go_at_call 65; (with_reducible refine (HK.out _).mono ?_); rintro e9 w9 ⟨rfl, hb9⟩; (replace hcur := hcur.trans (hb9.mono hcur.size)); clear hb9; obtain ⟨p0, p1, q0, q1⟩ := HP.out _ hcur; obtain ⟨c0, c1, c2, c3, c4, c5, c6, c7⟩ := (HO.out _ hcur).cs; have hfz := (HO.out _ hcur).fz))
                refine bodyPost_ret (res_cell_tmp rfl _ _ (w.heap.size + 1 + 1) 61 _ (0, 0) _ (.int .i64 0) rfl rfl ((HO.out _ hcur).put n s a b true t 0 0) Tryd.underlying61 rfl (sizeC _ _ _ _ _ _ _ _)) rfl ⟨by rw [HR.out]; rfl, put_below (HB.out.trans (hcur.mono HB.out.size)) (by omega) _ _ _ _ _ _ _ _⟩
  · have k1 : (p == 1) = false := by simpa using p1
    have k1n : (p != 1) = true := by simpa using p1
    by_cases p2 : p = 2
    · subst p2
      clear p1 k1 k1n
      cases hs : sgood n s with
      | false =>
        rw [hs] at HW0 hG
        rw [HW0.out] at HA
        have HG := Lib.hid hG
        clear hs HW0 hG
        have HR := Lib.hid (show R = (Cl.zero, 2) by rw [HV, HA]; rfl)
        clear HV HA
        go_wp2_with (first
          | (go_at_call 66; (with_reducible refine (HG.out _).mono ?_); rintro e9 w9 ⟨rfl, hb9⟩; (replace hcur := hcur.trans (hb9.mono hcur.size)); clear hb9; obtain ⟨p0, p1, q0, q1⟩ := HP.out _ hcur; obtain ⟨c0, c1, c2, c3, c4, c5, c6, c7⟩ := (HO.out _ hcur).cs; have hfz := (HO.out _ hcur).fz))
        refine bodyPost_ret (res_cell_tmp rfl _ _ (w.heap.size + 1 + 1) 61 _ (0, 0) _ (.int .i64 2) rfl rfl ((HO.out _ hcur).put 0 0 0 0 false [] 0 0) Tryd.underlying61 rfl (sizeC _ _ _ _ _ _ _ _)) rfl ⟨by rw [HR.out]; rfl, put_below (HB.out.trans (hcur.mono HB.out.size)) (by omega) _ _ _ _ _ _ _ _⟩
      | true =>
        rw [hs] at HW0 hG
        have HG := Lib.hid hG
        by_cases hn : n = 0
        · have hnb : (n == 0) = true := by simpa using hn
          rw [HW0.out, decide_eq_false (show ¬ 0 < n by omega)] at HA
          clear hs HW0 hn hG
          have HR := Lib.hid (show R = (Cl.zero, 2) by rw [HV, HA]; rfl)
          clear HV HA
          go_wp2_with (first
            | (go_at_call 66; (with_reducible refine (HG.out _).mono ?_); rintro e9 w9 ⟨rfl, hb9⟩; (replace hcur := hcur.trans (hb9.mono hcur.size)); clear hb9; obtain ⟨p0, p1, q0, q1⟩ := HP.out _ hcur; obtain ⟨c0, c1, c2, c3, c4, c5, c6, c7⟩ := (HO.out _ hcur).cs; have hfz := (HO.out _ hcur).fz))
          refine bodyPost_ret (res_cell_tmp rfl _ _ (w.heap.size + 1 + 1) 61 _ (0, 0) _ (.int .i64 2) rfl rfl ((HO.out _ hcur).put 0 0 0 0 false [] 0 0) Tryd.underlying61 rfl (sizeC _ _ _ _ _ _ _ _)) rfl ⟨by rw [HR.out]; rfl, put_below (HB.out.trans (hcur.mono HB.out.size)) (by omega) _ _ _ _ _ _ _ _⟩
        · have hnb : (n == 0) = false := by simpa using hn
          have hn0 : 0 < n := by have : (n = 0 ∧ s = 0) ∨ (1 ≤ n ∧ n ≤ 281474976710656 ∧ (s = 1 ∨ s = 2)) := by simpa [sgood] using hs
                                 omega
          rw [HW0.out, decide_eq_true hn0] at HA
          clear hs HW0 hn hn0 hG
          cases v with
          | false =>
            have HR := Lib.hid (show R = (Cl.zero, 2) by rw [HV, HA]; rfl)
            clear HV HA
            go_wp2_with (first
              | (go_at_call 66; (with_reducible refine (HG.out _).mono ?_); rintro e9 w9 ⟨rfl, hb9⟩; (replace hcur := hcur.trans (hb9.mono hcur.size)); clear hb9; obtain ⟨p0, p1, q0, q1⟩ := HP.out _ hcur; obtain ⟨c0, c1, c2, c3, c4, c5, c6, c7⟩ := (HO.out _ hcur).cs; have hfz := (HO.out _ hcur).fz)
              | (go_at_call 65; (with_reducible refine (HK.out _).mono ?_); rintro e9 w9 ⟨rfl, hb9⟩; (replace hcur := hcur.trans (hb9.mono hcur.size)); clear hb9; obtain ⟨p0, p1, q0, q1⟩ := HP.out _ hcur; obtain ⟨c0, c1, c2, c3, c4, c5, c6, c7⟩ := (HO.out _ hcur).cs; have hfz := (HO.out _ hcur).fz))
            refine bodyPost_ret (res_cell_tmp rfl _ _ (w.heap.size + 1 + 1) 61 _ (0, 0) _ (.int .i64 2) rfl rfl ((HO.out _ hcur).put 0 0 0 0 false [] 0 0) Tryd.underlying61 rfl (sizeC _ _ _ _ _ _ _ _)) rfl ⟨by rw [HR.out]; rfl, put_below (HB.out.trans (hcur.mono HB.out.size)) (by omega) _ _ _ _ _ _ _ _⟩
          | true =>
            cases g with
            | false =>
              have HAt : A = true := by rw [HA]; rfl
              by_cases hl : 64 < L
              · have hli : (64 : Int) < (L : Int) := by omega
                have HR := Lib.hid (show R = (Cl.zero, 3) by rw [HV, if_pos HAt, if_pos hl])
                clear HV HA
                go_wp2_with (first
                  | (go_at_call 66; (with_reducible refine (HG.out _).mono ?_); rintro e9 w9 ⟨rfl, hb9⟩; (replace hcur := hcur.trans (hb9.mono hcur.size)); clear hb9; obtain ⟨p0, p1, q0, q1⟩ := HP.out _ hcur; obtain ⟨c0, c1, c2, c3, c4, c5, c6, c7⟩ := (HO.out _ hcur).cs; have hfz := (HO.out _ hcur).fz)
                  | (go_at_call 65; (with_reducible refine (HK.out _).mono ?_); rintro e9 w9 ⟨rfl, hb9⟩; (replace hcur := hcur.trans (hb9.mono hcur.size)); clear hb9; obtain ⟨p0, p1, q0, q1⟩ := HP.out _ hcur; obtain ⟨c0, c1, c2, c3, c4, c5, c6, c7⟩ := (HO.out _ hcur).cs; have hfz := (HO.out _ hcur).fz))
                refine bodyPost_ret (res_cell_tmp rfl _ _ (w.heap.size + 1 + 1) 61 _ (0, 0) _ (.int .i64 3) rfl rfl ((HO.out _ hcur).put 0 0 0 0 false [] 0 0) Tryd.underlying61 rfl (sizeC _ _ _ _ _ _ _ _)) rfl ⟨by rw [HR.out]; rfl, put_below (HB.out.trans (hcur.mono HB.out.size)) (by omega) _ _ _ _ _ _ _ _⟩
              · have hli : ¬ (64 : Int) < (L : Int) := by omega
                have HR := Lib.hid (show R = (⟨n, s, a, b, false, t, 0, 0⟩, 0) by rw [HV, if_pos HAt, if_neg hl]; rfl)
                clear HV HA
                go_wp2_with (first
                  | (go_at_call 66; (with_reducible refine (HG.out _).mono ?_); rintro e9 w9 ⟨rfl, hb9⟩; (replace hcur := hcur.trans (hb9.mono hcur.size)); clear hb9; obtain ⟨p0, p1, q0, q1⟩ := HP.out _ hcur; obtain ⟨c0, c1, c2, c3, c4, c5, c6, c7⟩ := (HO.out _ hcur).cs; have hfz := (HO.out _ hcur).fz)
                  | (go_at_call 65; (with_reducible refine (HK.out _).mono ?_); rintro e9 w9 ⟨rfl, hb9⟩; (replace hcur := hcur.trans (hb9.mono hcur.size)); clear hb9; obtain ⟨p0, p1, q0, q1⟩ := HP.out _ hcur; obtain ⟨c0, c1, c2, c3, c4, c5, c6, c7⟩ := (HO.out _ hcur).cs; have hfz := (HO.out _ hcur).fz))
                refine bodyPost_ret (res_cell_tmp rfl _ _ (w.heap.size + 1 + 1) 61 _ (0, 0) _ (.int .i64 0) rfl rfl ((HO.out _ hcur).put n s a b false t 0 0) Tryd.underlying61 rfl (sizeC _ _ _ _ _ _ _ _)) rfl ⟨by rw [HR.out]; rfl, put_below (HB.out.trans (hcur.mono HB.out.size)) (by omega) _ _ _ _ _ _ _ _⟩
            | true =>
              cases z with
              | false =>
                have HR := Lib.hid (show R = (Cl.zero, 2) by rw [HV, HA]; rfl)
                clear HV HA
                go_wp2_with (first
                  | (go_at_call 66; (with_reducible refine (HG.out _).mono ?_); rintro e9 w9 ⟨rfl, hb9⟩; (replace hcur := hcur.trans (hb9.mono hcur.size)); clear hb9; obtain ⟨p0, p1, q0, q1⟩ := HP.out _ hcur; obtain ⟨c0, c1, c2, c3, c4, c5, c6, c7⟩ := (HO.out _ hcur).cs; have hfz := (HO.out _ hcur).fz)
                  | (go_at_call 65; (with_reducible refine (HK.out _).mono ?_); rintro e9 w9 ⟨rfl, hb9⟩; (replace hcur := hcur.trans (hb9.mono hcur.size)); clear hb9; obtain ⟨p0, p1, q0, q1⟩ := HP.out _ hcur; obtain ⟨c0, c1, c2, c3, c4, c5, c6, c7⟩ := (HO.out _ hcur).cs; have hfz := (HO.out _ hcur).fz))
                refine bodyPost_ret (res_cell_tmp rfl _ _ (w.heap.size + 1 + 1) 61 _ (0, 0) _ (.int .i64 2) rfl rfl ((HO.out _ hcur).put 0 0 0 0 false [] 0 0) Tryd.underlying61 rfl (sizeC _ _ _ _ _ _ _ _)) rfl ⟨by rw [HR.out]; rfl, put_below (HB.out.trans (hcur.mono HB.out.size)) (by omega) _ _ _ _ _ _ _ _⟩
              | true =>
                have HAt : A = true := by rw [HA]; rfl
                by_cases hl : 64 < L
                · have hli : (64 : Int) < (L : Int) := by omega
                  have HR := Lib.hid (show R = (Cl.zero, 3) by rw [HV, if_pos HAt, if_pos hl])
                  clear HV HA
                  go_wp2_with (first
                    | (go_at_call 66; (with_reducible refine (HG.out _).mono ?_); rintro e9 w9 ⟨rfl, hb9⟩; (replace hcur := hcur.trans (hb9.mono hcur.size)); clear hb9; obtain ⟨p0, p1, q0, q1⟩ := HP.out _ hcur; obtain ⟨c0, c1, c2, c3, c4, c5, c6, c7⟩ := (HO.out _ hcur).cs; have hfz := (HO.out _ hcur).fz)
                    | (go_at_call 65; (with_reducible refine (HK.out _).mono ?_); rintro e9 w9 ⟨rfl, hb9⟩; (replace hcur := hcur.trans (hb9.mono hcur.size)); clear hb9; obtain ⟨p0, p1, q0, q1⟩ := HP.out _ hcur; obtain ⟨c0, c1, c2, c3, c4, c5, c6, c7⟩ := (HO.out _ hcur).cs; have hfz := (HO.out _ hcur).fz))
                  refine bodyPost_ret (res_cell_tmp rfl _ _ (w.heap.size + 1 + 1) 61 _ (0, 0) _ (.int .i64 3) rfl rfl ((HO.out _ hcur).put 0 0 0 0 false [] 0 0) Tryd.underlying61 rfl (sizeC _ _ _ _ _ _ _ _)) rfl ⟨by rw [HR.out]; rfl, put_below (HB.out.trans (hcur.mono HB.out.size)) (by omega) _ _ _ _ _ _ _ _⟩
                · have hli : ¬ (64 : Int) < (L : Int) := by omega
                  have HR := Lib.hid (show R = (⟨0, 0, 0, 0, false, [], a, b⟩, 0) by rw [HV, if_pos HAt, if_neg hl]; rfl)
                  clear HV HA
                  go_wp2_with (first
                    | (go_at_call 66; (with_reducible refine (HG.out _).mono ?_); rintro e9 w9 ⟨rfl, hb9⟩; (replace hcur := hcur.trans (hb9.mono hcur.size)); clear hb9; obtain ⟨p0, p1, q0, q1⟩ := HP.out _ hcur; obtain ⟨c0, c1, c2, c3, c4, c5, c6, c7⟩ := (HO.out _ hcur).cs; have hfz := (HO.out _ hcur).fz)
                    | (go_at_call 65; (with_reducible refine (HK.out _).mono ?_); rintro e9 w9 ⟨rfl, hb9⟩; (replace hcur := hcur.trans (hb9.mono hcur.size)); clear hb9; obtain ⟨p0, p1, q0, q1⟩ := HP.out _ hcur; obtain ⟨c0, c1, c2, c3, c4, c5, c6, c7⟩ := (HO.out _ hcur).cs; have hfz := (HO.out _ hcur).fz))
                  refine bodyPost_ret (res_cell_tmp rfl _ _ (w.heap.size + 1 + 1) 61 _ (0, 0) _ (.int .i64 0) rfl rfl ((HO.out _ hcur).put 0 0 0 0 false [] a b) Tryd.underlying61 rfl (sizeC _ _ _ _ _ _ _ _)) rfl ⟨by rw [HR.out]; rfl, put_below (HB.out.trans (hcur.mono HB.out.size)) (by omega) _ _ _ _ _ _ _ _⟩
    · have k2 : (p == 2) = false := by simpa using p2
      have k2n : (p != 2) = true := by simpa using p2
      rw [k1, k2] at HA
      clear p1 p2
      have HR := Lib.hid (show R = (Cl.zero, 2) by rw [HV, HA]; rfl)
      clear HV HA
      go_wp2
      refine bodyPost_ret (res_cell_tmp rfl _ _ (w.heap.size + 1 + 1) 61 _ (0, 0) _ (.int .i64 2) rfl rfl ((HO.out _ hcur).put 0 0 0 0 false [] 0 0) Tryd.underlying61 rfl (sizeC _ _ _ _ _ _ _ _)) rfl ⟨by rw [HR.out]; rfl, put_below (HB.out.trans (hcur.mono HB.out.size)) (by omega) _ _ _ _ _ _ _ _⟩

set_option maxHeartbeats 6400000 in
theorem cof_c (p n s a b : Int) (g : Bool) (t : List UInt8) (hmax : t.length ≤ 9223372036854775807) (w : World) :
    Calls Tryd.prog 36 #[.int .i64 p, .agg #[.int .i64 n, .int .i64 s], .agg #[.int .i64 a, .int .i64 b], .bool g, .string (text t)] w (OfPost (cofS p n s a b g t) w) := by
  have hp := ((Pair.new w 57 n s).alloc (.cells #[.int .i64 a, .int .i64 b] 59)).alloc (.cells #[.int .i64 0, .int .i64 0, .int .i64 0, .int .i64 0, .bool false, .string (text []), .int .i64 0, .int .i64 0] 61)
  have hq := (Pair.second w (.cells #[.int .i64 n, .int .i64 s] 57) 59 a b).alloc (.cells #[.int .i64 0, .int .i64 0, .int .i64 0, .int .i64 0, .bool false, .string (text []), .int .i64 0, .int .i64 0] 61)
  have ho := Cel.third w (.cells #[.int .i64 n, .int .i64 s] 57) (.cells #[.int .i64 a, .int .i64 b] 59) 0 0 0 0 false [] 0 0
  have hb := third_below w (.cells #[.int .i64 n, .int .i64 s] 57) (.cells #[.int .i64 a, .int .i64 b] 59) (.cells #[.int .i64 0, .int .i64 0, .int .i64 0, .int .i64 0, .bool false, .string (text []), .int .i64 0, .int .i64 0] 61)
  have hts : ((text t).toList == []) = (t == []) := by rw [text_toList]
  have hsz : ((text t).size : Int) = (t.length : Int) := by rw [text_size]
  have hnil : text ([] : List UInt8) = ⟨#[]⟩ := rfl
  rw [hnil] at hp hq ho hb
  have HB := Lib.hid hb
  have HV := (show cofS p n s a b g t = if argS p n s a b g t = true then (if 64 < t.length then (Cl.zero, 3) else if ((p == 2) && g) = true then (⟨0, 0, 0, 0, false, [], a, b⟩, 0) else (⟨n, s, a, b, g, t, 0, 0⟩, 0)) else (Cl.zero, 2) from rfl)
  have HA := (show argS p n s a b g t = ((p == 1 || p == 2) && (whenS n s && (vgood a b && !(g && !(t == []))))) from rfl)
  have HI := Lib.hid (fun W => ispolicy_c p W)
  have hG := fun W => iswhen_c n s W
  have hK := fun W => vgood_c a b W
  obtain ⟨z, hz⟩ : ∃ z, (t == []) = z := ⟨_, rfl⟩
  rw [hz] at hts HA
  obtain ⟨L, hL⟩ : ∃ L, t.length = L := ⟨_, rfl⟩
  rw [hL] at hsz HV hmax
  obtain ⟨v, hv⟩ : ∃ v, vgood a b = v := ⟨_, rfl⟩
  rw [hv] at HA hK
  have HK := Lib.hid hK
  obtain ⟨R, hR⟩ : ∃ R, cofS p n s a b g t = R := ⟨_, rfl⟩
  rw [hR] at HV ⊢
  obtain ⟨A, hA⟩ : ∃ A, argS p n s a b g t = A := ⟨_, rfl⟩
  rw [hA] at HV HA
  clear hb hnil hz hL hv hR hA hK
  go_enter Tryd.func36, Tryd.ntmps36
  go_upto_region 1 with (fail)
  generalize ((w.alloc (.cells #[.int .i64 n, .int .i64 s] 57)).alloc (.cells #[.int .i64 a, .int .i64 b] 59)).alloc (.cells #[.int .i64 0, .int .i64 0, .int .i64 0, .int .i64 0, .bool false, .string ⟨#[]⟩, .int .i64 0, .int .i64 0] 61) = W1 at *
  have HP := Lib.hid (fun W (h : Below W1.heap.size W1 W) => (And.intro (hp.kept h).c0 (And.intro (hp.kept h).c1 (And.intro (hq.kept h).c0 (hq.kept h).c1))))
  have HO := Lib.hid (fun W (h : Below W1.heap.size W1 W) => ho.kept h)
  have hcur := Below.refl W1.heap.size W1
  obtain ⟨p0, p1, q0, q1⟩ := HP.out _ hcur
  obtain ⟨c0, c1, c2, c3, c4, c5, c6, c7⟩ := (HO.out _ hcur).cs
  have hfz := (HO.out _ hcur).fz
  clear hp hq ho
  by_cases p1 : p = 1
  · subst p1
    cases hs : whenS n s with
    | false =>
      rw [hs] at HA hG
      have HG := Lib.hid hG
      clear hs hG
      have HR := Lib.hid (show R = (Cl.zero, 2) by rw [HV, HA]; rfl)
      clear HV HA
      go_wp2_with (first
        | (go_at_call 61; (with_reducible refine (HI.out _).mono ?_); rintro e9 w9 ⟨rfl, rfl⟩)
        | (go_at_call 69; (with_reducible refine (HG.out _).mono ?_); rintro e9 w9 ⟨rfl, hb9⟩; (replace hcur := hcur.trans (hb9.mono hcur.size)); clear hb9; obtain ⟨p0, p1, q0, q1⟩ := HP.out _ hcur; obtain ⟨c0, c1, c2, c3, c4, c5, c6, c7⟩ := (HO.out _ hcur).cs; have hfz := (HO.out _ hcur).fz))
      refine bodyPost_ret (res_cell_tmp rfl _ _ (w.heap.size + 1 + 1) 61 _ (0, 0) _ (.int .i64 2) rfl rfl ((HO.out _ hcur).put 0 0 0 0 false [] 0 0) Tryd.underlying61 rfl (sizeC _ _ _ _ _ _ _ _)) rfl ⟨by rw [HR.out]; rfl, put_below (HB.out.trans (hcur.mono HB.out.size)) (by omega) _ _ _ _ _ _ _ _⟩
    | true =>
      rw [hs] at HA hG
      have HG := Lib.hid hG
      clear hs hG
      cases v with
      | false =>
        have HR := Lib.hid (show R = (Cl.zero, 2) by rw [HV, HA]; rfl)
        clear HV HA
        go_wp2_with (first
          | (go_at_call 61; (with_reducible refine (HI.out _).mono ?_); rintro e9 w9 ⟨rfl, rfl⟩)
          | (go_at_call 69; (with_reducible refine (HG.out _).mono ?_); rintro e9 w9 ⟨rfl, hb9⟩; (replace hcur := hcur.trans (hb9.mono hcur.size)); clear hb9; obtain ⟨p0, p1, q0, q1⟩ := HP.out _ hcur; obtain ⟨c0, c1, c2, c3, c4, c5, c6, c7⟩ := (HO.out _ hcur).cs; have hfz := (HO.out _ hcur).fz)
          | (go_at_call 70; (with_reducible refine (HK.out _).mono ?_); rintro e9 w9 ⟨rfl, hb9⟩; (replace hcur := hcur.trans (hb9.mono hcur.size)); clear hb9; obtain ⟨p0, p1, q0, q1⟩ := HP.out _ hcur; obtain ⟨c0, c1, c2, c3, c4, c5, c6, c7⟩ := (HO.out _ hcur).cs; have hfz := (HO.out _ hcur).fz))
        refine bodyPost_ret (res_cell_tmp rfl _ _ (w.heap.size + 1 + 1) 61 _ (0, 0) _ (.int .i64 2) rfl rfl ((HO.out _ hcur).put 0 0 0 0 false [] 0 0) Tryd.underlying61 rfl (sizeC _ _ _ _ _ _ _ _)) rfl ⟨by rw [HR.out]; rfl, put_below (HB.out.trans (hcur.mono HB.out.size)) (by omega) _ _ _ _ _ _ _ _⟩
      | true =>
        cases g with
        | false =>
          have HAt : A = true := by rw [HA]; rfl
          by_cases hl : 64 < L
          · have hli : (64 : Int) < (L : Int) := by omega
            have HR := Lib.hid (show R = (Cl.zero, 3) by rw [HV, if_pos HAt, if_pos hl])
            clear HV HA
            go_wp2_with (first
              | (go_at_call 61; (with_reducible refine (HI.out _).mono ?_); rintro e9 w9 ⟨rfl, rfl⟩)
              | (go_at_call 69; (with_reducible refine (HG.out _).mono ?_); rintro e9 w9 ⟨rfl, hb9⟩; (replace hcur := hcur.trans (hb9.mono hcur.size)); clear hb9; obtain ⟨p0, p1, q0, q1⟩ := HP.out _ hcur; obtain ⟨c0, c1, c2, c3, c4, c5, c6, c7⟩ := (HO.out _ hcur).cs; have hfz := (HO.out _ hcur).fz)
              | (go_at_call 70; (with_reducible refine (HK.out _).mono ?_); rintro e9 w9 ⟨rfl, hb9⟩; (replace hcur := hcur.trans (hb9.mono hcur.size)); clear hb9; obtain ⟨p0, p1, q0, q1⟩ := HP.out _ hcur; obtain ⟨c0, c1, c2, c3, c4, c5, c6, c7⟩ := (HO.out _ hcur).cs; have hfz := (HO.out _ hcur).fz))
            refine bodyPost_ret (res_cell_tmp rfl _ _ (w.heap.size + 1 + 1) 61 _ (0, 0) _ (.int .i64 3) rfl rfl ((HO.out _ hcur).put 0 0 0 0 false [] 0 0) Tryd.underlying61 rfl (sizeC _ _ _ _ _ _ _ _)) rfl ⟨by rw [HR.out]; rfl, put_below (HB.out.trans (hcur.mono HB.out.size)) (by omega) _ _ _ _ _ _ _ _⟩
          · have hli : ¬ (64 : Int) < (L : Int) := by omega
            have HR := Lib.hid (show R = (⟨n, s, a, b, false, t, 0, 0⟩, 0) by rw [HV, if_pos HAt, if_neg hl]; rfl)
            clear HV HA
            go_wp2_with (first
              | (go_at_call 61; (with_reducible refine (HI.out _).mono ?_); rintro e9 w9 ⟨rfl, rfl⟩)
              | (go_at_call 69; (with_reducible refine (HG.out _).mono ?_); rintro e9 w9 ⟨rfl, hb9⟩; (replace hcur := hcur.trans (hb9.mono hcur.size)); clear hb9; obtain ⟨p0, p1, q0, q1⟩ := HP.out _ hcur; obtain ⟨c0, c1, c2, c3, c4, c5, c6, c7⟩ := (HO.out _ hcur).cs; have hfz := (HO.out _ hcur).fz)
              | (go_at_call 70; (with_reducible refine (HK.out _).mono ?_); rintro e9 w9 ⟨rfl, hb9⟩; (replace hcur := hcur.trans (hb9.mono hcur.size)); clear hb9; obtain ⟨p0, p1, q0, q1⟩ := HP.out _ hcur; obtain ⟨c0, c1, c2, c3, c4, c5, c6, c7⟩ := (HO.out _ hcur).cs; have hfz := (HO.out _ hcur).fz))
            refine bodyPost_ret (res_cell_tmp rfl _ _ (w.heap.size + 1 + 1) 61 _ (0, 0) _ (.int .i64 0) rfl rfl ((HO.out _ hcur).put n s a b false t 0 0) Tryd.underlying61 rfl (sizeC _ _ _ _ _ _ _ _)) rfl ⟨by rw [HR.out]; rfl, put_below (HB.out.trans (hcur.mono HB.out.size)) (by omega) _ _ _ _ _ _ _ _⟩
        | true =>
          cases z with
          | false =>
            have HR := Lib.hid (show R = (Cl.zero, 2) by rw [HV, HA]; rfl)
            clear HV HA
            go_wp2_with (first
              | (go_at_call 61; (with_reducible refine (HI.out _).mono ?_); rintro e9 w9 ⟨rfl, rfl⟩)
              | (go_at_call 69; (with_reducible refine (HG.out _).mono ?_); rintro e9 w9 ⟨rfl, hb9⟩; (replace hcur := hcur.trans (hb9.mono hcur.size)); clear hb9; obtain ⟨p0, p1, q0, q1⟩ := HP.out _ hcur; obtain ⟨c0, c1, c2, c3, c4, c5, c6, c7⟩ := (HO.out _ hcur).cs; have hfz := (HO.out _ hcur).fz)
              | (go_at_call 70; (with_reducible refine (HK.out _).mono ?_); rintro e9 w9 ⟨rfl, hb9⟩; (replace hcur := hcur.trans (hb9.mono hcur.size)); clear hb9; obtain ⟨p0, p1, q0, q1⟩ := HP.out _ hcur; obtain ⟨c0, c1, c2, c3, c4, c5, c6, c7⟩ := (HO.out _ hcur).cs; have hfz := (HO.out _ hcur).fz))
            refine bodyPost_ret (res_cell_tmp rfl _ _ (w.heap.size + 1 + 1) 61 _ (0, 0) _ (.int .i64 2) rfl rfl ((HO.out _ hcur).put 0 0 0 0 false [] 0 0) Tryd.underlying61 rfl (sizeC _ _ _ _ _ _ _ _)) rfl ⟨by rw [HR.out]; rfl, put_below (HB.out.trans (hcur.mono HB.out.size)) (by omega) _ _ _ _ _ _ _ _⟩
          | true =>
            have HAt : A = true := by rw [HA]; rfl
            by_cases hl : 64 < L
            · have hli : (64 : Int) < (L : Int) := by omega
              have HR := Lib.hid (show R = (Cl.zero, 3) by rw [HV, if_pos HAt, if_pos hl])
              clear HV HA
              go_wp2_with (first
                | (go_at_call 61; (with_reducible refine (HI.out _).mono ?_); rintro e9 w9 ⟨rfl, rfl⟩)
                | (go_at_call 69; (with_reducible refine (HG.out _).mono ?_); rintro e9 w9 ⟨rfl, hb9⟩; (replace hcur := hcur.trans (hb9.mono hcur.size)); clear hb9; obtain ⟨p0, p1, q0, q1⟩ := HP.out _ hcur; obtain ⟨c0, c1, c2, c3, c4, c5, c6, c7⟩ := (HO.out _ hcur).cs; have hfz := (HO.out _ hcur).fz)
                | (go_at_call 70; (with_reducible refine (HK.out _).mono ?_); rintro e9 w9 ⟨rfl, hb9⟩; (replace hcur := hcur.trans (hb9.mono hcur.size)); clear hb9; obtain ⟨p0, p1, q0, q1⟩ := HP.out _ hcur; obtain ⟨c0, c1, c2, c3, c4, c5, c6, c7⟩ := (HO.out _ hcur).cs; have hfz := (HO.out _ hcur).fz))
              refine bodyPost_ret (res_cell_tmp rfl _ _ (w.heap.size + 1 + 1) 61 _ (0, 0) _ (.int .i64 3) rfl rfl ((HO.out _ hcur).put 0 0 0 0 false [] 0 0) Tryd.underlying61 rfl (sizeC _ _ _ _ _ _ _ _)) rfl ⟨by rw [HR.out]; rfl, put_below (HB.out.trans (hcur.mono HB.out.size)) (by omega) _ _ _ _ _ _ _ _⟩
            · have hli : ¬ (64 : Int) < (L : Int) := by omega
              have HR := Lib.hid (show R = (⟨n, s, a, b, true, t, 0, 0⟩, 0) by rw [HV, if_pos HAt, if_neg hl]; rfl)
              clear HV HA
              go_wp2_with (first
                | (go_at_call 61; (with_reducible refine (HI.out _).mono ?_); rintro e9 w9 ⟨rfl, rfl⟩)
                | (go_at_call 69; (with_reducible refine (HG.out _).mono ?_); rintro e9 w9 ⟨rfl, hb9⟩; (replace hcur := hcur.trans (hb9.mono hcur.size)); clear hb9; obtain ⟨p0, p1, q0, q1⟩ := HP.out _ hcur; obtain ⟨c0, c1, c2, c3, c4, c5, c6, c7⟩ := (HO.out _ hcur).cs; have hfz := (HO.out _ hcur).fz)
                | (go_at_call 70; (with_reducible refine (HK.out _).mono ?_); rintro e9 w9 ⟨rfl, hb9⟩; (replace hcur := hcur.trans (hb9.mono hcur.size)); clear hb9; obtain ⟨p0, p1, q0, q1⟩ := HP.out _ hcur; obtain ⟨c0, c1, c2, c3, c4, c5, c6, c7⟩ := (HO.out _ hcur).cs; have hfz := (HO.out _ hcur).fz))
              refine bodyPost_ret (res_cell_tmp rfl _ _ (w.heap.size + 1 + 1) 61 _ (0, 0) _ (.int .i64 0) rfl rfl ((HO.out _ hcur).put n s a b true t 0 0) Tryd.underlying61 rfl (sizeC _ _ _ _ _ _ _ _)) rfl ⟨by rw [HR.out]; rfl, put_below (HB.out.trans (hcur.mono HB.out.size)) (by omega) _ _ _ _ _ _ _ _⟩
  · have k1 : (p == 1) = false := by simpa using p1
    have k1n : (p != 1) = true := by simpa using p1
    by_cases p2 : p = 2
    · subst p2
      clear p1 k1 k1n
      cases hs : whenS n s with
      | false =>
        rw [hs] at HA hG
        have HG := Lib.hid hG
        clear hs hG
        have HR := Lib.hid (show R = (Cl.zero, 2) by rw [HV, HA]; rfl)
        clear HV HA
        go_wp2_with (first
          | (go_at_call 61; (with_reducible refine (HI.out _).mono ?_); rintro e9 w9 ⟨rfl, rfl⟩)
          | (go_at_call 69; (with_reducible refine (HG.out _).mono ?_); rintro e9 w9 ⟨rfl, hb9⟩; (replace hcur := hcur.trans (hb9.mono hcur.size)); clear hb9; obtain ⟨p0, p1, q0, q1⟩ := HP.out _ hcur; obtain ⟨c0, c1, c2, c3, c4, c5, c6, c7⟩ := (HO.out _ hcur).cs; have hfz := (HO.out _ hcur).fz))
        refine bodyPost_ret (res_cell_tmp rfl _ _ (w.heap.size + 1 + 1) 61 _ (0, 0) _ (.int .i64 2) rfl rfl ((HO.out _ hcur).put 0 0 0 0 false [] 0 0) Tryd.underlying61 rfl (sizeC _ _ _ _ _ _ _ _)) rfl ⟨by rw [HR.out]; rfl, put_below (HB.out.trans (hcur.mono HB.out.size)) (by omega) _ _ _ _ _ _ _ _⟩
      | true =>
        rw [hs] at HA hG
        have HG := Lib.hid hG
        clear hs hG
        cases v with
        | false =>
          have HR := Lib.hid (show R = (Cl.zero, 2) by rw [HV, HA]; rfl)
          clear HV HA
          go_wp2_with (first
            | (go_at_call 61; (with_reducible refine (HI.out _).mono ?_); rintro e9 w9 ⟨rfl, rfl⟩)
            | (go_at_call 69; (with_reducible refine (HG.out _).mono ?_); rintro e9 w9 ⟨rfl, hb9⟩; (replace hcur := hcur.trans (hb9.mono hcur.size)); clear hb9; obtain ⟨p0, p1, q0, q1⟩ := HP.out _ hcur; obtain ⟨c0, c1, c2, c3, c4, c5, c6, c7⟩ := (HO.out _ hcur).cs; have hfz := (HO.out _ hcur).fz)
            | (go_at_call 70; (with_reducible refine (HK.out _).mono ?_); rintro e9 w9 ⟨rfl, hb9⟩; (replace hcur := hcur.trans (hb9.mono hcur.size)); clear hb9; obtain ⟨p0, p1, q0, q1⟩ := HP.out _ hcur; obtain ⟨c0, c1, c2, c3, c4, c5, c6, c7⟩ := (HO.out _ hcur).cs; have hfz := (HO.out _ hcur).fz))
          refine bodyPost_ret (res_cell_tmp rfl _ _ (w.heap.size + 1 + 1) 61 _ (0, 0) _ (.int .i64 2) rfl rfl ((HO.out _ hcur).put 0 0 0 0 false [] 0 0) Tryd.underlying61 rfl (sizeC _ _ _ _ _ _ _ _)) rfl ⟨by rw [HR.out]; rfl, put_below (HB.out.trans (hcur.mono HB.out.size)) (by omega) _ _ _ _ _ _ _ _⟩
        | true =>
          cases g with
          | false =>
            have HAt : A = true := by rw [HA]; rfl
            by_cases hl : 64 < L
            · have hli : (64 : Int) < (L : Int) := by omega
              have HR := Lib.hid (show R = (Cl.zero, 3) by rw [HV, if_pos HAt, if_pos hl])
              clear HV HA
              go_wp2_with (first
                | (go_at_call 61; (with_reducible refine (HI.out _).mono ?_); rintro e9 w9 ⟨rfl, rfl⟩)
                | (go_at_call 69; (with_reducible refine (HG.out _).mono ?_); rintro e9 w9 ⟨rfl, hb9⟩; (replace hcur := hcur.trans (hb9.mono hcur.size)); clear hb9; obtain ⟨p0, p1, q0, q1⟩ := HP.out _ hcur; obtain ⟨c0, c1, c2, c3, c4, c5, c6, c7⟩ := (HO.out _ hcur).cs; have hfz := (HO.out _ hcur).fz)
                | (go_at_call 70; (with_reducible refine (HK.out _).mono ?_); rintro e9 w9 ⟨rfl, hb9⟩; (replace hcur := hcur.trans (hb9.mono hcur.size)); clear hb9; obtain ⟨p0, p1, q0, q1⟩ := HP.out _ hcur; obtain ⟨c0, c1, c2, c3, c4, c5, c6, c7⟩ := (HO.out _ hcur).cs; have hfz := (HO.out _ hcur).fz))
              refine bodyPost_ret (res_cell_tmp rfl _ _ (w.heap.size + 1 + 1) 61 _ (0, 0) _ (.int .i64 3) rfl rfl ((HO.out _ hcur).put 0 0 0 0 false [] 0 0) Tryd.underlying61 rfl (sizeC _ _ _ _ _ _ _ _)) rfl ⟨by rw [HR.out]; rfl, put_below (HB.out.trans (hcur.mono HB.out.size)) (by omega) _ _ _ _ _ _ _ _⟩
            · have hli : ¬ (64 : Int) < (L : Int) := by omega
              have HR := Lib.hid (show R = (⟨n, s, a, b, false, t, 0, 0⟩, 0) by rw [HV, if_pos HAt, if_neg hl]; rfl)
              clear HV HA
              go_wp2_with (first
                | (go_at_call 61; (with_reducible refine (HI.out _).mono ?_); rintro e9 w9 ⟨rfl, rfl⟩)
                | (go_at_call 69; (with_reducible refine (HG.out _).mono ?_); rintro e9 w9 ⟨rfl, hb9⟩; (replace hcur := hcur.trans (hb9.mono hcur.size)); clear hb9; obtain ⟨p0, p1, q0, q1⟩ := HP.out _ hcur; obtain ⟨c0, c1, c2, c3, c4, c5, c6, c7⟩ := (HO.out _ hcur).cs; have hfz := (HO.out _ hcur).fz)
                | (go_at_call 70; (with_reducible refine (HK.out _).mono ?_); rintro e9 w9 ⟨rfl, hb9⟩; (replace hcur := hcur.trans (hb9.mono hcur.size)); clear hb9; obtain ⟨p0, p1, q0, q1⟩ := HP.out _ hcur; obtain ⟨c0, c1, c2, c3, c4, c5, c6, c7⟩ := (HO.out _ hcur).cs; have hfz := (HO.out _ hcur).fz))
              refine bodyPost_ret (res_cell_tmp rfl _ _ (w.heap.size + 1 + 1) 61 _ (0, 0) _ (.int .i64 0) rfl rfl ((HO.out _ hcur).put n s a b false t 0 0) Tryd.underlying61 rfl (sizeC _ _ _ _ _ _ _ _)) rfl ⟨by rw [HR.out]; rfl, put_below (HB.out.trans (hcur.mono HB.out.size)) (by omega) _ _ _ _ _ _ _ _⟩
          | true =>
            cases z with
            | false =>
              have HR := Lib.hid (show R = (Cl.zero, 2) by rw [HV, HA]; rfl)
              clear HV HA
              go_wp2_with (first
                | (go_at_call 61; (with_reducible refine (HI.out _).mono ?_); rintro e9 w9 ⟨rfl, rfl⟩)
                | (go_at_call 69; (with_reducible refine (HG.out _).mono ?_); rintro e9 w9 ⟨rfl, hb9⟩; (replace hcur := hcur.trans (hb9.mono hcur.size)); clear hb9; obtain ⟨p0, p1, q0, q1⟩ := HP.out _ hcur; obtain ⟨c0, c1, c2, c3, c4, c5, c6, c7⟩ := (HO.out _ hcur).cs; have hfz := (HO.out _ hcur).fz)
                | (go_at_call 70; (with_reducible refine (HK.out _).mono ?_); rintro e9 w9 ⟨rfl, hb9⟩; (replace hcur := hcur.trans (hb9.mono hcur.size)); clear hb9; obtain ⟨p0, p1, q0, q1⟩ := HP.out _ hcur; obtain ⟨c0, c1, c2, c3, c4, c5, c6, c7⟩ := (HO.out _ hcur).cs; have hfz := (HO.out _ hcur).fz))
              refine bodyPost_ret (res_cell_tmp rfl _ _ (w.heap.size + 1 + 1) 61 _ (0, 0) _ (.int .i64 2) rfl rfl ((HO.out _ hcur).put 0 0 0 0 false [] 0 0) Tryd.underlying61 rfl (sizeC _ _ _ _ _ _ _ _)) rfl ⟨by rw [HR.out]; rfl, put_below (HB.out.trans (hcur.mono HB.out.size)) (by omega) _ _ _ _ _ _ _ _⟩
            | true =>
              have HAt : A = true := by rw [HA]; rfl
              by_cases hl : 64 < L
              · have hli : (64 : Int) < (L : Int) := by omega
                have HR := Lib.hid (show R = (Cl.zero, 3) by rw [HV, if_pos HAt, if_pos hl])
                clear HV HA
                go_wp2_with (first
                  | (go_at_call 61; (with_reducible refine (HI.out _).mono ?_); rintro e9 w9 ⟨rfl, rfl⟩)
                  | (go_at_call 69; (with_reducible refine (HG.out _).mono ?_); rintro e9 w9 ⟨rfl, hb9⟩; (replace hcur := hcur.trans (hb9.mono hcur.size)); clear hb9; obtain ⟨p0, p1, q0, q1⟩ := HP.out _ hcur; obtain ⟨c0, c1, c2, c3, c4, c5, c6, c7⟩ := (HO.out _ hcur).cs; have hfz := (HO.out _ hcur).fz)
                  | (go_at_call 70; (with_reducible refine (HK.out _).mono ?_); rintro e9 w9 ⟨rfl, hb9⟩; (replace hcur := hcur.trans (hb9.mono hcur.size)); clear hb9; obtain ⟨p0, p1, q0, q1⟩ := HP.out _ hcur; obtain ⟨c0, c1, c2, c3, c4, c5, c6, c7⟩ := (HO.out _ hcur).cs; have hfz := (HO.out _ hcur).fz))
                refine bodyPost_ret (res_cell_tmp rfl _ _ (w.heap.size + 1 + 1) 61 _ (0, 0) _ (.int .i64 3) rfl rfl ((HO.out _ hcur).put 0 0 0 0 false [] 0 0) Tryd.underlying61 rfl (sizeC _ _ _ _ _ _ _ _)) rfl ⟨by rw [HR.out]; rfl, put_below (HB.out.trans (hcur.mono HB.out.size)) (by omega) _ _ _ _ _ _ _ _⟩
              · have hli : ¬ (64 : Int) < (L : Int) := by omega
                have HR := Lib.hid (show R = (⟨0, 0, 0, 0, false, [], a, b⟩, 0) by rw [HV, if_pos HAt, if_neg hl]; rfl)
                clear HV HA
                go_wp2_with (first
                  | (go_at_call 61; (with_reducible refine (HI.out _).mono ?_); rintro e9 w9 ⟨rfl, rfl⟩)
                  | (go_at_call 69; (with_reducible refine (HG.out _).mono ?_); rintro e9 w9 ⟨rfl, hb9⟩; (replace hcur := hcur.trans (hb9.mono hcur.size)); clear hb9; obtain ⟨p0, p1, q0, q1⟩ := HP.out _ hcur; obtain ⟨c0, c1, c2, c3, c4, c5, c6, c7⟩ := (HO.out _ hcur).cs; have hfz := (HO.out _ hcur).fz)
                  | (go_at_call 70; (with_reducible refine (HK.out _).mono ?_); rintro e9 w9 ⟨rfl, hb9⟩; (replace hcur := hcur.trans (hb9.mono hcur.size)); clear hb9; obtain ⟨p0, p1, q0, q1⟩ := HP.out _ hcur; obtain ⟨c0, c1, c2, c3, c4, c5, c6, c7⟩ := (HO.out _ hcur).cs; have hfz := (HO.out _ hcur).fz))
                refine bodyPost_ret (res_cell_tmp rfl _ _ (w.heap.size + 1 + 1) 61 _ (0, 0) _ (.int .i64 0) rfl rfl ((HO.out _ hcur).put 0 0 0 0 false [] a b) Tryd.underlying61 rfl (sizeC _ _ _ _ _ _ _ _)) rfl ⟨by rw [HR.out]; rfl, put_below (HB.out.trans (hcur.mono HB.out.size)) (by omega) _ _ _ _ _ _ _ _⟩
    · have k2 : (p == 2) = false := by simpa using p2
      have k2n : (p != 2) = true := by simpa using p2
      rw [k1, k2] at HA
      rw [k1, k2] at HI
      clear p1 p2
      have HR := Lib.hid (show R = (Cl.zero, 2) by rw [HV, HA]; rfl)
      clear HV HA
      go_wp2_with (first
        | (go_at_call 61; (with_reducible refine (HI.out _).mono ?_); rintro e9 w9 ⟨rfl, rfl⟩))
      refine bodyPost_ret (res_cell_tmp rfl _ _ (w.heap.size + 1 + 1) 61 _ (0, 0) _ (.int .i64 2) rfl rfl ((HO.out _ hcur).put 0 0 0 0 false [] 0 0) Tryd.underlying61 rfl (sizeC _ _ _ _ _ _ _ _)) rfl ⟨by rw [HR.out]; rfl, put_below (HB.out.trans (hcur.mono HB.out.size)) (by omega) _ _ _ _ _ _ _ _⟩
end Go.Proofs.YtkhihfpdghjfmaaDoor
