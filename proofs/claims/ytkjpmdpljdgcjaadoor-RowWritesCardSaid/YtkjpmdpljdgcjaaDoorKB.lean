/-
  Cell, the program: Seen and Known.
-/
import Derived.Test.YtkjpmdpljdgcjaaDoorKA
namespace Go.Proofs.YtkjpmdpljdgcjaaDoor
open Go.RowKit Go Go.Sort
set_option linter.unusedVariables false
set_option maxRecDepth 20000

set_option maxHeartbeats 6400000 in
theorem cseen_c (p n s a b : Int) (g : Bool) (t : List UInt8) (d e : Int) (hmax : t.length ≤ 9223372036854775807) (w : World) :
    Calls Tryd.prog 39 #[.int .i64 p, .agg #[.int .i64 n, .int .i64 s, .int .i64 a, .int .i64 b, .bool g, .string (text t), .int .i64 d, .int .i64 e]] w (Tells (.tuple #[.string (text (cseenS p n s a b g t d e).1), .bool (cseenS p n s a b g t d e).2]) w) := by
  have hp := Cel.new w n s a b g t d e
  have hb := alloc_below w (.cells #[.int .i64 n, .int .i64 s, .int .i64 a, .int .i64 b, .bool g, .string (text t), .int .i64 d, .int .i64 e] 50)
  have HB := Lib.hid hb
  have HV := (show cseenS p n s a b g t d e = if (cgoodS p n s a b g t d e && (wroteS n s a b g t && (!g && vcov a b d e))) = true then (t, true) else ([], false) from rfl)
  obtain ⟨r, hr⟩ : ∃ r, cseenS p n s a b g t d e = r := ⟨_, rfl⟩
  rw [hr] at HV ⊢
  have HG := fun W => cgood_c p n s a b g t d e hmax W
  have HW := fun W => written_c n s a b g t d e W
  have HK := fun W => vcov_c a b d e W
  clear hb hr hmax
  go_enter Tryd.func39, Tryd.ntmps39
  go_upto_region 1 with (fail)
  have HC := Lib.hid (fun W (h : Below (w.alloc (.cells #[.int .i64 n, .int .i64 s, .int .i64 a, .int .i64 b, .bool g, .string (text t), .int .i64 d, .int .i64 e] 50)).heap.size (w.alloc (.cells #[.int .i64 n, .int .i64 s, .int .i64 a, .int .i64 b, .bool g, .string (text t), .int .i64 d, .int .i64 e] 50)) W) => (hp.kept h).cs)
  generalize w.alloc (.cells #[.int .i64 n, .int .i64 s, .int .i64 a, .int .i64 b, .bool g, .string (text t), .int .i64 d, .int .i64 e] 50) = W1 at *
  clear hp
  have hcur := Below.refl W1.heap.size W1
  obtain ⟨c0, c1, c2, c3, c4, c5, c6, c7⟩ := HC.out _ hcur
  cases hg : cgoodS p n s a b g t d e with
  | false =>
    rw [hg] at HG
    rw [hg] at HV
    clear hg
    replace HG := Lib.hid HG
    replace HV := Lib.hid HV
    clear HW HK
    go_wp2_with (first
      | (go_at_call 42; (with_reducible refine (HG.out _).mono ?_); rintro e9 w9 ⟨rfl, hb9⟩; (replace hcur := hcur.trans (hb9.mono hcur.size)); clear hb9; obtain ⟨c0, c1, c2, c3, c4, c5, c6, c7⟩ := HC.out _ hcur))
    go_ret2
    exact ⟨by rw [HV.out]; rfl, HB.out.trans (hcur.mono HB.out.size)⟩
  | true =>
    rw [hg] at HG
    rw [hg] at HV
    clear hg
    cases hw : wroteS n s a b g t with
    | false =>
      rw [hw] at HW
      rw [hw] at HV
      clear hw
      replace HG := Lib.hid HG
      replace HW := Lib.hid HW
      replace HV := Lib.hid HV
      clear HK
      go_wp2_with (first
        | (go_at_call 42; (with_reducible refine (HG.out _).mono ?_); rintro e9 w9 ⟨rfl, hb9⟩; (replace hcur := hcur.trans (hb9.mono hcur.size)); clear hb9; obtain ⟨c0, c1, c2, c3, c4, c5, c6, c7⟩ := HC.out _ hcur)
        | (go_at_call 63; (with_reducible refine (HW.out _).mono ?_); rintro e9 w9 ⟨rfl, hb9⟩; (replace hcur := hcur.trans (hb9.mono hcur.size)); clear hb9; obtain ⟨c0, c1, c2, c3, c4, c5, c6, c7⟩ := HC.out _ hcur))
      go_ret2
      exact ⟨by rw [HV.out]; rfl, HB.out.trans (hcur.mono HB.out.size)⟩
    | true =>
      rw [hw] at HW
      rw [hw] at HV
      clear hw
      cases g with
      | true =>
        replace HG := Lib.hid HG
        replace HW := Lib.hid HW
        replace HV := Lib.hid HV
        clear HK
        go_wp2_with (first
          | (go_at_call 42; (with_reducible refine (HG.out _).mono ?_); rintro e9 w9 ⟨rfl, hb9⟩; (replace hcur := hcur.trans (hb9.mono hcur.size)); clear hb9; obtain ⟨c0, c1, c2, c3, c4, c5, c6, c7⟩ := HC.out _ hcur)
          | (go_at_call 63; (with_reducible refine (HW.out _).mono ?_); rintro e9 w9 ⟨rfl, hb9⟩; (replace hcur := hcur.trans (hb9.mono hcur.size)); clear hb9; obtain ⟨c0, c1, c2, c3, c4, c5, c6, c7⟩ := HC.out _ hcur))
        go_ret2
        exact ⟨by rw [HV.out]; rfl, HB.out.trans (hcur.mono HB.out.size)⟩
      | false =>
        cases hk : vcov a b d e with
        | false =>
          rw [hk] at HK
          rw [hk] at HV
          clear hk
          replace HG := Lib.hid HG
          replace HW := Lib.hid HW
          replace HK := Lib.hid HK
          replace HV := Lib.hid HV
          go_wp2_with (first
            | (go_at_call 42; (with_reducible refine (HG.out _).mono ?_); rintro e9 w9 ⟨rfl, hb9⟩; (replace hcur := hcur.trans (hb9.mono hcur.size)); clear hb9; obtain ⟨c0, c1, c2, c3, c4, c5, c6, c7⟩ := HC.out _ hcur)
            | (go_at_call 63; (with_reducible refine (HW.out _).mono ?_); rintro e9 w9 ⟨rfl, hb9⟩; (replace hcur := hcur.trans (hb9.mono hcur.size)); clear hb9; obtain ⟨c0, c1, c2, c3, c4, c5, c6, c7⟩ := HC.out _ hcur)
            | (go_at_call 64; (with_reducible refine (HK.out _).mono ?_); rintro e9 w9 ⟨rfl, hb9⟩; (replace hcur := hcur.trans (hb9.mono hcur.size)); clear hb9; obtain ⟨c0, c1, c2, c3, c4, c5, c6, c7⟩ := HC.out _ hcur))
          go_ret2
          exact ⟨by rw [HV.out]; rfl, HB.out.trans (hcur.mono HB.out.size)⟩
        | true =>
          rw [hk] at HK
          rw [hk] at HV
          clear hk
          replace HG := Lib.hid HG
          replace HW := Lib.hid HW
          replace HK := Lib.hid HK
          replace HV := Lib.hid HV
          go_wp2_with (first
            | (go_at_call 42; (with_reducible refine (HG.out _).mono ?_); rintro e9 w9 ⟨rfl, hb9⟩; (replace hcur := hcur.trans (hb9.mono hcur.size)); clear hb9; obtain ⟨c0, c1, c2, c3, c4, c5, c6, c7⟩ := HC.out _ hcur)
            | (go_at_call 63; (with_reducible refine (HW.out _).mono ?_); rintro e9 w9 ⟨rfl, hb9⟩; (replace hcur := hcur.trans (hb9.mono hcur.size)); clear hb9; obtain ⟨c0, c1, c2, c3, c4, c5, c6, c7⟩ := HC.out _ hcur)
            | (go_at_call 64; (with_reducible refine (HK.out _).mono ?_); rintro e9 w9 ⟨rfl, hb9⟩; (replace hcur := hcur.trans (hb9.mono hcur.size)); clear hb9; obtain ⟨c0, c1, c2, c3, c4, c5, c6, c7⟩ := HC.out _ hcur))
          go_ret2
          exact ⟨by rw [HV.out]; rfl, HB.out.trans (hcur.mono HB.out.size)⟩


set_option maxHeartbeats 1600000 in
theorem cknown_c (n s a b : Int) (g : Bool) (t : List UInt8) (d e : Int) (w : World) :
    Calls Tryd.prog 45 #[.agg #[.int .i64 n, .int .i64 s, .int .i64 a, .int .i64 b, .bool g, .string (text t), .int .i64 d, .int .i64 e]] w (Tells (.agg #[.int .i64 (joinS [(a, b), (d, e)]).1, .int .i64 (joinS [(a, b), (d, e)]).2]) w) := by
  have hp := (Cel.new w n s a b g t d e).alloc (.cells #[.int .i64 0, .int .i64 0] 44)
  have ho := Pair.new (w.alloc (.cells #[.int .i64 n, .int .i64 s, .int .i64 a, .int .i64 b, .bool g, .string (text t), .int .i64 d, .int .i64 e] 50)) 44 0 0
  rw [World.size_alloc] at ho
  have hb := (alloc_below w (.cells #[.int .i64 n, .int .i64 s, .int .i64 a, .int .i64 b, .bool g, .string (text t), .int .i64 d, .int .i64 e] 50)).alloc (by simp) (.cells #[.int .i64 0, .int .i64 0] 44)
  have HJ := Lib.hid (fun W => vjoin_c (prs2 W a b d e))
  obtain ⟨⟨j0, j1⟩, hj⟩ : ∃ q, joinS [(a, b), (d, e)] = q := ⟨_, rfl⟩
  rw [hj] at HJ ⊢
  have HB := Lib.hid hb
  clear hb hj
  go_enter Tryd.func45, Tryd.ntmps45
  go_upto_region 1 with (fail)
  generalize (w.alloc (.cells #[.int .i64 n, .int .i64 s, .int .i64 a, .int .i64 b, .bool g, .string (text t), .int .i64 d, .int .i64 e] 50)).alloc (.cells #[.int .i64 0, .int .i64 0] 44) = W1 at *
  obtain ⟨c0, c1, c2, c3, c4, c5, c6, c7⟩ := hp.cs
  have HO := Lib.hid ho
  clear hp ho
  go_wp2_with (go_at_call 44; (with_reducible refine (HJ.out _).mono ?_); rintro e9 w9 ⟨rfl, hb9⟩; have o0 := ((HO.out.alloc _).kept hb9).c0; have o1 := ((HO.out.alloc _).kept hb9).c1; have z0 := ((HO.out.alloc _).kept hb9).fz 0; have z1 := ((HO.out.alloc _).kept hb9).fz 1)
  refine bodyPost_ret (results_cell_row rfl _ _ (w.heap.size + 1) 44 _ (0, 0) _ rfl ((((HO.out.alloc _).kept hb9).set0 _).set1 _) Tryd.underlying44 rfl (size2 _ _)) rfl ⟨rfl, ((((HB.out.alloc HB.out.size _).trans (hb9.mono (by have := HB.out.size; simp; omega))).setCell (by simp) _).setCell (by simp) _)⟩
end Go.Proofs.YtkjpmdpljdgcjaaDoor
