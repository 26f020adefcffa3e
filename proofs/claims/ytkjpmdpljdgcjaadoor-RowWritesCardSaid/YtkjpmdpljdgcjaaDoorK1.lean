/-
  Cell: the reference's Good.
-/
import Derived.Test.YtkjpmdpljdgcjaaDoorK0
namespace Go.Proofs.YtkjpmdpljdgcjaaDoor
open Go.RowKit Go Go.Sort
set_option linter.unusedVariables false
set_option maxRecDepth 20000

def cgoodS (p n s a b : Int) (g : Bool) (t : List UInt8) (d e : Int) : Bool :=
  ((p == 1 && zeroS d e) || (p == 2 && (!g && vgood d e))) && (!wroteS n s a b g t || (sgood n s && (decide (0 < n) && (vgood a b && (decide (t.length ≤ 64) && (!g || t == []))))))

set_option maxHeartbeats 12800000 in
theorem rcgood_c (p n s a b : Int) (g : Bool) (t : List UInt8) (d e : Int) (hmax : t.length ≤ 9223372036854775807) (w : World) :
    Calls Tryd.prog 43 #[.int .i64 p, .agg #[.int .i64 n, .int .i64 s, .int .i64 a, .int .i64 b, .bool g, .string (text t), .int .i64 d, .int .i64 e]] w (Tells (.bool (cgoodS p n s a b g t d e)) w) := by
  have hp := Cel.new w n s a b g t d e
  have hb := alloc_below w (.cells #[.int .i64 n, .int .i64 s, .int .i64 a, .int .i64 b, .bool g, .string (text t), .int .i64 d, .int .i64 e] 50)
  have hts : ((text t).toList == []) = (t == []) := by rw [text_toList]
  have hsz : ((text t).size : Int) = (t.length : Int) := by rw [text_size]
  have HB := Lib.hid hb
  have HV := (show cgoodS p n s a b g t d e = (((p == 1 && zeroS d e) || (p == 2 && (!g && vgood d e))) && (!wroteS n s a b g t || (sgood n s && (decide (0 < n) && (vgood a b && (decide (t.length ≤ 64) && (!g || t == []))))))) from rfl)
  obtain ⟨r, hr⟩ : ∃ r, cgoodS p n s a b g t d e = r := ⟨_, rfl⟩
  rw [hr] at HV ⊢
  have HZ := fun W => rzero_c d e W
  have HD := fun W => rvgood_c d e W
  have HVV := fun W => rvgood_c a b W
  have HS := fun W => rsgood_c n s W
  have HW := fun W => rwritten_c n s a b g t d e W
  clear hb hr
  go_enter Tryd.func43, Tryd.ntmps43
  go_upto_region 1 with (fail)
  have HC := Lib.hid (fun W (h : Below (w.alloc (.cells #[.int .i64 n, .int .i64 s, .int .i64 a, .int .i64 b, .bool g, .string (text t), .int .i64 d, .int .i64 e] 50)).heap.size (w.alloc (.cells #[.int .i64 n, .int .i64 s, .int .i64 a, .int .i64 b, .bool g, .string (text t), .int .i64 d, .int .i64 e] 50)) W) => (hp.kept h).cs)
  generalize w.alloc (.cells #[.int .i64 n, .int .i64 s, .int .i64 a, .int .i64 b, .bool g, .string (text t), .int .i64 d, .int .i64 e] 50) = W1 at *
  clear hp
  have hcur := Below.refl W1.heap.size W1
  obtain ⟨c0, c1, c2, c3, c4, c5, c6, c7⟩ := HC.out _ hcur
  by_cases p1 : p = 1
  · subst p1
    cases hz : zeroS d e with
    | false =>
      rw [hz] at HZ
      rw [hz] at HV
      clear hz
      replace HZ := Lib.hid HZ
      replace HV := Lib.hid HV
      clear HD HVV HS HW
      go_wp2_with (first
        | (go_at_call 72; (with_reducible refine (HZ.out _).mono ?_); rintro e9 w9 ⟨rfl, hb9⟩; (replace hcur := hcur.trans (hb9.mono hcur.size)); clear hb9; obtain ⟨c0, c1, c2, c3, c4, c5, c6, c7⟩ := HC.out _ hcur))
      go_ret
      exact ⟨by rw [HV.out]; rfl, HB.out.trans (hcur.mono HB.out.size)⟩
    | true =>
      rw [hz] at HZ
      rw [hz] at HV
      clear hz
      cases hw : wroteS n s a b g t with
      | false =>
        rw [hw] at HW
        rw [hw] at HV
        clear hw
        replace HZ := Lib.hid HZ
        replace HW := Lib.hid HW
        replace HV := Lib.hid HV
        clear HD HVV HS
        go_wp2_with (first
          | (go_at_call 72; (with_reducible refine (HZ.out _).mono ?_); rintro e9 w9 ⟨rfl, hb9⟩; (replace hcur := hcur.trans (hb9.mono hcur.size)); clear hb9; obtain ⟨c0, c1, c2, c3, c4, c5, c6, c7⟩ := HC.out _ hcur)
          | (go_at_call 65; (with_reducible refine (HW.out _).mono ?_); rintro e9 w9 ⟨rfl, hb9⟩; (replace hcur := hcur.trans (hb9.mono hcur.size)); clear hb9; obtain ⟨c0, c1, c2, c3, c4, c5, c6, c7⟩ := HC.out _ hcur))
        go_ret
        exact ⟨by rw [HV.out]; rfl, HB.out.trans (hcur.mono HB.out.size)⟩
      | true =>
        rw [hw] at HW
        rw [hw] at HV
        clear hw
        cases hs : sgood n s with
        | false =>
          rw [hs] at HS
          rw [hs] at HV
          clear hs
          replace HZ := Lib.hid HZ
          replace HW := Lib.hid HW
          replace HS := Lib.hid HS
          replace HV := Lib.hid HV
          clear HD HVV
          go_wp2_with (first
            | (go_at_call 72; (with_reducible refine (HZ.out _).mono ?_); rintro e9 w9 ⟨rfl, hb9⟩; (replace hcur := hcur.trans (hb9.mono hcur.size)); clear hb9; obtain ⟨c0, c1, c2, c3, c4, c5, c6, c7⟩ := HC.out _ hcur)
            | (go_at_call 65; (with_reducible refine (HW.out _).mono ?_); rintro e9 w9 ⟨rfl, hb9⟩; (replace hcur := hcur.trans (hb9.mono hcur.size)); clear hb9; obtain ⟨c0, c1, c2, c3, c4, c5, c6, c7⟩ := HC.out _ hcur)
            | (go_at_call 74; (with_reducible refine (HS.out _).mono ?_); rintro e9 w9 ⟨rfl, hb9⟩; (replace hcur := hcur.trans (hb9.mono hcur.size)); clear hb9; obtain ⟨c0, c1, c2, c3, c4, c5, c6, c7⟩ := HC.out _ hcur))
          go_ret
          exact ⟨by rw [HV.out]; rfl, HB.out.trans (hcur.mono HB.out.size)⟩
        | true =>
          rw [hs] at HS
          rw [hs] at HV
          clear hs
          by_cases hn : (0 : Int) < n
          · rw [decide_eq_true hn] at HV
            cases hv : vgood a b with
            | false =>
              rw [hv] at HVV
              rw [hv] at HV
              clear hv
              replace HZ := Lib.hid HZ
              replace HW := Lib.hid HW
              replace HS := Lib.hid HS
              replace HVV := Lib.hid HVV
              replace HV := Lib.hid HV
              clear HD
              go_wp2_with (first
                | (go_at_call 72; (with_reducible refine (HZ.out _).mono ?_); rintro e9 w9 ⟨rfl, hb9⟩; (replace hcur := hcur.trans (hb9.mono hcur.size)); clear hb9; obtain ⟨c0, c1, c2, c3, c4, c5, c6, c7⟩ := HC.out _ hcur)
                | (go_at_call 65; (with_reducible refine (HW.out _).mono ?_); rintro e9 w9 ⟨rfl, hb9⟩; (replace hcur := hcur.trans (hb9.mono hcur.size)); clear hb9; obtain ⟨c0, c1, c2, c3, c4, c5, c6, c7⟩ := HC.out _ hcur)
                | (go_at_call 74; (with_reducible refine (HS.out _).mono ?_); rintro e9 w9 ⟨rfl, hb9⟩; (replace hcur := hcur.trans (hb9.mono hcur.size)); clear hb9; obtain ⟨c0, c1, c2, c3, c4, c5, c6, c7⟩ := HC.out _ hcur)
                | (go_at_call 73; (with_reducible refine (HVV.out _).mono ?_); rintro e9 w9 ⟨rfl, hb9⟩; (replace hcur := hcur.trans (hb9.mono hcur.size)); clear hb9; obtain ⟨c0, c1, c2, c3, c4, c5, c6, c7⟩ := HC.out _ hcur))
              go_ret
              exact ⟨by rw [HV.out]; rfl, HB.out.trans (hcur.mono HB.out.size)⟩
            | true =>
              rw [hv] at HVV
              rw [hv] at HV
              clear hv
              by_cases hl : t.length ≤ 64
              · have hli : (t.length : Int) ≤ 64 := by omega
                rw [decide_eq_true hl] at HV
                cases g with
                | false =>
                  replace HZ := Lib.hid HZ
                  replace HW := Lib.hid HW
                  replace HS := Lib.hid HS
                  replace HVV := Lib.hid HVV
                  replace HV := Lib.hid HV
                  clear HD
                  go_wp2_with (first
                    | (go_at_call 72; (with_reducible refine (HZ.out _).mono ?_); rintro e9 w9 ⟨rfl, hb9⟩; (replace hcur := hcur.trans (hb9.mono hcur.size)); clear hb9; obtain ⟨c0, c1, c2, c3, c4, c5, c6, c7⟩ := HC.out _ hcur)
                    | (go_at_call 65; (with_reducible refine (HW.out _).mono ?_); rintro e9 w9 ⟨rfl, hb9⟩; (replace hcur := hcur.trans (hb9.mono hcur.size)); clear hb9; obtain ⟨c0, c1, c2, c3, c4, c5, c6, c7⟩ := HC.out _ hcur)
                    | (go_at_call 74; (with_reducible refine (HS.out _).mono ?_); rintro e9 w9 ⟨rfl, hb9⟩; (replace hcur := hcur.trans (hb9.mono hcur.size)); clear hb9; obtain ⟨c0, c1, c2, c3, c4, c5, c6, c7⟩ := HC.out _ hcur)
                    | (go_at_call 73; (with_reducible refine (HVV.out _).mono ?_); rintro e9 w9 ⟨rfl, hb9⟩; (replace hcur := hcur.trans (hb9.mono hcur.size)); clear hb9; obtain ⟨c0, c1, c2, c3, c4, c5, c6, c7⟩ := HC.out _ hcur))
                  go_ret
                  exact ⟨by rw [HV.out]; rfl, HB.out.trans (hcur.mono HB.out.size)⟩
                | true =>
                  cases ht : t == [] with
                  | false =>
                    rw [ht] at HV hts
                    clear ht
                    replace HZ := Lib.hid HZ
                    replace HW := Lib.hid HW
                    replace HS := Lib.hid HS
                    replace HVV := Lib.hid HVV
                    replace HV := Lib.hid HV
                    clear HD
                    go_wp2_with (first
                      | (go_at_call 72; (with_reducible refine (HZ.out _).mono ?_); rintro e9 w9 ⟨rfl, hb9⟩; (replace hcur := hcur.trans (hb9.mono hcur.size)); clear hb9; obtain ⟨c0, c1, c2, c3, c4, c5, c6, c7⟩ := HC.out _ hcur)
                      | (go_at_call 65; (with_reducible refine (HW.out _).mono ?_); rintro e9 w9 ⟨rfl, hb9⟩; (replace hcur := hcur.trans (hb9.mono hcur.size)); clear hb9; obtain ⟨c0, c1, c2, c3, c4, c5, c6, c7⟩ := HC.out _ hcur)
                      | (go_at_call 74; (with_reducible refine (HS.out _).mono ?_); rintro e9 w9 ⟨rfl, hb9⟩; (replace hcur := hcur.trans (hb9.mono hcur.size)); clear hb9; obtain ⟨c0, c1, c2, c3, c4, c5, c6, c7⟩ := HC.out _ hcur)
                      | (go_at_call 73; (with_reducible refine (HVV.out _).mono ?_); rintro e9 w9 ⟨rfl, hb9⟩; (replace hcur := hcur.trans (hb9.mono hcur.size)); clear hb9; obtain ⟨c0, c1, c2, c3, c4, c5, c6, c7⟩ := HC.out _ hcur))
                    go_ret
                    exact ⟨by rw [HV.out]; rfl, HB.out.trans (hcur.mono HB.out.size)⟩
                  | true =>
                    rw [ht] at HV hts
                    clear ht
                    replace HZ := Lib.hid HZ
                    replace HW := Lib.hid HW
                    replace HS := Lib.hid HS
                    replace HVV := Lib.hid HVV
                    replace HV := Lib.hid HV
                    clear HD
                    go_wp2_with (first
                      | (go_at_call 72; (with_reducible refine (HZ.out _).mono ?_); rintro e9 w9 ⟨rfl, hb9⟩; (replace hcur := hcur.trans (hb9.mono hcur.size)); clear hb9; obtain ⟨c0, c1, c2, c3, c4, c5, c6, c7⟩ := HC.out _ hcur)
                      | (go_at_call 65; (with_reducible refine (HW.out _).mono ?_); rintro e9 w9 ⟨rfl, hb9⟩; (replace hcur := hcur.trans (hb9.mono hcur.size)); clear hb9; obtain ⟨c0, c1, c2, c3, c4, c5, c6, c7⟩ := HC.out _ hcur)
                      | (go_at_call 74; (with_reducible refine (HS.out _).mono ?_); rintro e9 w9 ⟨rfl, hb9⟩; (replace hcur := hcur.trans (hb9.mono hcur.size)); clear hb9; obtain ⟨c0, c1, c2, c3, c4, c5, c6, c7⟩ := HC.out _ hcur)
                      | (go_at_call 73; (with_reducible refine (HVV.out _).mono ?_); rintro e9 w9 ⟨rfl, hb9⟩; (replace hcur := hcur.trans (hb9.mono hcur.size)); clear hb9; obtain ⟨c0, c1, c2, c3, c4, c5, c6, c7⟩ := HC.out _ hcur))
                    go_ret
                    exact ⟨by rw [HV.out]; rfl, HB.out.trans (hcur.mono HB.out.size)⟩
              · have hli : ¬ (t.length : Int) ≤ 64 := by omega
                rw [decide_eq_false hl] at HV
                replace HZ := Lib.hid HZ
                replace HW := Lib.hid HW
                replace HS := Lib.hid HS
                replace HVV := Lib.hid HVV
                replace HV := Lib.hid HV
                clear HD
                go_wp2_with (first
                  | (go_at_call 72; (with_reducible refine (HZ.out _).mono ?_); rintro e9 w9 ⟨rfl, hb9⟩; (replace hcur := hcur.trans (hb9.mono hcur.size)); clear hb9; obtain ⟨c0, c1, c2, c3, c4, c5, c6, c7⟩ := HC.out _ hcur)
                  | (go_at_call 65; (with_reducible refine (HW.out _).mono ?_); rintro e9 w9 ⟨rfl, hb9⟩; (replace hcur := hcur.trans (hb9.mono hcur.size)); clear hb9; obtain ⟨c0, c1, c2, c3, c4, c5, c6, c7⟩ := HC.out _ hcur)
                  | (go_at_call 74; (with_reducible refine (HS.out _).mono ?_); rintro e9 w9 ⟨rfl, hb9⟩; (replace hcur := hcur.trans (hb9.mono hcur.size)); clear hb9; obtain ⟨c0, c1, c2, c3, c4, c5, c6, c7⟩ := HC.out _ hcur)
                  | (go_at_call 73; (with_reducible refine (HVV.out _).mono ?_); rintro e9 w9 ⟨rfl, hb9⟩; (replace hcur := hcur.trans (hb9.mono hcur.size)); clear hb9; obtain ⟨c0, c1, c2, c3, c4, c5, c6, c7⟩ := HC.out _ hcur))
                go_ret
                exact ⟨by rw [HV.out]; rfl, HB.out.trans (hcur.mono HB.out.size)⟩
          · rw [decide_eq_false hn] at HV
            replace HZ := Lib.hid HZ
            replace HW := Lib.hid HW
            replace HS := Lib.hid HS
            replace HV := Lib.hid HV
            clear HD HVV
            go_wp2_with (first
              | (go_at_call 72; (with_reducible refine (HZ.out _).mono ?_); rintro e9 w9 ⟨rfl, hb9⟩; (replace hcur := hcur.trans (hb9.mono hcur.size)); clear hb9; obtain ⟨c0, c1, c2, c3, c4, c5, c6, c7⟩ := HC.out _ hcur)
              | (go_at_call 65; (with_reducible refine (HW.out _).mono ?_); rintro e9 w9 ⟨rfl, hb9⟩; (replace hcur := hcur.trans (hb9.mono hcur.size)); clear hb9; obtain ⟨c0, c1, c2, c3, c4, c5, c6, c7⟩ := HC.out _ hcur)
              | (go_at_call 74; (with_reducible refine (HS.out _).mono ?_); rintro e9 w9 ⟨rfl, hb9⟩; (replace hcur := hcur.trans (hb9.mono hcur.size)); clear hb9; obtain ⟨c0, c1, c2, c3, c4, c5, c6, c7⟩ := HC.out _ hcur))
            go_ret
            exact ⟨by rw [HV.out]; rfl, HB.out.trans (hcur.mono HB.out.size)⟩
  · have k1 : (p == 1) = false := by simpa using p1
    have k1n : (p != 1) = true := by simpa using p1
    rw [k1] at HV
    by_cases p2 : p = 2
    · subst p2
      clear p1
      cases g with
      | true =>
        replace HV := Lib.hid HV
        clear HZ HD HVV HS HW
        go_wp2
        go_ret
        exact ⟨by rw [HV.out]; rfl, HB.out.trans (hcur.mono HB.out.size)⟩
      | false =>
        cases hd : vgood d e with
        | false =>
          rw [hd] at HD
          rw [hd] at HV
          clear hd
          replace HD := Lib.hid HD
          replace HV := Lib.hid HV
          clear HZ HVV HS HW
          go_wp2_with (first
            | (go_at_call 73; (with_reducible refine (HD.out _).mono ?_); rintro e9 w9 ⟨rfl, hb9⟩; (replace hcur := hcur.trans (hb9.mono hcur.size)); clear hb9; obtain ⟨c0, c1, c2, c3, c4, c5, c6, c7⟩ := HC.out _ hcur))
          go_ret
          exact ⟨by rw [HV.out]; rfl, HB.out.trans (hcur.mono HB.out.size)⟩
        | true =>
          rw [hd] at HD
          rw [hd] at HV
          clear hd
          cases hw : wroteS n s a b false t with
          | false =>
            rw [hw] at HW
            rw [hw] at HV
            clear hw
            replace HD := Lib.hid HD
            replace HW := Lib.hid HW
            replace HV := Lib.hid HV
            clear HZ HVV HS
            go_wp2_with (first
              | (go_at_call 73; (with_reducible refine (HD.out _).mono ?_); rintro e9 w9 ⟨rfl, hb9⟩; (replace hcur := hcur.trans (hb9.mono hcur.size)); clear hb9; obtain ⟨c0, c1, c2, c3, c4, c5, c6, c7⟩ := HC.out _ hcur)
              | (go_at_call 65; (with_reducible refine (HW.out _).mono ?_); rintro e9 w9 ⟨rfl, hb9⟩; (replace hcur := hcur.trans (hb9.mono hcur.size)); clear hb9; obtain ⟨c0, c1, c2, c3, c4, c5, c6, c7⟩ := HC.out _ hcur))
            go_ret
            exact ⟨by rw [HV.out]; rfl, HB.out.trans (hcur.mono HB.out.size)⟩
          | true =>
            rw [hw] at HW
            rw [hw] at HV
            clear hw
            cases hs : sgood n s with
            | false =>
              rw [hs] at HS
              rw [hs] at HV
              clear hs
              replace HD := Lib.hid HD
              replace HW := Lib.hid HW
              replace HS := Lib.hid HS
              replace HV := Lib.hid HV
              clear HZ HVV
              go_wp2_with (first
                | (go_at_call 73; (with_reducible refine (HD.out _).mono ?_); rintro e9 w9 ⟨rfl, hb9⟩; (replace hcur := hcur.trans (hb9.mono hcur.size)); clear hb9; obtain ⟨c0, c1, c2, c3, c4, c5, c6, c7⟩ := HC.out _ hcur)
                | (go_at_call 65; (with_reducible refine (HW.out _).mono ?_); rintro e9 w9 ⟨rfl, hb9⟩; (replace hcur := hcur.trans (hb9.mono hcur.size)); clear hb9; obtain ⟨c0, c1, c2, c3, c4, c5, c6, c7⟩ := HC.out _ hcur)
                | (go_at_call 74; (with_reducible refine (HS.out _).mono ?_); rintro e9 w9 ⟨rfl, hb9⟩; (replace hcur := hcur.trans (hb9.mono hcur.size)); clear hb9; obtain ⟨c0, c1, c2, c3, c4, c5, c6, c7⟩ := HC.out _ hcur))
              go_ret
              exact ⟨by rw [HV.out]; rfl, HB.out.trans (hcur.mono HB.out.size)⟩
            | true =>
              rw [hs] at HS
              rw [hs] at HV
              clear hs
              by_cases hn : (0 : Int) < n
              · rw [decide_eq_true hn] at HV
                cases hv : vgood a b with
                | false =>
                  rw [hv] at HVV
                  rw [hv] at HV
                  clear hv
                  replace HD := Lib.hid HD
                  replace HW := Lib.hid HW
                  replace HS := Lib.hid HS
                  replace HVV := Lib.hid HVV
                  replace HV := Lib.hid HV
                  clear HZ
                  go_wp2_with (first
                    | (go_at_call 73; (with_reducible refine (HD.out _).mono ?_); rintro e9 w9 ⟨rfl, hb9⟩; (replace hcur := hcur.trans (hb9.mono hcur.size)); clear hb9; obtain ⟨c0, c1, c2, c3, c4, c5, c6, c7⟩ := HC.out _ hcur)
                    | (go_at_call 65; (with_reducible refine (HW.out _).mono ?_); rintro e9 w9 ⟨rfl, hb9⟩; (replace hcur := hcur.trans (hb9.mono hcur.size)); clear hb9; obtain ⟨c0, c1, c2, c3, c4, c5, c6, c7⟩ := HC.out _ hcur)
                    | (go_at_call 74; (with_reducible refine (HS.out _).mono ?_); rintro e9 w9 ⟨rfl, hb9⟩; (replace hcur := hcur.trans (hb9.mono hcur.size)); clear hb9; obtain ⟨c0, c1, c2, c3, c4, c5, c6, c7⟩ := HC.out _ hcur)
                    | (go_at_call 73; (with_reducible refine (HVV.out _).mono ?_); rintro e9 w9 ⟨rfl, hb9⟩; (replace hcur := hcur.trans (hb9.mono hcur.size)); clear hb9; obtain ⟨c0, c1, c2, c3, c4, c5, c6, c7⟩ := HC.out _ hcur))
                  go_ret
                  exact ⟨by rw [HV.out]; rfl, HB.out.trans (hcur.mono HB.out.size)⟩
                | true =>
                  rw [hv] at HVV
                  rw [hv] at HV
                  clear hv
                  by_cases hl : t.length ≤ 64
                  · have hli : (t.length : Int) ≤ 64 := by omega
                    rw [decide_eq_true hl] at HV
                    replace HD := Lib.hid HD
                    replace HW := Lib.hid HW
                    replace HS := Lib.hid HS
                    replace HVV := Lib.hid HVV
                    replace HV := Lib.hid HV
                    clear HZ
                    go_wp2_with (first
                      | (go_at_call 73; (with_reducible refine (HD.out _).mono ?_); rintro e9 w9 ⟨rfl, hb9⟩; (replace hcur := hcur.trans (hb9.mono hcur.size)); clear hb9; obtain ⟨c0, c1, c2, c3, c4, c5, c6, c7⟩ := HC.out _ hcur)
                      | (go_at_call 65; (with_reducible refine (HW.out _).mono ?_); rintro e9 w9 ⟨rfl, hb9⟩; (replace hcur := hcur.trans (hb9.mono hcur.size)); clear hb9; obtain ⟨c0, c1, c2, c3, c4, c5, c6, c7⟩ := HC.out _ hcur)
                      | (go_at_call 74; (with_reducible refine (HS.out _).mono ?_); rintro e9 w9 ⟨rfl, hb9⟩; (replace hcur := hcur.trans (hb9.mono hcur.size)); clear hb9; obtain ⟨c0, c1, c2, c3, c4, c5, c6, c7⟩ := HC.out _ hcur)
                      | (go_at_call 73; (with_reducible refine (HVV.out _).mono ?_); rintro e9 w9 ⟨rfl, hb9⟩; (replace hcur := hcur.trans (hb9.mono hcur.size)); clear hb9; obtain ⟨c0, c1, c2, c3, c4, c5, c6, c7⟩ := HC.out _ hcur))
                    go_ret
                    exact ⟨by rw [HV.out]; rfl, HB.out.trans (hcur.mono HB.out.size)⟩
                  · have hli : ¬ (t.length : Int) ≤ 64 := by omega
                    rw [decide_eq_false hl] at HV
                    replace HD := Lib.hid HD
                    replace HW := Lib.hid HW
                    replace HS := Lib.hid HS
                    replace HVV := Lib.hid HVV
                    replace HV := Lib.hid HV
                    clear HZ
                    go_wp2_with (first
                      | (go_at_call 73; (with_reducible refine (HD.out _).mono ?_); rintro e9 w9 ⟨rfl, hb9⟩; (replace hcur := hcur.trans (hb9.mono hcur.size)); clear hb9; obtain ⟨c0, c1, c2, c3, c4, c5, c6, c7⟩ := HC.out _ hcur)
                      | (go_at_call 65; (with_reducible refine (HW.out _).mono ?_); rintro e9 w9 ⟨rfl, hb9⟩; (replace hcur := hcur.trans (hb9.mono hcur.size)); clear hb9; obtain ⟨c0, c1, c2, c3, c4, c5, c6, c7⟩ := HC.out _ hcur)
                      | (go_at_call 74; (with_reducible refine (HS.out _).mono ?_); rintro e9 w9 ⟨rfl, hb9⟩; (replace hcur := hcur.trans (hb9.mono hcur.size)); clear hb9; obtain ⟨c0, c1, c2, c3, c4, c5, c6, c7⟩ := HC.out _ hcur)
                      | (go_at_call 73; (with_reducible refine (HVV.out _).mono ?_); rintro e9 w9 ⟨rfl, hb9⟩; (replace hcur := hcur.trans (hb9.mono hcur.size)); clear hb9; obtain ⟨c0, c1, c2, c3, c4, c5, c6, c7⟩ := HC.out _ hcur))
                    go_ret
                    exact ⟨by rw [HV.out]; rfl, HB.out.trans (hcur.mono HB.out.size)⟩
              · rw [decide_eq_false hn] at HV
                replace HD := Lib.hid HD
                replace HW := Lib.hid HW
                replace HS := Lib.hid HS
                replace HV := Lib.hid HV
                clear HZ HVV
                go_wp2_with (first
                  | (go_at_call 73; (with_reducible refine (HD.out _).mono ?_); rintro e9 w9 ⟨rfl, hb9⟩; (replace hcur := hcur.trans (hb9.mono hcur.size)); clear hb9; obtain ⟨c0, c1, c2, c3, c4, c5, c6, c7⟩ := HC.out _ hcur)
                  | (go_at_call 65; (with_reducible refine (HW.out _).mono ?_); rintro e9 w9 ⟨rfl, hb9⟩; (replace hcur := hcur.trans (hb9.mono hcur.size)); clear hb9; obtain ⟨c0, c1, c2, c3, c4, c5, c6, c7⟩ := HC.out _ hcur)
                  | (go_at_call 74; (with_reducible refine (HS.out _).mono ?_); rintro e9 w9 ⟨rfl, hb9⟩; (replace hcur := hcur.trans (hb9.mono hcur.size)); clear hb9; obtain ⟨c0, c1, c2, c3, c4, c5, c6, c7⟩ := HC.out _ hcur))
                go_ret
                exact ⟨by rw [HV.out]; rfl, HB.out.trans (hcur.mono HB.out.size)⟩
    · have k2 : (p == 2) = false := by simpa using p2
      have k2n : (p != 2) = true := by simpa using p2
      rw [k2] at HV
      clear p1 p2
      replace HV := Lib.hid HV
      clear HZ HD HVV HS HW
      go_wp2
      go_ret
      exact ⟨by rw [HV.out]; rfl, HB.out.trans (hcur.mono HB.out.size)⟩
end Go.Proofs.YtkjpmdpljdgcjaaDoor
