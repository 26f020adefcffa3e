/-
  Join: the walk of JoinMore.
-/
import Derived.Test.YtkjpmdpljdgcjaaYQ
namespace Go.Proofs.Ytkjpmdpljdgcjaa
open Go.RowKit Go Go.Sort
set_option linter.unusedVariables false
set_option maxRecDepth 20000

set_option maxRecDepth 100000 in
set_option maxHeartbeats 12800000 in
theorem jmore_walk (p : Int) (n1 s1 a1 b1 : Int) (g1 : Bool) (t1 : List UInt8) (d1 e1 : Int) (n2 s2 a2 b2 : Int) (g2 : Bool) (t2 : List UInt8) (d2 e2 : Int) (n3 s3 a3 b3 : Int) (g3 : Bool) (t3 : List UInt8) (d3 e3 : Int) (x1 : t1.length ≤ 9223372036854775807) (x2 : t2.length ≤ 9223372036854775807) (x3 : t3.length ≤ 9223372036854775807) (w : World) :
    Calls Try.prog 6 #[.int .i64 p, .agg #[.int .i64 n1, .int .i64 s1, .int .i64 a1, .int .i64 b1, .bool g1, .string (text t1), .int .i64 d1, .int .i64 e1, .int .i64 n2, .int .i64 s2, .int .i64 a2, .int .i64 b2, .bool g2, .string (text t2), .int .i64 d2, .int .i64 e2, .int .i64 n3, .int .i64 s3, .int .i64 a3, .int .i64 b3, .bool g3, .string (text t3), .int .i64 d3, .int .i64 e3]] w (Tells (.bool true) w) := by
  have ht := Tri.new w 39 n1 s1 a1 b1 g1 t1 d1 e1 n2 s2 a2 b2 g2 t2 d2 e2 n3 s3 a3 b3 g3 t3 d3 e3
  have hb := alloc_below w (.cells #[.int .i64 n1, .int .i64 s1, .int .i64 a1, .int .i64 b1, .bool g1, .string (text t1), .int .i64 d1, .int .i64 e1, .int .i64 n2, .int .i64 s2, .int .i64 a2, .int .i64 b2, .bool g2, .string (text t2), .int .i64 d2, .int .i64 e2, .int .i64 n3, .int .i64 s3, .int .i64 a3, .int .i64 b3, .bool g3, .string (text t3), .int .i64 d3, .int .i64 e3] 39)
  have HB := Lib.hid hb
  have HLv := Lib.hid jlives_c
  have hG1 := fun W => cgood_c p n1 s1 a1 b1 g1 t1 d1 e1 x1 W
  have hG2 := fun W => cgood_c p n2 s2 a2 b2 g2 t2 d2 e2 x2 W
  have hG3 := fun W => cgood_c p n3 s3 a3 b3 g3 t3 d3 e3 x3 W
  go_enter Try.func6, Try.ntmps6
  go_upto_region 1 with (fail)
  generalize w.alloc (.cells #[.int .i64 n1, .int .i64 s1, .int .i64 a1, .int .i64 b1, .bool g1, .string (text t1), .int .i64 d1, .int .i64 e1, .int .i64 n2, .int .i64 s2, .int .i64 a2, .int .i64 b2, .bool g2, .string (text t2), .int .i64 d2, .int .i64 e2, .int .i64 n3, .int .i64 s3, .int .i64 a3, .int .i64 b3, .bool g3, .string (text t3), .int .i64 d3, .int .i64 e3] 39) = W1 at *
  have HT3 := Lib.hid (fun W (h : Below W1.heap.size W1 W) => ht.kept h)
  clear ht hb
  refine wp_region_inv [none, none, none, none, none, some 6, some 7, some 8, some 0, some 1, some 2, some 3, some 4, some 5, none, none, none, none, none, none, none, none, none, none, none, none, none, none, none, none, none, none, none, none, none, none, none, none, none, none, none, none, none, none, none, none, none, none, none, none, none, none, none, none, none, none, none, none, none, none, none, none, none, none, none, none, none, none, none, none, none, none, none, none] (fun _ => undef) (Lay3 w.heap.size W1 ⟨n1, s1, a1, b1, g1, t1, d1, e1⟩ ⟨n2, s2, a2, b2, g2, t2, d2, e2⟩ ⟨n3, s3, a3, b3, g3, t3, d3, e3⟩) (by kernel_rfl) (by kernel_rfl) rfl rfl (fun L hL => Lay3.start hL) ?_ ?_
  · simp only [invOps, and_true]
    refine ⟨?_, ?_, ?_, ?_, ?_, ?_, ?_, ?_, ?_, ?_, ?_, ?_⟩
    · intro L xs W hI hL hn
      simp only [flowAct, List.zipWith_cons_cons, List.zipWith_nil_left]
      go_wp2_with (fail)
      exact ⟨rfl, _, rfl, hI.set0⟩
    · intro L xs W hI hL hn
      obtain ⟨⟨p0, p1, p2, p3, p4, p5, p6, p7⟩, ⟨q0, q1, q2, q3, q4, q5, q6, q7⟩, r0, r1, r2, r3, r4, r5, r6, r7⟩ := HT3.out W hI.1
      simp only at p0 p1 p2 p3 p4 p5 p6 p7 q0 q1 q2 q3 q4 q5 q6 q7 r0 r1 r2 r3 r4 r5 r6 r7
      simp [invNeeds, Region.binds] at hn
      have e0 := hI.2.1 hn
      simp only [flowAct, List.zipWith_cons_cons, List.zipWith_nil_left]
      simp only [e0]
      go_wp2_with (fail)
      exact ⟨rfl, _, rfl, hI.set1⟩
    · intro L xs W hI hL hn
      simp only [flowAct, List.zipWith_cons_cons, List.zipWith_nil_left]
      go_wp2_with (fail)
      exact ⟨rfl, _, rfl, hI.set2⟩
    · intro L xs W hI hL hn
      obtain ⟨⟨p0, p1, p2, p3, p4, p5, p6, p7⟩, ⟨q0, q1, q2, q3, q4, q5, q6, q7⟩, r0, r1, r2, r3, r4, r5, r6, r7⟩ := HT3.out W hI.1
      simp only at p0 p1 p2 p3 p4 p5 p6 p7 q0 q1 q2 q3 q4 q5 q6 q7 r0 r1 r2 r3 r4 r5 r6 r7
      simp [invNeeds, Region.binds] at hn
      have e0 := hI.2.2.2.1 hn
      simp only [flowAct, List.zipWith_cons_cons, List.zipWith_nil_left]
      simp only [e0]
      go_wp2_with (fail)
      exact ⟨rfl, _, rfl, hI.set3⟩
    · intro L xs W hI hL hn
      simp only [flowAct, List.zipWith_cons_cons, List.zipWith_nil_left]
      go_wp2_with (fail)
      exact ⟨rfl, _, rfl, hI.set4⟩
    · intro L xs W hI hL hn
      obtain ⟨⟨p0, p1, p2, p3, p4, p5, p6, p7⟩, ⟨q0, q1, q2, q3, q4, q5, q6, q7⟩, r0, r1, r2, r3, r4, r5, r6, r7⟩ := HT3.out W hI.1
      simp only at p0 p1 p2 p3 p4 p5 p6 p7 q0 q1 q2 q3 q4 q5 q6 q7 r0 r1 r2 r3 r4 r5 r6 r7
      simp [invNeeds, Region.binds] at hn
      have e0 := hI.2.2.2.2.2.1 hn
      simp only [flowAct, List.zipWith_cons_cons, List.zipWith_nil_left]
      simp only [e0]
      go_wp2_with (fail)
      exact ⟨rfl, _, rfl, hI.set5⟩
    · intro L xs W hI hL hn
      simp only [flowAct, List.zipWith_cons_cons, List.zipWith_nil_left]
      go_wp2_with (fail)
      exact ⟨rfl, _, rfl, hI.alloc6 (by cases hx : L 9 with | false => rfl | true => exact absurd (hI.2.2.2.2.2.2.2.2.2.2.2.2.2.1 hx) (by rw [hL]; decide))⟩
    · intro L xs W hI hL hn
      simp only [flowAct, List.zipWith_cons_cons, List.zipWith_nil_left]
      go_wp2_with (fail)
      exact ⟨rfl, _, rfl, hI.alloc7 (by cases hx : L 10 with | false => rfl | true => exact absurd (hI.2.2.2.2.2.2.2.2.2.2.2.2.2.2.1 hx) (by rw [hL]; decide))⟩
    · intro L xs W hI hL hn
      simp only [flowAct, List.zipWith_cons_cons, List.zipWith_nil_left]
      go_wp2_with (fail)
      exact ⟨rfl, _, rfl, hI.alloc8 (by cases hx : L 11 with | false => rfl | true => exact absurd (hI.2.2.2.2.2.2.2.2.2.2.2.2.2.2.2 hx) (by rw [hL]; decide))⟩
    · intro L xs W hI hL hn
      simp [invNeeds, Region.binds] at hn
      obtain ⟨hk, hv⟩ : L 6 = true ∧ L 1 = true := by simp_all
      have hh := hI.2.2.2.2.2.2.2.1 hk
      rw [if_neg (by rw [hL]; decide)] at hh
      obtain ⟨g, eg, lg, hg⟩ := hh
      have e0 := hI.2.2.1 hv
      have hg0 : Cel W g 0 0 0 0 false [] 0 0 := hg
      obtain ⟨p0, p1, p2, p3, p4, p5, p6, p7⟩ := hg0.cs
      have pfz := hg0.fz
      simp only [flowAct, List.zipWith_cons_cons, List.zipWith_nil_left]
      simp only [e0, eg, Cl.arr]
      go_wp2_with (fail)
      exact ⟨rfl, undef, rfl, hI.store9 hk eg lg (Wrote.of_put 0 0 0 0 false [] 0 0 (Below.refl _ W) hg0 n1 s1 a1 b1 g1 t1 d1 e1) (Nat.le_of_lt hg0.lt) undef⟩
    · intro L xs W hI hL hn
      simp [invNeeds, Region.binds] at hn
      obtain ⟨hk, hv⟩ : L 7 = true ∧ L 3 = true := by simp_all
      have hh := hI.2.2.2.2.2.2.2.2.1 hk
      rw [if_neg (by rw [hL]; decide)] at hh
      obtain ⟨g, eg, lg, hg⟩ := hh
      have e0 := hI.2.2.2.2.1 hv
      have hg0 : Cel W g 0 0 0 0 false [] 0 0 := hg
      obtain ⟨p0, p1, p2, p3, p4, p5, p6, p7⟩ := hg0.cs
      have pfz := hg0.fz
      simp only [flowAct, List.zipWith_cons_cons, List.zipWith_nil_left]
      simp only [e0, eg, Cl.arr]
      go_wp2_with (fail)
      exact ⟨rfl, undef, rfl, hI.store10 hk eg lg (Wrote.of_put 0 0 0 0 false [] 0 0 (Below.refl _ W) hg0 n2 s2 a2 b2 g2 t2 d2 e2) (Nat.le_of_lt hg0.lt) undef⟩
    · intro L xs W hI hL hn
      simp [invNeeds, Region.binds] at hn
      obtain ⟨hk, hv⟩ : L 8 = true ∧ L 5 = true := by simp_all
      have hh := hI.2.2.2.2.2.2.2.2.2.1 hk
      rw [if_neg (by rw [hL]; decide)] at hh
      obtain ⟨g, eg, lg, hg⟩ := hh
      have e0 := hI.2.2.2.2.2.2.1 hv
      have hg0 : Cel W g 0 0 0 0 false [] 0 0 := hg
      obtain ⟨p0, p1, p2, p3, p4, p5, p6, p7⟩ := hg0.cs
      have pfz := hg0.fz
      simp only [flowAct, List.zipWith_cons_cons, List.zipWith_nil_left]
      simp only [e0, eg, Cl.arr]
      go_wp2_with (fail)
      exact ⟨rfl, undef, rfl, hI.store11 hk eg lg (Wrote.of_put 0 0 0 0 false [] 0 0 (Below.refl _ W) hg0 n3 s3 a3 b3 g3 t3 d3 e3) (Nat.le_of_lt hg0.lt) undef⟩
  · intro L xs W hI hall
    have f := fun i (hi : i < 12) => hall i hi
    obtain ⟨hW, -, -, -, -, -, -, f6, f7, f8, -, -, -, -, -, -⟩ := hI
    obtain ⟨ga, ea, la, PA⟩ := f6 (f 6 (by omega))
    obtain ⟨gb, eb, lb, PB⟩ := f7 (f 7 (by omega))
    obtain ⟨gc, ec, lc, PC⟩ := f8 (f 8 (by omega))
    rw [if_pos (f 9 (by omega))] at PA
    rw [if_pos (f 10 (by omega))] at PB
    rw [if_pos (f 11 (by omega))] at PC
    clear f6 f7 f8 hall f
    simp only [flowAct, List.zipWith_cons_cons, List.zipWith_nil_left]
    simp only [ea, eb, ec]
    have HQA := Lib.hid (show Cel W ga n1 s1 a1 b1 g1 t1 d1 e1 from PA)
    have HQB := Lib.hid (show Cel W gb n2 s2 a2 b2 g2 t2 d2 e2 from PB)
    have HQC := Lib.hid (show Cel W gc n3 s3 a3 b3 g3 t3 d3 e3 from PC)
    have HBQ := Lib.hid (HB.out.trans (hW.mono HB.out.size))
    clear ea eb ec la lb lc PA PB PC hW HT3 HB
    rename_i W2i
    obtain ⟨W2, hW2⟩ : ∃ X, W = X := ⟨_, rfl⟩
    rw [hW2] at HQA HQB HQC HBQ ⊢
    clear hW2
    have HF := Lib.hid (fun X (h : Below W2.heap.size W2 X) => And.intro (HQA.out.kept h).cs (And.intro (HQB.out.kept h).cs (HQC.out.kept h).cs))
    clear HQA HQB HQC
    have hcur := Below.refl W2.heap.size W2
    obtain ⟨⟨c0, c1, c2, c3, c4, c5, c6, c7⟩, ⟨k0, k1, k2, k3, k4, k5, k6, k7⟩, m0, m1, m2, m3, m4, m5, m6, m7⟩ := HF.out _ hcur
    cases y1 : cgoodS p n1 s1 a1 b1 g1 t1 d1 e1 with
    | false =>
      rw [y1] at hG1
      have HG1 := Lib.hid hG1
      clear hG1 hG2 hG3 y1
      go_wp2_with (first
        | (go_at_call 20; (with_reducible refine (HG1.out _).mono ?_); rintro e9 w9 ⟨rfl, hb9⟩; (replace hcur := hcur.trans (hb9.mono hcur.size)); clear hb9; obtain ⟨⟨c0, c1, c2, c3, c4, c5, c6, c7⟩, ⟨k0, k1, k2, k3, k4, k5, k6, k7⟩, m0, m1, m2, m3, m4, m5, m6, m7⟩ := HF.out _ hcur)
        | (go_at_call 10; (with_reducible refine (HLv.out _).mono ?_); rintro e9 w9 ⟨rfl, hb9⟩; (replace hcur := hcur.trans (hb9.mono hcur.size)); clear hb9))
      go_ret
      exact ⟨rfl, HBQ.out.trans (hcur.mono HBQ.out.size)⟩
    | true =>
    rw [y1] at hG1
    cases y2 : cgoodS p n2 s2 a2 b2 g2 t2 d2 e2 with
    | false =>
      rw [y2] at hG2
      have HG1 := Lib.hid hG1
      have HG2 := Lib.hid hG2
      clear hG1 hG2 hG3 y1 y2
      go_wp2_with (first
        | (go_at_call 20; (with_reducible refine (HG1.out _).mono ?_); rintro e9 w9 ⟨rfl, hb9⟩; (replace hcur := hcur.trans (hb9.mono hcur.size)); clear hb9; obtain ⟨⟨c0, c1, c2, c3, c4, c5, c6, c7⟩, ⟨k0, k1, k2, k3, k4, k5, k6, k7⟩, m0, m1, m2, m3, m4, m5, m6, m7⟩ := HF.out _ hcur)
        | (go_at_call 20; (with_reducible refine (HG2.out _).mono ?_); rintro e9 w9 ⟨rfl, hb9⟩; (replace hcur := hcur.trans (hb9.mono hcur.size)); clear hb9; obtain ⟨⟨c0, c1, c2, c3, c4, c5, c6, c7⟩, ⟨k0, k1, k2, k3, k4, k5, k6, k7⟩, m0, m1, m2, m3, m4, m5, m6, m7⟩ := HF.out _ hcur)
        | (go_at_call 10; (with_reducible refine (HLv.out _).mono ?_); rintro e9 w9 ⟨rfl, hb9⟩; (replace hcur := hcur.trans (hb9.mono hcur.size)); clear hb9))
      go_ret
      exact ⟨rfl, HBQ.out.trans (hcur.mono HBQ.out.size)⟩
    | true =>
    rw [y2] at hG2
    cases y3 : cgoodS p n3 s3 a3 b3 g3 t3 d3 e3 with
    | false =>
      rw [y3] at hG3
      have HG1 := Lib.hid hG1
      have HG2 := Lib.hid hG2
      have HG3 := Lib.hid hG3
      clear hG1 hG2 hG3 y1 y2 y3
      go_wp2_with (first
        | (go_at_call 20; (with_reducible refine (HG1.out _).mono ?_); rintro e9 w9 ⟨rfl, hb9⟩; (replace hcur := hcur.trans (hb9.mono hcur.size)); clear hb9; obtain ⟨⟨c0, c1, c2, c3, c4, c5, c6, c7⟩, ⟨k0, k1, k2, k3, k4, k5, k6, k7⟩, m0, m1, m2, m3, m4, m5, m6, m7⟩ := HF.out _ hcur)
        | (go_at_call 20; (with_reducible refine (HG2.out _).mono ?_); rintro e9 w9 ⟨rfl, hb9⟩; (replace hcur := hcur.trans (hb9.mono hcur.size)); clear hb9; obtain ⟨⟨c0, c1, c2, c3, c4, c5, c6, c7⟩, ⟨k0, k1, k2, k3, k4, k5, k6, k7⟩, m0, m1, m2, m3, m4, m5, m6, m7⟩ := HF.out _ hcur)
        | (go_at_call 20; (with_reducible refine (HG3.out _).mono ?_); rintro e9 w9 ⟨rfl, hb9⟩; (replace hcur := hcur.trans (hb9.mono hcur.size)); clear hb9; obtain ⟨⟨c0, c1, c2, c3, c4, c5, c6, c7⟩, ⟨k0, k1, k2, k3, k4, k5, k6, k7⟩, m0, m1, m2, m3, m4, m5, m6, m7⟩ := HF.out _ hcur)
        | (go_at_call 10; (with_reducible refine (HLv.out _).mono ?_); rintro e9 w9 ⟨rfl, hb9⟩; (replace hcur := hcur.trans (hb9.mono hcur.size)); clear hb9))
      go_ret
      exact ⟨rfl, HBQ.out.trans (hcur.mono HBQ.out.size)⟩
    | true =>
    rw [y3] at hG3
    have hAB := fun W => within_c n1 s1 a1 b1 g1 t1 d1 e1 n2 s2 a2 b2 g2 t2 d2 e2 W
    have hBC := fun W => within_c n2 s2 a2 b2 g2 t2 d2 e2 n3 s3 a3 b3 g3 t3 d3 e3 W
    have hAC := fun W => within_c n1 s1 a1 b1 g1 t1 d1 e1 n3 s3 a3 b3 g3 t3 d3 e3 W
    have hBA := fun W => within_c n2 s2 a2 b2 g2 t2 d2 e2 n1 s1 a1 b1 g1 t1 d1 e1 W
    have HG1 := Lib.hid hG1
    have HG2 := Lib.hid hG2
    have HG3 := Lib.hid hG3
    have hceg := cell_eqg
    cases yab : withinS ⟨n1, s1, a1, b1, g1, t1, d1, e1⟩ ⟨n2, s2, a2, b2, g2, t2, d2, e2⟩ with
    | false =>
      rw [yab] at hAB
      have HAB := Lib.hid hAB
      clear hAB hBC hAC hBA hG1 hG2 hG3 y1 y2 y3 yab x1 x2 x3
      go_upto_region 4 with (first
        | (go_at_call 20; (with_reducible refine (HG1.out _).mono ?_); rintro e9 w9 ⟨rfl, hb9⟩; (replace hcur := hcur.trans (hb9.mono hcur.size)); clear hb9; obtain ⟨⟨c0, c1, c2, c3, c4, c5, c6, c7⟩, ⟨k0, k1, k2, k3, k4, k5, k6, k7⟩, m0, m1, m2, m3, m4, m5, m6, m7⟩ := HF.out _ hcur)
        | (go_at_call 20; (with_reducible refine (HG2.out _).mono ?_); rintro e9 w9 ⟨rfl, hb9⟩; (replace hcur := hcur.trans (hb9.mono hcur.size)); clear hb9; obtain ⟨⟨c0, c1, c2, c3, c4, c5, c6, c7⟩, ⟨k0, k1, k2, k3, k4, k5, k6, k7⟩, m0, m1, m2, m3, m4, m5, m6, m7⟩ := HF.out _ hcur)
        | (go_at_call 20; (with_reducible refine (HG3.out _).mono ?_); rintro e9 w9 ⟨rfl, hb9⟩; (replace hcur := hcur.trans (hb9.mono hcur.size)); clear hb9; obtain ⟨⟨c0, c1, c2, c3, c4, c5, c6, c7⟩, ⟨k0, k1, k2, k3, k4, k5, k6, k7⟩, m0, m1, m2, m3, m4, m5, m6, m7⟩ := HF.out _ hcur))
      clear c0 c1 c2 c3 c4 c5 c6 c7 k0 k1 k2 k3 k4 k5 k6 k7 m0 m1 m2 m3 m4 m5 m6 m7
      have HF5 := Lib.hid (fun X h => HF.out X (hcur.trans (Below.mono h hcur.size)))
      have HB5 := Lib.hid (HBQ.out.trans (hcur.mono HBQ.out.size))
      clear hcur HF HBQ
      refine wp_region_flow [none, none, none, none, none, none, none, none, none, none, none, none, none, none, none, none, none, none, none, none, none, none, none, none, none, none, none, none, none, none, none, some 0, some 1, some 2, some 3, some 4, some 5, some 6, some 7, some 8, some 9, some 10, some 11, some 12, some 13, some 14, some 15, some 16, some 17, some 18, some 19, some 20, some 21, some 22, some 23, some 24, none, none, none, none, none, none, none, none, none, none, none, none, none, none, none, none, none, none] (fun i => [undef, undef, undef, undef, undef, undef, undef, undef, undef, undef, undef, undef, undef, undef, undef, undef, undef, undef, undef, undef, undef, undef, undef, undef, undef].getD i undef) [(fun v _ => v = .agg #[.int .i64 n1, .int .i64 s1, .int .i64 a1, .int .i64 b1, .bool g1, .string (text t1), .int .i64 d1, .int .i64 e1]), (fun v _ => v = .agg #[.int .i64 n2, .int .i64 s2, .int .i64 a2, .int .i64 b2, .bool g2, .string (text t2), .int .i64 d2, .int .i64 e2]), (fun v _ => v = .bool false), (fun v _ => v = .bool false), (fun v _ => v = undef), (fun v _ => v = undef), (fun v _ => v = undef), (fun v _ => v = undef), (fun v _ => v = undef), (fun v _ => v = undef), (fun v _ => v = undef), (fun v _ => v = undef), (fun v _ => v = undef), (fun v _ => v = undef), (fun v _ => v = undef), (fun v _ => v = undef), (fun v _ => v = undef), (fun v _ => v = undef), (fun v _ => v = undef), (fun v _ => v = undef), (fun v _ => v = undef), (fun v _ => v = undef), (fun v _ => v = undef), (fun v _ => v = undef), (fun v _ => v = .bool false)] (by kernel_rfl) (by kernel_rfl) rfl rfl rfl ?_ ?_ ?_
      · intro g hg v X Y hX hY hv
        simp only [List.mem_cons, List.not_mem_nil, or_false] at hg
        rcases hg with rfl | rfl | rfl | rfl | rfl | rfl | rfl | rfl | rfl | rfl | rfl | rfl | rfl | rfl | rfl | rfl | rfl | rfl | rfl | rfl | rfl | rfl | rfl | rfl | rfl
        all_goals first
          | exact hv
          | exact hv.kept hY
      · simp only [flowOps, and_true]
        refine ⟨?_, ?_, ?_, ?_, ?_, ?_, ?_, ?_, ?_, ?_, ?_, ?_, ?_, ?_, ?_, ?_, ?_, ?_, ?_, ?_, ?_, ?_, ?_, ?_, ?_⟩
        · intro xs W hW hn
          obtain ⟨⟨c0, c1, c2, c3, c4, c5, c6, c7⟩, ⟨k0, k1, k2, k3, k4, k5, k6, k7⟩, m0, m1, m2, m3, m4, m5, m6, m7⟩ := HF5.out W hW
          simp only [flowAct, List.zipWith_cons_cons, List.zipWith_nil_left]
          go_wp2_with (fail)
          exact ⟨rfl, _, rfl, Below.refl _ _, rfl⟩
        · intro xs W hW hn
          obtain ⟨⟨c0, c1, c2, c3, c4, c5, c6, c7⟩, ⟨k0, k1, k2, k3, k4, k5, k6, k7⟩, m0, m1, m2, m3, m4, m5, m6, m7⟩ := HF5.out W hW
          simp only [flowAct, List.zipWith_cons_cons, List.zipWith_nil_left]
          go_wp2_with (fail)
          exact ⟨rfl, _, rfl, Below.refl _ _, rfl⟩
        · intro xs W hW hn
          simp [flowNeeds, Region.binds] at hn
          simp only [flowAct, List.zipWith_cons_cons, List.zipWith_nil_left]
          simp only [hn]
          go_wp2_with (go_at_call 15; (with_reducible refine (HAB.out _).mono ?_); rintro e9 w9 ⟨rfl, hb9⟩)
          exact ⟨rfl, _, rfl, hb9, rfl⟩
        · intro xs W hW hn
          simp [flowNeeds, Region.binds] at hn
          simp only [flowAct, List.zipWith_cons_cons, List.zipWith_nil_left]
          simp only [hn]
          go_wp2_with (fail)
          exact ⟨rfl, _, rfl, Below.refl _ _, rfl⟩
        · intro xs W hW hn
          simp [flowNeeds, Region.binds] at hn
          simp only [flowAct, List.zipWith_cons_cons, List.zipWith_nil_left]
          simp only [hn]
          go_wp2_with (fail)
          exact ⟨rfl, _, rfl, Below.refl _ _, rfl⟩
        · intro xs W hW hn
          simp [flowNeeds, Region.binds] at hn
          simp only [flowAct, List.zipWith_cons_cons, List.zipWith_nil_left]
          simp only [hn]
          go_wp2_with (fail)
          exact ⟨rfl, _, rfl, Below.refl _ _, rfl⟩
        · intro xs W hW hn
          simp [flowNeeds, Region.binds] at hn
          simp only [flowAct, List.zipWith_cons_cons, List.zipWith_nil_left]
          simp only [hn]
          go_wp2_with (fail)
          exact ⟨rfl, _, rfl, Below.refl _ _, rfl⟩
        · intro xs W hW hn
          simp [flowNeeds, Region.binds] at hn
          simp only [flowAct, List.zipWith_cons_cons, List.zipWith_nil_left]
          simp only [hn]
          go_wp2_with (fail)
          exact ⟨rfl, _, rfl, Below.refl _ _, rfl⟩
        · intro xs W hW hn
          simp [flowNeeds, Region.binds] at hn
          simp only [flowAct, List.zipWith_cons_cons, List.zipWith_nil_left]
          simp only [hn]
          go_wp2_with (fail)
          exact ⟨rfl, _, rfl, Below.refl _ _, rfl⟩
        · intro xs W hW hn
          simp [flowNeeds, Region.binds] at hn
          simp only [flowAct, List.zipWith_cons_cons, List.zipWith_nil_left]
          simp only [hn]
          go_wp2_with (fail)
          exact ⟨rfl, _, rfl, Below.refl _ _, rfl⟩
        · intro xs W hW hn
          simp [flowNeeds, Region.binds] at hn
          simp only [flowAct, List.zipWith_cons_cons, List.zipWith_nil_left]
          simp only [hn]
          go_wp2_with (fail)
          exact ⟨rfl, _, rfl, Below.refl _ _, rfl⟩
        · intro xs W hW hn
          simp [flowNeeds, Region.binds] at hn
          simp only [flowAct, List.zipWith_cons_cons, List.zipWith_nil_left]
          simp only [hn]
          go_wp2_with (fail)
          exact ⟨rfl, _, rfl, Below.refl _ _, rfl⟩
        · intro xs W hW hn
          simp [flowNeeds, Region.binds] at hn
          simp only [flowAct, List.zipWith_cons_cons, List.zipWith_nil_left]
          simp only [hn]
          go_wp2_with (fail)
          exact ⟨rfl, _, rfl, Below.refl _ _, rfl⟩
        · intro xs W hW hn
          simp [flowNeeds, Region.binds] at hn
          simp only [flowAct, List.zipWith_cons_cons, List.zipWith_nil_left]
          simp only [hn]
          go_wp2_with (fail)
          exact ⟨rfl, _, rfl, Below.refl _ _, rfl⟩
        · intro xs W hW hn
          simp [flowNeeds, Region.binds] at hn
          simp only [flowAct, List.zipWith_cons_cons, List.zipWith_nil_left]
          simp only [hn]
          go_wp2_with (fail)
          exact ⟨rfl, _, rfl, Below.refl _ _, rfl⟩
        · intro xs W hW hn
          simp [flowNeeds, Region.binds] at hn
          simp only [flowAct, List.zipWith_cons_cons, List.zipWith_nil_left]
          simp only [hn]
          go_wp2_with (fail)
          exact ⟨rfl, _, rfl, Below.refl _ _, rfl⟩
        · intro xs W hW hn
          simp [flowNeeds, Region.binds] at hn
          simp only [flowAct, List.zipWith_cons_cons, List.zipWith_nil_left]
          simp only [hn]
          go_wp2_with (fail)
          exact ⟨rfl, _, rfl, Below.refl _ _, rfl⟩
        · intro xs W hW hn
          simp [flowNeeds, Region.binds] at hn
          simp only [flowAct, List.zipWith_cons_cons, List.zipWith_nil_left]
          simp only [hn]
          go_wp2_with (fail)
          exact ⟨rfl, _, rfl, Below.refl _ _, rfl⟩
        · intro xs W hW hn
          simp [flowNeeds, Region.binds] at hn
          simp only [flowAct, List.zipWith_cons_cons, List.zipWith_nil_left]
          simp only [hn]
          go_wp2_with (fail)
          exact ⟨rfl, _, rfl, Below.refl _ _, rfl⟩
        · intro xs W hW hn
          simp [flowNeeds, Region.binds] at hn
          simp only [flowAct, List.zipWith_cons_cons, List.zipWith_nil_left]
          simp only [hn]
          go_wp2_with (fail)
          exact ⟨rfl, _, rfl, Below.refl _ _, rfl⟩
        · intro xs W hW hn
          simp [flowNeeds, Region.binds] at hn
          simp only [flowAct, List.zipWith_cons_cons, List.zipWith_nil_left]
          simp only [hn]
          go_wp2_with (fail)
          exact ⟨rfl, _, rfl, Below.refl _ _, rfl⟩
        · intro xs W hW hn
          simp [flowNeeds, Region.binds] at hn
          simp only [flowAct, List.zipWith_cons_cons, List.zipWith_nil_left]
          simp only [hn]
          go_wp2_with (fail)
          exact ⟨rfl, _, rfl, Below.refl _ _, rfl⟩
        · intro xs W hW hn
          simp [flowNeeds, Region.binds] at hn
          simp only [flowAct, List.zipWith_cons_cons, List.zipWith_nil_left]
          simp only [hn]
          go_wp2_with (fail)
          exact ⟨rfl, _, rfl, Below.refl _ _, rfl⟩
        · intro xs W hW hn
          simp [flowNeeds, Region.binds] at hn
          simp only [flowAct, List.zipWith_cons_cons, List.zipWith_nil_left]
          simp only [hn]
          go_wp2_with (fail)
          exact ⟨rfl, _, rfl, Below.refl _ _, rfl⟩
        · intro xs W hW hn
          simp [flowNeeds, Region.binds] at hn
          simp only [flowAct, List.zipWith_cons_cons, List.zipWith_nil_left]
          simp only [hn]
          go_wp2_with (fail)
          exact ⟨rfl, _, rfl, Below.refl _ _, rfl⟩
      · intro xs W hW hall
        simp only [flowAll, and_true, Nat.zero_add, Nat.reduceAdd] at hall
        obtain ⟨-, -, -, -, -, -, -, -, -, -, -, -, -, -, -, -, -, -, -, -, -, -, -, -, y24⟩ := hall
        simp only [flowAct, List.zipWith_cons_cons, List.zipWith_nil_left]
        simp only [y24]
        clear y24
        have hcur := hW
        obtain ⟨⟨c0, c1, c2, c3, c4, c5, c6, c7⟩, ⟨k0, k1, k2, k3, k4, k5, k6, k7⟩, m0, m1, m2, m3, m4, m5, m6, m7⟩ := HF5.out _ hcur
        go_wp2_with (first
          | (go_at_call 15; (with_reducible refine (HAB.out _).mono ?_); rintro e9 w9 ⟨rfl, hb9⟩; (replace hcur := hcur.trans (hb9.mono hcur.size)); clear hb9; obtain ⟨⟨c0, c1, c2, c3, c4, c5, c6, c7⟩, ⟨k0, k1, k2, k3, k4, k5, k6, k7⟩, m0, m1, m2, m3, m4, m5, m6, m7⟩ := HF5.out _ hcur)
          | (go_at_call 10; (with_reducible refine (HLv.out _).mono ?_); rintro e9 w9 ⟨rfl, hb9⟩; (replace hcur := hcur.trans (hb9.mono hcur.size)); clear hb9))
        go_ret
        exact ⟨rfl, HB5.out.trans (hcur.mono HB5.out.size)⟩
    
    | true =>
      have L := more (p := p) (a := ⟨n1, s1, a1, b1, g1, t1, d1, e1⟩) (b := ⟨n2, s2, a2, b2, g2, t2, d2, e2⟩) (c := ⟨n3, s3, a3, b3, g3, t3, d3, e3⟩) y1 y2 y3 yab
      rw [yab] at hAB
      obtain ⟨J, hJ⟩ : ∃ q, joinC [⟨n1, s1, a1, b1, g1, t1, d1, e1⟩, ⟨n3, s3, a3, b3, g3, t3, d3, e3⟩] = q := ⟨_, rfl⟩
      obtain ⟨T, hT⟩ : ∃ q, joinC [⟨n2, s2, a2, b2, g2, t2, d2, e2⟩, ⟨n3, s3, a3, b3, g3, t3, d3, e3⟩] = q := ⟨_, rfl⟩
      rw [hJ, hT] at L
      obtain ⟨lm, leq, ltr⟩ := L
      obtain ⟨n4, s4, a4, b4, g4, t4, d4, e4⟩ := J
      obtain ⟨n5, s5, a5, b5, g5, t5, d5, e5⟩ := T
      have hMM := fun W => within_c n4 s4 a4 b4 g4 t4 d4 e4 n5 s5 a5 b5 g5 t5 d5 e5 W
      rw [lm] at hMM
      have E1 := Lib.hid hJ
      have E2 := Lib.hid hT
      have HAB := Lib.hid hAB
      have HMM := Lib.hid hMM
      obtain ⟨RB, hRB⟩ : ∃ q, withinS ⟨n2, s2, a2, b2, g2, t2, d2, e2⟩ ⟨n1, s1, a1, b1, g1, t1, d1, e1⟩ = q := ⟨_, rfl⟩
      obtain ⟨RC, hRC⟩ : ∃ q, withinS ⟨n2, s2, a2, b2, g2, t2, d2, e2⟩ ⟨n3, s3, a3, b3, g3, t3, d3, e3⟩ = q := ⟨_, rfl⟩
      obtain ⟨RA, hRA⟩ : ∃ q, withinS ⟨n1, s1, a1, b1, g1, t1, d1, e1⟩ ⟨n3, s3, a3, b3, g3, t3, d3, e3⟩ = q := ⟨_, rfl⟩
      rw [hRB] at hBA leq
      rw [hRC] at hBC ltr
      rw [hRA] at hAC ltr
      have HBA := Lib.hid hBA
      have HBC := Lib.hid hBC
      have HAC := Lib.hid hAC
      have HLEQ := Lib.hid leq
      have HLTR := Lib.hid ltr
      clear hAB hBA hBC hAC hG1 hG2 hG3 y1 y2 y3 yab x1 x2 x3 hJ hT lm leq ltr hMM hRB hRC hRA
      go_upto_region 4 with (first
        | (go_at_call 20; (with_reducible refine (HG1.out _).mono ?_); rintro e9 w9 ⟨rfl, hb9⟩; (replace hcur := hcur.trans (hb9.mono hcur.size)); clear hb9; obtain ⟨⟨c0, c1, c2, c3, c4, c5, c6, c7⟩, ⟨k0, k1, k2, k3, k4, k5, k6, k7⟩, m0, m1, m2, m3, m4, m5, m6, m7⟩ := HF.out _ hcur)
        | (go_at_call 20; (with_reducible refine (HG2.out _).mono ?_); rintro e9 w9 ⟨rfl, hb9⟩; (replace hcur := hcur.trans (hb9.mono hcur.size)); clear hb9; obtain ⟨⟨c0, c1, c2, c3, c4, c5, c6, c7⟩, ⟨k0, k1, k2, k3, k4, k5, k6, k7⟩, m0, m1, m2, m3, m4, m5, m6, m7⟩ := HF.out _ hcur)
        | (go_at_call 20; (with_reducible refine (HG3.out _).mono ?_); rintro e9 w9 ⟨rfl, hb9⟩; (replace hcur := hcur.trans (hb9.mono hcur.size)); clear hb9; obtain ⟨⟨c0, c1, c2, c3, c4, c5, c6, c7⟩, ⟨k0, k1, k2, k3, k4, k5, k6, k7⟩, m0, m1, m2, m3, m4, m5, m6, m7⟩ := HF.out _ hcur))
      clear c0 c1 c2 c3 c4 c5 c6 c7 k0 k1 k2 k3 k4 k5 k6 k7 m0 m1 m2 m3 m4 m5 m6 m7
      have HF5 := Lib.hid (fun X h => HF.out X (hcur.trans (Below.mono h hcur.size)))
      have HB5 := Lib.hid (HBQ.out.trans (hcur.mono HBQ.out.size))
      clear hcur HF HBQ
      cases RB with
      | true =>
        have hab := HLEQ.out rfl
        have q1 := cell_neb n1 s1 a1 b1 g1 t1 d1 e1 n2 s2 a2 b2 g2 t2 d2 e2 true (by injection hab; simp_all [cellEq])
        clear hab
        refine wp_region_flow [none, none, none, none, none, none, none, none, none, none, none, none, none, none, none, none, none, none, none, none, none, none, none, none, none, none, none, none, none, none, none, some 0, some 1, some 2, some 3, some 4, some 5, some 6, some 7, some 8, some 9, some 10, some 11, some 12, some 13, some 14, some 15, some 16, some 17, some 18, some 19, some 20, some 21, some 22, some 23, some 24, none, none, none, none, none, none, none, none, none, none, none, none, none, none, none, none, none, none] (fun i => [undef, undef, undef, undef, undef, undef, undef, undef, undef, undef, undef, undef, undef, undef, undef, undef, undef, undef, undef, undef, undef, undef, undef, undef, undef].getD i undef) [(fun v _ => v = .agg #[.int .i64 n1, .int .i64 s1, .int .i64 a1, .int .i64 b1, .bool g1, .string (text t1), .int .i64 d1, .int .i64 e1]), (fun v _ => v = .agg #[.int .i64 n2, .int .i64 s2, .int .i64 a2, .int .i64 b2, .bool g2, .string (text t2), .int .i64 d2, .int .i64 e2]), (fun v _ => v = .bool true), (fun v _ => v = .bool true), (fun v _ => v = .agg #[.int .i64 n1, .int .i64 s1, .int .i64 a1, .int .i64 b1, .bool g1, .string (text t1), .int .i64 d1, .int .i64 e1]), (fun v _ => v = .agg #[.int .i64 n3, .int .i64 s3, .int .i64 a3, .int .i64 b3, .bool g3, .string (text t3), .int .i64 d3, .int .i64 e3]), (ClsV [⟨n1, s1, a1, b1, g1, t1, d1, e1⟩, ⟨n3, s3, a3, b3, g3, t3, d3, e3⟩]), (fun v _ => v = .agg #[.int .i64 n4, .int .i64 s4, .int .i64 a4, .int .i64 b4, .bool g4, .string (text t4), .int .i64 d4, .int .i64 e4]), (fun v _ => v = .agg #[.int .i64 n2, .int .i64 s2, .int .i64 a2, .int .i64 b2, .bool g2, .string (text t2), .int .i64 d2, .int .i64 e2]), (fun v _ => v = .agg #[.int .i64 n3, .int .i64 s3, .int .i64 a3, .int .i64 b3, .bool g3, .string (text t3), .int .i64 d3, .int .i64 e3]), (ClsV [⟨n2, s2, a2, b2, g2, t2, d2, e2⟩, ⟨n3, s3, a3, b3, g3, t3, d3, e3⟩]), (fun v _ => v = .agg #[.int .i64 n5, .int .i64 s5, .int .i64 a5, .int .i64 b5, .bool g5, .string (text t5), .int .i64 d5, .int .i64 e5]), (fun v _ => v = .bool true), (fun v _ => v = .bool false), (fun v _ => v = .bool false), (fun v _ => v = .agg #[.int .i64 n2, .int .i64 s2, .int .i64 a2, .int .i64 b2, .bool g2, .string (text t2), .int .i64 d2, .int .i64 e2]), (fun v _ => v = .agg #[.int .i64 n1, .int .i64 s1, .int .i64 a1, .int .i64 b1, .bool g1, .string (text t1), .int .i64 d1, .int .i64 e1]), (fun v _ => v = .bool true), (fun v _ => v = .bool true), (fun v _ => v = .agg #[.int .i64 n1, .int .i64 s1, .int .i64 a1, .int .i64 b1, .bool g1, .string (text t1), .int .i64 d1, .int .i64 e1]), (fun v _ => v = .agg #[.int .i64 n2, .int .i64 s2, .int .i64 a2, .int .i64 b2, .bool g2, .string (text t2), .int .i64 d2, .int .i64 e2]), (fun v _ => v = .bool false), (fun v _ => v = .bool false), (fun v _ => v = .bool false), (fun v _ => v = .bool false)] (by kernel_rfl) (by kernel_rfl) rfl rfl rfl ?_ ?_ ?_
        · intro g hg v X Y hX hY hv
          simp only [List.mem_cons, List.not_mem_nil, or_false] at hg
          rcases hg with rfl | rfl | rfl | rfl | rfl | rfl | rfl | rfl | rfl | rfl | rfl | rfl | rfl | rfl | rfl | rfl | rfl | rfl | rfl | rfl | rfl | rfl | rfl | rfl | rfl
          all_goals first
            | exact hv
            | exact hv.kept hY
        · simp only [flowOps, and_true]
          refine ⟨?_, ?_, ?_, ?_, ?_, ?_, ?_, ?_, ?_, ?_, ?_, ?_, ?_, ?_, ?_, ?_, ?_, ?_, ?_, ?_, ?_, ?_, ?_, ?_, ?_⟩
          · intro xs W hW hn
            obtain ⟨⟨c0, c1, c2, c3, c4, c5, c6, c7⟩, ⟨k0, k1, k2, k3, k4, k5, k6, k7⟩, m0, m1, m2, m3, m4, m5, m6, m7⟩ := HF5.out W hW
            simp only [flowAct, List.zipWith_cons_cons, List.zipWith_nil_left]
            go_wp2_with (fail)
            exact ⟨rfl, _, rfl, Below.refl _ _, rfl⟩
          · intro xs W hW hn
            obtain ⟨⟨c0, c1, c2, c3, c4, c5, c6, c7⟩, ⟨k0, k1, k2, k3, k4, k5, k6, k7⟩, m0, m1, m2, m3, m4, m5, m6, m7⟩ := HF5.out W hW
            simp only [flowAct, List.zipWith_cons_cons, List.zipWith_nil_left]
            go_wp2_with (fail)
            exact ⟨rfl, _, rfl, Below.refl _ _, rfl⟩
          · intro xs W hW hn
            simp [flowNeeds, Region.binds] at hn
            simp only [flowAct, List.zipWith_cons_cons, List.zipWith_nil_left]
            simp only [hn]
            go_wp2_with (go_at_call 15; (with_reducible refine (HAB.out _).mono ?_); rintro e9 w9 ⟨rfl, hb9⟩)
            exact ⟨rfl, _, rfl, hb9, rfl⟩
          · intro xs W hW hn
            simp [flowNeeds, Region.binds] at hn
            simp only [flowAct, List.zipWith_cons_cons, List.zipWith_nil_left]
            simp only [hn]
            go_wp2_with (fail)
            exact ⟨rfl, _, rfl, Below.refl _ _, rfl⟩
          · intro xs W hW hn
            obtain ⟨⟨c0, c1, c2, c3, c4, c5, c6, c7⟩, ⟨k0, k1, k2, k3, k4, k5, k6, k7⟩, m0, m1, m2, m3, m4, m5, m6, m7⟩ := HF5.out W hW
            simp [flowNeeds, Region.binds] at hn
            simp only [flowAct, List.zipWith_cons_cons, List.zipWith_nil_left]
            simp only [hn]
            go_wp2_with (fail)
            exact ⟨rfl, _, rfl, Below.refl _ _, rfl⟩
          · intro xs W hW hn
            obtain ⟨⟨c0, c1, c2, c3, c4, c5, c6, c7⟩, ⟨k0, k1, k2, k3, k4, k5, k6, k7⟩, m0, m1, m2, m3, m4, m5, m6, m7⟩ := HF5.out W hW
            simp [flowNeeds, Region.binds] at hn
            simp only [flowAct, List.zipWith_cons_cons, List.zipWith_nil_left]
            simp only [hn]
            go_wp2_with (fail)
            exact ⟨rfl, _, rfl, Below.refl _ _, rfl⟩
          · intro xs W hW hn
            simp [flowNeeds, Region.binds] at hn
            simp only [flowAct, List.zipWith_cons_cons, List.zipWith_nil_left]
            simp only [hn]
            go_wp2_with (fail)
            exact ⟨rfl, _, rfl, alloc_below _ _, ⟨_, _, _, rfl, cls2 _ n1 s1 a1 b1 g1 t1 d1 e1 n3 s3 a3 b3 g3 t3 d3 e3⟩⟩
          · intro xs W hW hn
            simp [flowNeeds, Region.binds] at hn
            obtain ⟨⟨a9, n9, k9, hv9, hc9⟩, hgd⟩ := hn
            have HJJ := Lib.hid (join_c hc9)
            rw [E1.out] at HJJ
            clear hc9
            simp only [flowAct, List.zipWith_cons_cons, List.zipWith_nil_left]
            simp only [hv9, hgd]
            go_wp2_with (go_at_call 13; (with_reducible refine HJJ.out.mono ?_); rintro e9 w9 ⟨rfl, hb9⟩)
            exact ⟨rfl, _, rfl, hb9, rfl⟩
          · intro xs W hW hn
            obtain ⟨⟨c0, c1, c2, c3, c4, c5, c6, c7⟩, ⟨k0, k1, k2, k3, k4, k5, k6, k7⟩, m0, m1, m2, m3, m4, m5, m6, m7⟩ := HF5.out W hW
            simp [flowNeeds, Region.binds] at hn
            simp only [flowAct, List.zipWith_cons_cons, List.zipWith_nil_left]
            simp only [hn]
            go_wp2_with (fail)
            exact ⟨rfl, _, rfl, Below.refl _ _, rfl⟩
          · intro xs W hW hn
            obtain ⟨⟨c0, c1, c2, c3, c4, c5, c6, c7⟩, ⟨k0, k1, k2, k3, k4, k5, k6, k7⟩, m0, m1, m2, m3, m4, m5, m6, m7⟩ := HF5.out W hW
            simp [flowNeeds, Region.binds] at hn
            simp only [flowAct, List.zipWith_cons_cons, List.zipWith_nil_left]
            simp only [hn]
            go_wp2_with (fail)
            exact ⟨rfl, _, rfl, Below.refl _ _, rfl⟩
          · intro xs W hW hn
            simp [flowNeeds, Region.binds] at hn
            simp only [flowAct, List.zipWith_cons_cons, List.zipWith_nil_left]
            simp only [hn]
            go_wp2_with (fail)
            exact ⟨rfl, _, rfl, alloc_below _ _, ⟨_, _, _, rfl, cls2 _ n2 s2 a2 b2 g2 t2 d2 e2 n3 s3 a3 b3 g3 t3 d3 e3⟩⟩
          · intro xs W hW hn
            simp [flowNeeds, Region.binds] at hn
            obtain ⟨⟨a9, n9, k9, hv9, hc9⟩, hgd⟩ := hn
            have HJJ := Lib.hid (join_c hc9)
            rw [E2.out] at HJJ
            clear hc9
            simp only [flowAct, List.zipWith_cons_cons, List.zipWith_nil_left]
            simp only [hv9, hgd]
            go_wp2_with (go_at_call 13; (with_reducible refine HJJ.out.mono ?_); rintro e9 w9 ⟨rfl, hb9⟩)
            exact ⟨rfl, _, rfl, hb9, rfl⟩
          · intro xs W hW hn
            simp [flowNeeds, Region.binds] at hn
            simp only [flowAct, List.zipWith_cons_cons, List.zipWith_nil_left]
            simp only [hn]
            go_wp2_with (go_at_call 15; (with_reducible refine (HMM.out _).mono ?_); rintro e9 w9 ⟨rfl, hb9⟩)
            exact ⟨rfl, _, rfl, hb9, rfl⟩
          · intro xs W hW hn
            simp [flowNeeds, Region.binds] at hn
            simp only [flowAct, List.zipWith_cons_cons, List.zipWith_nil_left]
            simp only [hn]
            go_wp2_with (fail)
            exact ⟨rfl, _, rfl, Below.refl _ _, rfl⟩
          · intro xs W hW hn
            simp [flowNeeds, Region.binds] at hn
            simp only [flowAct, List.zipWith_cons_cons, List.zipWith_nil_left]
            simp only [hn]
            go_wp2_with (fail)
            exact ⟨rfl, _, rfl, Below.refl _ _, rfl⟩
          · intro xs W hW hn
            obtain ⟨⟨c0, c1, c2, c3, c4, c5, c6, c7⟩, ⟨k0, k1, k2, k3, k4, k5, k6, k7⟩, m0, m1, m2, m3, m4, m5, m6, m7⟩ := HF5.out W hW
            simp [flowNeeds, Region.binds] at hn
            simp only [flowAct, List.zipWith_cons_cons, List.zipWith_nil_left]
            simp only [hn]
            go_wp2_with (fail)
            exact ⟨rfl, _, rfl, Below.refl _ _, rfl⟩
          · intro xs W hW hn
            obtain ⟨⟨c0, c1, c2, c3, c4, c5, c6, c7⟩, ⟨k0, k1, k2, k3, k4, k5, k6, k7⟩, m0, m1, m2, m3, m4, m5, m6, m7⟩ := HF5.out W hW
            simp [flowNeeds, Region.binds] at hn
            simp only [flowAct, List.zipWith_cons_cons, List.zipWith_nil_left]
            simp only [hn]
            go_wp2_with (fail)
            exact ⟨rfl, _, rfl, Below.refl _ _, rfl⟩
          · intro xs W hW hn
            simp [flowNeeds, Region.binds] at hn
            simp only [flowAct, List.zipWith_cons_cons, List.zipWith_nil_left]
            simp only [hn]
            go_wp2_with (go_at_call 15; (with_reducible refine (HBA.out _).mono ?_); rintro e9 w9 ⟨rfl, hb9⟩)
            exact ⟨rfl, _, rfl, hb9, rfl⟩
          · intro xs W hW hn
            simp [flowNeeds, Region.binds] at hn
            simp only [flowAct, List.zipWith_cons_cons, List.zipWith_nil_left]
            simp only [hn]
            go_wp2_with (fail)
            exact ⟨rfl, _, rfl, Below.refl _ _, rfl⟩
          · intro xs W hW hn
            obtain ⟨⟨c0, c1, c2, c3, c4, c5, c6, c7⟩, ⟨k0, k1, k2, k3, k4, k5, k6, k7⟩, m0, m1, m2, m3, m4, m5, m6, m7⟩ := HF5.out W hW
            simp [flowNeeds, Region.binds] at hn
            simp only [flowAct, List.zipWith_cons_cons, List.zipWith_nil_left]
            simp only [hn]
            go_wp2_with (fail)
            exact ⟨rfl, _, rfl, Below.refl _ _, rfl⟩
          · intro xs W hW hn
            obtain ⟨⟨c0, c1, c2, c3, c4, c5, c6, c7⟩, ⟨k0, k1, k2, k3, k4, k5, k6, k7⟩, m0, m1, m2, m3, m4, m5, m6, m7⟩ := HF5.out W hW
            simp [flowNeeds, Region.binds] at hn
            simp only [flowAct, List.zipWith_cons_cons, List.zipWith_nil_left]
            simp only [hn]
            go_wp2_with (fail)
            exact ⟨rfl, _, rfl, Below.refl _ _, rfl⟩
          · intro xs W hW hn
            simp [flowNeeds, Region.binds] at hn
            simp only [flowAct, List.zipWith_cons_cons, List.zipWith_nil_left]
            simp only [hn]
            go_wp2_with (fail)
            exact ⟨rfl, _, rfl, Below.refl _ _, rfl⟩
          · intro xs W hW hn
            simp [flowNeeds, Region.binds] at hn
            simp only [flowAct, List.zipWith_cons_cons, List.zipWith_nil_left]
            simp only [hn]
            go_wp2_with (fail)
            exact ⟨rfl, _, rfl, Below.refl _ _, rfl⟩
          · intro xs W hW hn
            simp [flowNeeds, Region.binds] at hn
            simp only [flowAct, List.zipWith_cons_cons, List.zipWith_nil_left]
            simp only [hn]
            go_wp2_with (fail)
            exact ⟨rfl, _, rfl, Below.refl _ _, rfl⟩
          · intro xs W hW hn
            simp [flowNeeds, Region.binds] at hn
            simp only [flowAct, List.zipWith_cons_cons, List.zipWith_nil_left]
            simp only [hn]
            go_wp2_with (fail)
            exact ⟨rfl, _, rfl, Below.refl _ _, rfl⟩
        · intro xs W hW hall
          simp only [flowAll, and_true, Nat.zero_add, Nat.reduceAdd] at hall
          obtain ⟨-, -, -, -, -, -, -, -, -, -, -, -, -, -, -, -, -, -, -, -, -, -, -, -, y24⟩ := hall
          simp only [flowAct, List.zipWith_cons_cons, List.zipWith_nil_left]
          simp only [y24]
          clear y24
          have hcur := hW
          obtain ⟨⟨c0, c1, c2, c3, c4, c5, c6, c7⟩, ⟨k0, k1, k2, k3, k4, k5, k6, k7⟩, m0, m1, m2, m3, m4, m5, m6, m7⟩ := HF5.out _ hcur
          cases RC with
          | true =>
            have htr := HLTR.out rfl
            subst htr
            clear q1 hceg
            go_wp2_with (first
              | (go_at_call 15; (with_reducible refine (HAB.out _).mono ?_); rintro e9 w9 ⟨rfl, hb9⟩; (replace hcur := hcur.trans (hb9.mono hcur.size)); clear hb9; obtain ⟨⟨c0, c1, c2, c3, c4, c5, c6, c7⟩, ⟨k0, k1, k2, k3, k4, k5, k6, k7⟩, m0, m1, m2, m3, m4, m5, m6, m7⟩ := HF5.out _ hcur)
              | (go_at_call 15; (with_reducible refine (HBC.out _).mono ?_); rintro e9 w9 ⟨rfl, hb9⟩; (replace hcur := hcur.trans (hb9.mono hcur.size)); clear hb9; obtain ⟨⟨c0, c1, c2, c3, c4, c5, c6, c7⟩, ⟨k0, k1, k2, k3, k4, k5, k6, k7⟩, m0, m1, m2, m3, m4, m5, m6, m7⟩ := HF5.out _ hcur)
              | (go_at_call 15; (with_reducible refine (HAC.out _).mono ?_); rintro e9 w9 ⟨rfl, hb9⟩; (replace hcur := hcur.trans (hb9.mono hcur.size)); clear hb9; obtain ⟨⟨c0, c1, c2, c3, c4, c5, c6, c7⟩, ⟨k0, k1, k2, k3, k4, k5, k6, k7⟩, m0, m1, m2, m3, m4, m5, m6, m7⟩ := HF5.out _ hcur)
              | (go_at_call 10; (with_reducible refine (HLv.out _).mono ?_); rintro e9 w9 ⟨rfl, hb9⟩; (replace hcur := hcur.trans (hb9.mono hcur.size)); clear hb9))
            go_ret
            exact ⟨rfl, HB5.out.trans (hcur.mono HB5.out.size)⟩
          | false =>
            clear q1 hceg
            go_wp2_with (first
              | (go_at_call 15; (with_reducible refine (HAB.out _).mono ?_); rintro e9 w9 ⟨rfl, hb9⟩; (replace hcur := hcur.trans (hb9.mono hcur.size)); clear hb9; obtain ⟨⟨c0, c1, c2, c3, c4, c5, c6, c7⟩, ⟨k0, k1, k2, k3, k4, k5, k6, k7⟩, m0, m1, m2, m3, m4, m5, m6, m7⟩ := HF5.out _ hcur)
              | (go_at_call 15; (with_reducible refine (HBC.out _).mono ?_); rintro e9 w9 ⟨rfl, hb9⟩; (replace hcur := hcur.trans (hb9.mono hcur.size)); clear hb9; obtain ⟨⟨c0, c1, c2, c3, c4, c5, c6, c7⟩, ⟨k0, k1, k2, k3, k4, k5, k6, k7⟩, m0, m1, m2, m3, m4, m5, m6, m7⟩ := HF5.out _ hcur)
              | (go_at_call 10; (with_reducible refine (HLv.out _).mono ?_); rintro e9 w9 ⟨rfl, hb9⟩; (replace hcur := hcur.trans (hb9.mono hcur.size)); clear hb9))
            go_ret
            exact ⟨rfl, HB5.out.trans (hcur.mono HB5.out.size)⟩
    
      | false =>
        refine wp_region_flow [none, none, none, none, none, none, none, none, none, none, none, none, none, none, none, none, none, none, none, none, none, none, none, none, none, none, none, none, none, none, none, some 0, some 1, some 2, some 3, some 4, some 5, some 6, some 7, some 8, some 9, some 10, some 11, some 12, some 13, some 14, some 15, some 16, some 17, some 18, some 19, some 20, some 21, some 22, some 23, some 24, none, none, none, none, none, none, none, none, none, none, none, none, none, none, none, none, none, none] (fun i => [undef, undef, undef, undef, undef, undef, undef, undef, undef, undef, undef, undef, undef, undef, undef, undef, undef, undef, undef, undef, undef, undef, undef, undef, undef].getD i undef) [(fun v _ => v = .agg #[.int .i64 n1, .int .i64 s1, .int .i64 a1, .int .i64 b1, .bool g1, .string (text t1), .int .i64 d1, .int .i64 e1]), (fun v _ => v = .agg #[.int .i64 n2, .int .i64 s2, .int .i64 a2, .int .i64 b2, .bool g2, .string (text t2), .int .i64 d2, .int .i64 e2]), (fun v _ => v = .bool true), (fun v _ => v = .bool true), (fun v _ => v = .agg #[.int .i64 n1, .int .i64 s1, .int .i64 a1, .int .i64 b1, .bool g1, .string (text t1), .int .i64 d1, .int .i64 e1]), (fun v _ => v = .agg #[.int .i64 n3, .int .i64 s3, .int .i64 a3, .int .i64 b3, .bool g3, .string (text t3), .int .i64 d3, .int .i64 e3]), (ClsV [⟨n1, s1, a1, b1, g1, t1, d1, e1⟩, ⟨n3, s3, a3, b3, g3, t3, d3, e3⟩]), (fun v _ => v = .agg #[.int .i64 n4, .int .i64 s4, .int .i64 a4, .int .i64 b4, .bool g4, .string (text t4), .int .i64 d4, .int .i64 e4]), (fun v _ => v = .agg #[.int .i64 n2, .int .i64 s2, .int .i64 a2, .int .i64 b2, .bool g2, .string (text t2), .int .i64 d2, .int .i64 e2]), (fun v _ => v = .agg #[.int .i64 n3, .int .i64 s3, .int .i64 a3, .int .i64 b3, .bool g3, .string (text t3), .int .i64 d3, .int .i64 e3]), (ClsV [⟨n2, s2, a2, b2, g2, t2, d2, e2⟩, ⟨n3, s3, a3, b3, g3, t3, d3, e3⟩]), (fun v _ => v = .agg #[.int .i64 n5, .int .i64 s5, .int .i64 a5, .int .i64 b5, .bool g5, .string (text t5), .int .i64 d5, .int .i64 e5]), (fun v _ => v = .bool true), (fun v _ => v = .bool false), (fun v _ => v = .bool false), (fun v _ => v = .agg #[.int .i64 n2, .int .i64 s2, .int .i64 a2, .int .i64 b2, .bool g2, .string (text t2), .int .i64 d2, .int .i64 e2]), (fun v _ => v = .agg #[.int .i64 n1, .int .i64 s1, .int .i64 a1, .int .i64 b1, .bool g1, .string (text t1), .int .i64 d1, .int .i64 e1]), (fun v _ => v = .bool false), (fun v _ => v = .bool false), (fun v _ => v = undef), (fun v _ => v = undef), (fun v _ => v = undef), (fun v _ => v = .bool false), (fun v _ => v = .bool false), (fun v _ => v = .bool false)] (by kernel_rfl) (by kernel_rfl) rfl rfl rfl ?_ ?_ ?_
        · intro g hg v X Y hX hY hv
          simp only [List.mem_cons, List.not_mem_nil, or_false] at hg
          rcases hg with rfl | rfl | rfl | rfl | rfl | rfl | rfl | rfl | rfl | rfl | rfl | rfl | rfl | rfl | rfl | rfl | rfl | rfl | rfl | rfl | rfl | rfl | rfl | rfl | rfl
          all_goals first
            | exact hv
            | exact hv.kept hY
        · simp only [flowOps, and_true]
          refine ⟨?_, ?_, ?_, ?_, ?_, ?_, ?_, ?_, ?_, ?_, ?_, ?_, ?_, ?_, ?_, ?_, ?_, ?_, ?_, ?_, ?_, ?_, ?_, ?_, ?_⟩
          · intro xs W hW hn
            obtain ⟨⟨c0, c1, c2, c3, c4, c5, c6, c7⟩, ⟨k0, k1, k2, k3, k4, k5, k6, k7⟩, m0, m1, m2, m3, m4, m5, m6, m7⟩ := HF5.out W hW
            simp only [flowAct, List.zipWith_cons_cons, List.zipWith_nil_left]
            go_wp2_with (fail)
            exact ⟨rfl, _, rfl, Below.refl _ _, rfl⟩
          · intro xs W hW hn
            obtain ⟨⟨c0, c1, c2, c3, c4, c5, c6, c7⟩, ⟨k0, k1, k2, k3, k4, k5, k6, k7⟩, m0, m1, m2, m3, m4, m5, m6, m7⟩ := HF5.out W hW
            simp only [flowAct, List.zipWith_cons_cons, List.zipWith_nil_left]
            go_wp2_with (fail)
            exact ⟨rfl, _, rfl, Below.refl _ _, rfl⟩
          · intro xs W hW hn
            simp [flowNeeds, Region.binds] at hn
            simp only [flowAct, List.zipWith_cons_cons, List.zipWith_nil_left]
            simp only [hn]
            go_wp2_with (go_at_call 15; (with_reducible refine (HAB.out _).mono ?_); rintro e9 w9 ⟨rfl, hb9⟩)
            exact ⟨rfl, _, rfl, hb9, rfl⟩
          · intro xs W hW hn
            simp [flowNeeds, Region.binds] at hn
            simp only [flowAct, List.zipWith_cons_cons, List.zipWith_nil_left]
            simp only [hn]
            go_wp2_with (fail)
            exact ⟨rfl, _, rfl, Below.refl _ _, rfl⟩
          · intro xs W hW hn
            obtain ⟨⟨c0, c1, c2, c3, c4, c5, c6, c7⟩, ⟨k0, k1, k2, k3, k4, k5, k6, k7⟩, m0, m1, m2, m3, m4, m5, m6, m7⟩ := HF5.out W hW
            simp [flowNeeds, Region.binds] at hn
            simp only [flowAct, List.zipWith_cons_cons, List.zipWith_nil_left]
            simp only [hn]
            go_wp2_with (fail)
            exact ⟨rfl, _, rfl, Below.refl _ _, rfl⟩
          · intro xs W hW hn
            obtain ⟨⟨c0, c1, c2, c3, c4, c5, c6, c7⟩, ⟨k0, k1, k2, k3, k4, k5, k6, k7⟩, m0, m1, m2, m3, m4, m5, m6, m7⟩ := HF5.out W hW
            simp [flowNeeds, Region.binds] at hn
            simp only [flowAct, List.zipWith_cons_cons, List.zipWith_nil_left]
            simp only [hn]
            go_wp2_with (fail)
            exact ⟨rfl, _, rfl, Below.refl _ _, rfl⟩
          · intro xs W hW hn
            simp [flowNeeds, Region.binds] at hn
            simp only [flowAct, List.zipWith_cons_cons, List.zipWith_nil_left]
            simp only [hn]
            go_wp2_with (fail)
            exact ⟨rfl, _, rfl, alloc_below _ _, ⟨_, _, _, rfl, cls2 _ n1 s1 a1 b1 g1 t1 d1 e1 n3 s3 a3 b3 g3 t3 d3 e3⟩⟩
          · intro xs W hW hn
            simp [flowNeeds, Region.binds] at hn
            obtain ⟨⟨a9, n9, k9, hv9, hc9⟩, hgd⟩ := hn
            have HJJ := Lib.hid (join_c hc9)
            rw [E1.out] at HJJ
            clear hc9
            simp only [flowAct, List.zipWith_cons_cons, List.zipWith_nil_left]
            simp only [hv9, hgd]
            go_wp2_with (go_at_call 13; (with_reducible refine HJJ.out.mono ?_); rintro e9 w9 ⟨rfl, hb9⟩)
            exact ⟨rfl, _, rfl, hb9, rfl⟩
          · intro xs W hW hn
            obtain ⟨⟨c0, c1, c2, c3, c4, c5, c6, c7⟩, ⟨k0, k1, k2, k3, k4, k5, k6, k7⟩, m0, m1, m2, m3, m4, m5, m6, m7⟩ := HF5.out W hW
            simp [flowNeeds, Region.binds] at hn
            simp only [flowAct, List.zipWith_cons_cons, List.zipWith_nil_left]
            simp only [hn]
            go_wp2_with (fail)
            exact ⟨rfl, _, rfl, Below.refl _ _, rfl⟩
          · intro xs W hW hn
            obtain ⟨⟨c0, c1, c2, c3, c4, c5, c6, c7⟩, ⟨k0, k1, k2, k3, k4, k5, k6, k7⟩, m0, m1, m2, m3, m4, m5, m6, m7⟩ := HF5.out W hW
            simp [flowNeeds, Region.binds] at hn
            simp only [flowAct, List.zipWith_cons_cons, List.zipWith_nil_left]
            simp only [hn]
            go_wp2_with (fail)
            exact ⟨rfl, _, rfl, Below.refl _ _, rfl⟩
          · intro xs W hW hn
            simp [flowNeeds, Region.binds] at hn
            simp only [flowAct, List.zipWith_cons_cons, List.zipWith_nil_left]
            simp only [hn]
            go_wp2_with (fail)
            exact ⟨rfl, _, rfl, alloc_below _ _, ⟨_, _, _, rfl, cls2 _ n2 s2 a2 b2 g2 t2 d2 e2 n3 s3 a3 b3 g3 t3 d3 e3⟩⟩
          · intro xs W hW hn
            simp [flowNeeds, Region.binds] at hn
            obtain ⟨⟨a9, n9, k9, hv9, hc9⟩, hgd⟩ := hn
            have HJJ := Lib.hid (join_c hc9)
            rw [E2.out] at HJJ
            clear hc9
            simp only [flowAct, List.zipWith_cons_cons, List.zipWith_nil_left]
            simp only [hv9, hgd]
            go_wp2_with (go_at_call 13; (with_reducible refine HJJ.out.mono ?_); rintro e9 w9 ⟨rfl, hb9⟩)
            exact ⟨rfl, _, rfl, hb9, rfl⟩
          · intro xs W hW hn
            simp [flowNeeds, Region.binds] at hn
            simp only [flowAct, List.zipWith_cons_cons, List.zipWith_nil_left]
            simp only [hn]
            go_wp2_with (go_at_call 15; (with_reducible refine (HMM.out _).mono ?_); rintro e9 w9 ⟨rfl, hb9⟩)
            exact ⟨rfl, _, rfl, hb9, rfl⟩
          · intro xs W hW hn
            simp [flowNeeds, Region.binds] at hn
            simp only [flowAct, List.zipWith_cons_cons, List.zipWith_nil_left]
            simp only [hn]
            go_wp2_with (fail)
            exact ⟨rfl, _, rfl, Below.refl _ _, rfl⟩
          · intro xs W hW hn
            simp [flowNeeds, Region.binds] at hn
            simp only [flowAct, List.zipWith_cons_cons, List.zipWith_nil_left]
            simp only [hn]
            go_wp2_with (fail)
            exact ⟨rfl, _, rfl, Below.refl _ _, rfl⟩
          · intro xs W hW hn
            obtain ⟨⟨c0, c1, c2, c3, c4, c5, c6, c7⟩, ⟨k0, k1, k2, k3, k4, k5, k6, k7⟩, m0, m1, m2, m3, m4, m5, m6, m7⟩ := HF5.out W hW
            simp [flowNeeds, Region.binds] at hn
            simp only [flowAct, List.zipWith_cons_cons, List.zipWith_nil_left]
            simp only [hn]
            go_wp2_with (fail)
            exact ⟨rfl, _, rfl, Below.refl _ _, rfl⟩
          · intro xs W hW hn
            obtain ⟨⟨c0, c1, c2, c3, c4, c5, c6, c7⟩, ⟨k0, k1, k2, k3, k4, k5, k6, k7⟩, m0, m1, m2, m3, m4, m5, m6, m7⟩ := HF5.out W hW
            simp [flowNeeds, Region.binds] at hn
            simp only [flowAct, List.zipWith_cons_cons, List.zipWith_nil_left]
            simp only [hn]
            go_wp2_with (fail)
            exact ⟨rfl, _, rfl, Below.refl _ _, rfl⟩
          · intro xs W hW hn
            simp [flowNeeds, Region.binds] at hn
            simp only [flowAct, List.zipWith_cons_cons, List.zipWith_nil_left]
            simp only [hn]
            go_wp2_with (go_at_call 15; (with_reducible refine (HBA.out _).mono ?_); rintro e9 w9 ⟨rfl, hb9⟩)
            exact ⟨rfl, _, rfl, hb9, rfl⟩
          · intro xs W hW hn
            simp [flowNeeds, Region.binds] at hn
            simp only [flowAct, List.zipWith_cons_cons, List.zipWith_nil_left]
            simp only [hn]
            go_wp2_with (fail)
            exact ⟨rfl, _, rfl, Below.refl _ _, rfl⟩
          · intro xs W hW hn
            simp [flowNeeds, Region.binds] at hn
            simp only [flowAct, List.zipWith_cons_cons, List.zipWith_nil_left]
            simp only [hn]
            go_wp2_with (fail)
            exact ⟨rfl, _, rfl, Below.refl _ _, rfl⟩
          · intro xs W hW hn
            simp [flowNeeds, Region.binds] at hn
            simp only [flowAct, List.zipWith_cons_cons, List.zipWith_nil_left]
            simp only [hn]
            go_wp2_with (fail)
            exact ⟨rfl, _, rfl, Below.refl _ _, rfl⟩
          · intro xs W hW hn
            simp [flowNeeds, Region.binds] at hn
            simp only [flowAct, List.zipWith_cons_cons, List.zipWith_nil_left]
            simp only [hn]
            go_wp2_with (fail)
            exact ⟨rfl, _, rfl, Below.refl _ _, rfl⟩
          · intro xs W hW hn
            simp [flowNeeds, Region.binds] at hn
            simp only [flowAct, List.zipWith_cons_cons, List.zipWith_nil_left]
            simp only [hn]
            go_wp2_with (fail)
            exact ⟨rfl, _, rfl, Below.refl _ _, rfl⟩
          · intro xs W hW hn
            simp [flowNeeds, Region.binds] at hn
            simp only [flowAct, List.zipWith_cons_cons, List.zipWith_nil_left]
            simp only [hn]
            go_wp2_with (fail)
            exact ⟨rfl, _, rfl, Below.refl _ _, rfl⟩
          · intro xs W hW hn
            simp [flowNeeds, Region.binds] at hn
            simp only [flowAct, List.zipWith_cons_cons, List.zipWith_nil_left]
            simp only [hn]
            go_wp2_with (fail)
            exact ⟨rfl, _, rfl, Below.refl _ _, rfl⟩
        · intro xs W hW hall
          simp only [flowAll, and_true, Nat.zero_add, Nat.reduceAdd] at hall
          obtain ⟨-, -, -, -, -, -, -, -, -, -, -, -, -, -, -, -, -, -, -, -, -, -, -, -, y24⟩ := hall
          simp only [flowAct, List.zipWith_cons_cons, List.zipWith_nil_left]
          simp only [y24]
          clear y24
          have hcur := hW
          obtain ⟨⟨c0, c1, c2, c3, c4, c5, c6, c7⟩, ⟨k0, k1, k2, k3, k4, k5, k6, k7⟩, m0, m1, m2, m3, m4, m5, m6, m7⟩ := HF5.out _ hcur
          cases RC with
          | true =>
            have htr := HLTR.out rfl
            subst htr
            clear hceg
            go_wp2_with (first
              | (go_at_call 15; (with_reducible refine (HAB.out _).mono ?_); rintro e9 w9 ⟨rfl, hb9⟩; (replace hcur := hcur.trans (hb9.mono hcur.size)); clear hb9; obtain ⟨⟨c0, c1, c2, c3, c4, c5, c6, c7⟩, ⟨k0, k1, k2, k3, k4, k5, k6, k7⟩, m0, m1, m2, m3, m4, m5, m6, m7⟩ := HF5.out _ hcur)
              | (go_at_call 15; (with_reducible refine (HBC.out _).mono ?_); rintro e9 w9 ⟨rfl, hb9⟩; (replace hcur := hcur.trans (hb9.mono hcur.size)); clear hb9; obtain ⟨⟨c0, c1, c2, c3, c4, c5, c6, c7⟩, ⟨k0, k1, k2, k3, k4, k5, k6, k7⟩, m0, m1, m2, m3, m4, m5, m6, m7⟩ := HF5.out _ hcur)
              | (go_at_call 15; (with_reducible refine (HAC.out _).mono ?_); rintro e9 w9 ⟨rfl, hb9⟩; (replace hcur := hcur.trans (hb9.mono hcur.size)); clear hb9; obtain ⟨⟨c0, c1, c2, c3, c4, c5, c6, c7⟩, ⟨k0, k1, k2, k3, k4, k5, k6, k7⟩, m0, m1, m2, m3, m4, m5, m6, m7⟩ := HF5.out _ hcur)
              | (go_at_call 10; (with_reducible refine (HLv.out _).mono ?_); rintro e9 w9 ⟨rfl, hb9⟩; (replace hcur := hcur.trans (hb9.mono hcur.size)); clear hb9))
            go_ret
            exact ⟨rfl, HB5.out.trans (hcur.mono HB5.out.size)⟩
          | false =>
            clear hceg
            go_wp2_with (first
              | (go_at_call 15; (with_reducible refine (HAB.out _).mono ?_); rintro e9 w9 ⟨rfl, hb9⟩; (replace hcur := hcur.trans (hb9.mono hcur.size)); clear hb9; obtain ⟨⟨c0, c1, c2, c3, c4, c5, c6, c7⟩, ⟨k0, k1, k2, k3, k4, k5, k6, k7⟩, m0, m1, m2, m3, m4, m5, m6, m7⟩ := HF5.out _ hcur)
              | (go_at_call 15; (with_reducible refine (HBC.out _).mono ?_); rintro e9 w9 ⟨rfl, hb9⟩; (replace hcur := hcur.trans (hb9.mono hcur.size)); clear hb9; obtain ⟨⟨c0, c1, c2, c3, c4, c5, c6, c7⟩, ⟨k0, k1, k2, k3, k4, k5, k6, k7⟩, m0, m1, m2, m3, m4, m5, m6, m7⟩ := HF5.out _ hcur)
              | (go_at_call 10; (with_reducible refine (HLv.out _).mono ?_); rintro e9 w9 ⟨rfl, hb9⟩; (replace hcur := hcur.trans (hb9.mono hcur.size)); clear hb9))
            go_ret
            exact ⟨rfl, HB5.out.trans (hcur.mono HB5.out.size)⟩
    
end Go.Proofs.Ytkjpmdpljdgcjaa
