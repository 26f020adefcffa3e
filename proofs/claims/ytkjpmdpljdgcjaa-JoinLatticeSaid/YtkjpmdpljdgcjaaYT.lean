/-
  Join: the walk of JoinLattice.
-/
import Derived.Test.YtkjpmdpljdgcjaaYQ
import Derived.Test.YtkjpmdpljdgcjaaYK
namespace Go.Proofs.Ytkjpmdpljdgcjaa
open Go.RowKit Go Go.Sort
set_option linter.unusedVariables false
set_option maxRecDepth 20000

set_option maxRecDepth 100000 in
set_option maxHeartbeats 12800000 in
theorem jlattice_walk (p : Int) (n1 s1 a1 b1 : Int) (g1 : Bool) (t1 : List UInt8) (d1 e1 : Int) (n2 s2 a2 b2 : Int) (g2 : Bool) (t2 : List UInt8) (d2 e2 : Int) (n3 s3 a3 b3 : Int) (g3 : Bool) (t3 : List UInt8) (d3 e3 : Int) (x1 : t1.length ≤ 9223372036854775807) (x2 : t2.length ≤ 9223372036854775807) (x3 : t3.length ≤ 9223372036854775807) (w : World) :
    Calls Try.prog 5 #[.int .i64 p, .agg #[.int .i64 n1, .int .i64 s1, .int .i64 a1, .int .i64 b1, .bool g1, .string (text t1), .int .i64 d1, .int .i64 e1, .int .i64 n2, .int .i64 s2, .int .i64 a2, .int .i64 b2, .bool g2, .string (text t2), .int .i64 d2, .int .i64 e2, .int .i64 n3, .int .i64 s3, .int .i64 a3, .int .i64 b3, .bool g3, .string (text t3), .int .i64 d3, .int .i64 e3]] w (Tells (.bool true) w) := by
  have ht := Tri.new w 39 n1 s1 a1 b1 g1 t1 d1 e1 n2 s2 a2 b2 g2 t2 d2 e2 n3 s3 a3 b3 g3 t3 d3 e3
  have hb := alloc_below w (.cells #[.int .i64 n1, .int .i64 s1, .int .i64 a1, .int .i64 b1, .bool g1, .string (text t1), .int .i64 d1, .int .i64 e1, .int .i64 n2, .int .i64 s2, .int .i64 a2, .int .i64 b2, .bool g2, .string (text t2), .int .i64 d2, .int .i64 e2, .int .i64 n3, .int .i64 s3, .int .i64 a3, .int .i64 b3, .bool g3, .string (text t3), .int .i64 d3, .int .i64 e3] 39)
  have HB := Lib.hid hb
  have HLv := Lib.hid jlives_c
  have hG1 := fun W => cgood_c p n1 s1 a1 b1 g1 t1 d1 e1 x1 W
  have hG2 := fun W => cgood_c p n2 s2 a2 b2 g2 t2 d2 e2 x2 W
  have hG3 := fun W => cgood_c p n3 s3 a3 b3 g3 t3 d3 e3 x3 W
  go_enter Try.func5, Try.ntmps5
  go_upto_region 1 with (fail)
  generalize w.alloc (.cells #[.int .i64 n1, .int .i64 s1, .int .i64 a1, .int .i64 b1, .bool g1, .string (text t1), .int .i64 d1, .int .i64 e1, .int .i64 n2, .int .i64 s2, .int .i64 a2, .int .i64 b2, .bool g2, .string (text t2), .int .i64 d2, .int .i64 e2, .int .i64 n3, .int .i64 s3, .int .i64 a3, .int .i64 b3, .bool g3, .string (text t3), .int .i64 d3, .int .i64 e3] 39) = W1 at *
  have HT3 := Lib.hid (fun W (h : Below W1.heap.size W1 W) => ht.kept h)
  clear ht hb
  refine wp_region_inv [none, none, none, none, none, some 6, some 7, some 8, none, some 0, some 1, some 2, some 3, some 4, some 5, none, none, none, none, none, none, none, none, none, none, none, none, none, none, none, none, none, none, none, none, none, none, none, none, none, none, none, none, none, none, none, none, none, none, none, none, none, none, none, none, none, none, none, none, none, none, none, none, none, none, none, none, none, none, none, none, none, none, none, none, none, none, none, none, none, none, none, none, none, none, none, none, none, none, none, none, none, none, none, none, none, none, none, none, none, none, none, none, none, none, none, none, none, none, none] (fun _ => undef) (Lay3 w.heap.size W1 ⟨n1, s1, a1, b1, g1, t1, d1, e1⟩ ⟨n2, s2, a2, b2, g2, t2, d2, e2⟩ ⟨n3, s3, a3, b3, g3, t3, d3, e3⟩) (by kernel_rfl) (by kernel_rfl) rfl rfl (fun L hL => Lay3.start hL) ?_ ?_
  · simp only [invOps, and_true]
    refine ⟨?_, ?_, ?_, ?_, ?_, ?_, ?_, ?_, ?_, ?_, ?_, ?_⟩
    · intro L xs W hI hL hn
      simp only [flowAct, List.zipWith_cons_cons, List.zipWith_nil_left]
      go_wp2_with (fail)
      exact ⟨rfl, _, rfl, hI.set0⟩
    · intro L xs W hI hL hn
      obtain ⟨⟨p0, p1, p2, p3, p4, p5, p6, p7⟩, ⟨q0, q1, q2, q3, q4, q5, q6, q7⟩, r0, r1, r2, r3, r4, r5, r6, r7⟩ := HT3.out W hI.1
      simp only at p0 p1 p2 p3 p4 p5 p6 p7 q0 q1 q2 q3 q4 q5 q6 q7 r0 r1 r2 r3 r4 r5 r6 r7
      simp [invNeeds, Region.binds] at hn
      have e0 := hI.2.1 hn
      simp only [flowAct, List.zipWith_cons_cons, List.zipWith_nil_left]
      simp only [e0]
      go_wp2_with (fail)
      exact ⟨rfl, _, rfl, hI.set1⟩
    · intro L xs W hI hL hn
      simp only [flowAct, List.zipWith_cons_cons, List.zipWith_nil_left]
      go_wp2_with (fail)
      exact ⟨rfl, _, rfl, hI.set2⟩
    · intro L xs W hI hL hn
      obtain ⟨⟨p0, p1, p2, p3, p4, p5, p6, p7⟩, ⟨q0, q1, q2, q3, q4, q5, q6, q7⟩, r0, r1, r2, r3, r4, r5, r6, r7⟩ := HT3.out W hI.1
      simp only at p0 p1 p2 p3 p4 p5 p6 p7 q0 q1 q2 q3 q4 q5 q6 q7 r0 r1 r2 r3 r4 r5 r6 r7
      simp [invNeeds, Region.binds] at hn
      have e0 := hI.2.2.2.1 hn
      simp only [flowAct, List.zipWith_cons_cons, List.zipWith_nil_left]
      simp only [e0]
      go_wp2_with (fail)
      exact ⟨rfl, _, rfl, hI.set3⟩
    · intro L xs W hI hL hn
      simp only [flowAct, List.zipWith_cons_cons, List.zipWith_nil_left]
      go_wp2_with (fail)
      exact ⟨rfl, _, rfl, hI.set4⟩
    · intro L xs W hI hL hn
      obtain ⟨⟨p0, p1, p2, p3, p4, p5, p6, p7⟩, ⟨q0, q1, q2, q3, q4, q5, q6, q7⟩, r0, r1, r2, r3, r4, r5, r6, r7⟩ := HT3.out W hI.1
      simp only at p0 p1 p2 p3 p4 p5 p6 p7 q0 q1 q2 q3 q4 q5 q6 q7 r0 r1 r2 r3 r4 r5 r6 r7
      simp [invNeeds, Region.binds] at hn
      have e0 := hI.2.2.2.2.2.1 hn
      simp only [flowAct, List.zipWith_cons_cons, List.zipWith_nil_left]
      simp only [e0]
      go_wp2_with (fail)
      exact ⟨rfl, _, rfl, hI.set5⟩
    · intro L xs W hI hL hn
      simp only [flowAct, List.zipWith_cons_cons, List.zipWith_nil_left]
      go_wp2_with (fail)
      exact ⟨rfl, _, rfl, hI.alloc6 (by cases hx : L 9 with | false => rfl | true => exact absurd (hI.2.2.2.2.2.2.2.2.2.2.2.2.2.1 hx) (by rw [hL]; decide))⟩
    · intro L xs W hI hL hn
      simp only [flowAct, List.zipWith_cons_cons, List.zipWith_nil_left]
      go_wp2_with (fail)
      exact ⟨rfl, _, rfl, hI.alloc7 (by cases hx : L 10 with | false => rfl | true => exact absurd (hI.2.2.2.2.2.2.2.2.2.2.2.2.2.2.1 hx) (by rw [hL]; decide))⟩
    · intro L xs W hI hL hn
      simp only [flowAct, List.zipWith_cons_cons, List.zipWith_nil_left]
      go_wp2_with (fail)
      exact ⟨rfl, _, rfl, hI.alloc8 (by cases hx : L 11 with | false => rfl | true => exact absurd (hI.2.2.2.2.2.2.2.2.2.2.2.2.2.2.2 hx) (by rw [hL]; decide))⟩
    · intro L xs W hI hL hn
      simp [invNeeds, Region.binds] at hn
      obtain ⟨hk, hv⟩ : L 6 = true ∧ L 1 = true := by simp_all
      have hh := hI.2.2.2.2.2.2.2.1 hk
      rw [if_neg (by rw [hL]; decide)] at hh
      obtain ⟨g, eg, lg, hg⟩ := hh
      have e0 := hI.2.2.1 hv
      have hg0 : Cel W g 0 0 0 0 false [] 0 0 := hg
      obtain ⟨p0, p1, p2, p3, p4, p5, p6, p7⟩ := hg0.cs
      have pfz := hg0.fz
      simp only [flowAct, List.zipWith_cons_cons, List.zipWith_nil_left]
      simp only [e0, eg, Cl.arr]
      go_wp2_with (fail)
      exact ⟨rfl, undef, rfl, hI.store9 hk eg lg (Wrote.of_put 0 0 0 0 false [] 0 0 (Below.refl _ W) hg0 n1 s1 a1 b1 g1 t1 d1 e1) (Nat.le_of_lt hg0.lt) undef⟩
    · intro L xs W hI hL hn
      simp [invNeeds, Region.binds] at hn
      obtain ⟨hk, hv⟩ : L 7 = true ∧ L 3 = true := by simp_all
      have hh := hI.2.2.2.2.2.2.2.2.1 hk
      rw [if_neg (by rw [hL]; decide)] at hh
      obtain ⟨g, eg, lg, hg⟩ := hh
      have e0 := hI.2.2.2.2.1 hv
      have hg0 : Cel W g 0 0 0 0 false [] 0 0 := hg
      obtain ⟨p0, p1, p2, p3, p4, p5, p6, p7⟩ := hg0.cs
      have pfz := hg0.fz
      simp only [flowAct, List.zipWith_cons_cons, List.zipWith_nil_left]
      simp only [e0, eg, Cl.arr]
      go_wp2_with (fail)
      exact ⟨rfl, undef, rfl, hI.store10 hk eg lg (Wrote.of_put 0 0 0 0 false [] 0 0 (Below.refl _ W) hg0 n2 s2 a2 b2 g2 t2 d2 e2) (Nat.le_of_lt hg0.lt) undef⟩
    · intro L xs W hI hL hn
      simp [invNeeds, Region.binds] at hn
      obtain ⟨hk, hv⟩ : L 8 = true ∧ L 5 = true := by simp_all
      have hh := hI.2.2.2.2.2.2.2.2.2.1 hk
      rw [if_neg (by rw [hL]; decide)] at hh
      obtain ⟨g, eg, lg, hg⟩ := hh
      have e0 := hI.2.2.2.2.2.2.1 hv
      have hg0 : Cel W g 0 0 0 0 false [] 0 0 := hg
      obtain ⟨p0, p1, p2, p3, p4, p5, p6, p7⟩ := hg0.cs
      have pfz := hg0.fz
      simp only [flowAct, List.zipWith_cons_cons, List.zipWith_nil_left]
      simp only [e0, eg, Cl.arr]
      go_wp2_with (fail)
      exact ⟨rfl, undef, rfl, hI.store11 hk eg lg (Wrote.of_put 0 0 0 0 false [] 0 0 (Below.refl _ W) hg0 n3 s3 a3 b3 g3 t3 d3 e3) (Nat.le_of_lt hg0.lt) undef⟩
  · intro L xs W hI hall
    have f := fun i (hi : i < 12) => hall i hi
    obtain ⟨hW, -, -, -, -, -, -, f6, f7, f8, -, -, -, -, -, -⟩ := hI
    obtain ⟨ga, ea, la, PA⟩ := f6 (f 6 (by omega))
    obtain ⟨gb, eb, lb, PB⟩ := f7 (f 7 (by omega))
    obtain ⟨gc, ec, lc, PC⟩ := f8 (f 8 (by omega))
    rw [if_pos (f 9 (by omega))] at PA
    rw [if_pos (f 10 (by omega))] at PB
    rw [if_pos (f 11 (by omega))] at PC
    clear f6 f7 f8 hall f
    simp only [flowAct, List.zipWith_cons_cons, List.zipWith_nil_left]
    simp only [ea, eb, ec]
    have HQA := Lib.hid (show Cel W ga n1 s1 a1 b1 g1 t1 d1 e1 from PA)
    have HQB := Lib.hid (show Cel W gb n2 s2 a2 b2 g2 t2 d2 e2 from PB)
    have HQC := Lib.hid (show Cel W gc n3 s3 a3 b3 g3 t3 d3 e3 from PC)
    have HBQ := Lib.hid (HB.out.trans (hW.mono HB.out.size))
    clear ea eb ec la lb lc PA PB PC hW HT3 HB
    rename_i W2i
    obtain ⟨W2, hW2⟩ : ∃ X, W = X := ⟨_, rfl⟩
    rw [hW2] at HQA HQB HQC HBQ ⊢
    clear hW2
    have HF := Lib.hid (fun X (h : Below W2.heap.size W2 X) => And.intro (HQA.out.kept h).cs (And.intro (HQB.out.kept h).cs (HQC.out.kept h).cs))
    clear HQA HQB HQC
    have hcur := Below.refl W2.heap.size W2
    obtain ⟨⟨c0, c1, c2, c3, c4, c5, c6, c7⟩, ⟨k0, k1, k2, k3, k4, k5, k6, k7⟩, m0, m1, m2, m3, m4, m5, m6, m7⟩ := HF.out _ hcur
    cases y1 : cgoodS p n1 s1 a1 b1 g1 t1 d1 e1 with
    | false =>
      rw [y1] at hG1
      have HG1 := Lib.hid hG1
      clear hG1 hG2 hG3 y1
      go_wp2_with (first
        | (go_at_call 20; (with_reducible refine (HG1.out _).mono ?_); rintro e9 w9 ⟨rfl, hb9⟩; (replace hcur := hcur.trans (hb9.mono hcur.size)); clear hb9; obtain ⟨⟨c0, c1, c2, c3, c4, c5, c6, c7⟩, ⟨k0, k1, k2, k3, k4, k5, k6, k7⟩, m0, m1, m2, m3, m4, m5, m6, m7⟩ := HF.out _ hcur)
        | (go_at_call 10; (with_reducible refine (HLv.out _).mono ?_); rintro e9 w9 ⟨rfl, hb9⟩; (replace hcur := hcur.trans (hb9.mono hcur.size)); clear hb9))
      go_ret
      exact ⟨rfl, HBQ.out.trans (hcur.mono HBQ.out.size)⟩
    | true =>
    rw [y1] at hG1
    cases y2 : cgoodS p n2 s2 a2 b2 g2 t2 d2 e2 with
    | false =>
      rw [y2] at hG2
      have HG1 := Lib.hid hG1
      have HG2 := Lib.hid hG2
      clear hG1 hG2 hG3 y1 y2
      go_wp2_with (first
        | (go_at_call 20; (with_reducible refine (HG1.out _).mono ?_); rintro e9 w9 ⟨rfl, hb9⟩; (replace hcur := hcur.trans (hb9.mono hcur.size)); clear hb9; obtain ⟨⟨c0, c1, c2, c3, c4, c5, c6, c7⟩, ⟨k0, k1, k2, k3, k4, k5, k6, k7⟩, m0, m1, m2, m3, m4, m5, m6, m7⟩ := HF.out _ hcur)
        | (go_at_call 20; (with_reducible refine (HG2.out _).mono ?_); rintro e9 w9 ⟨rfl, hb9⟩; (replace hcur := hcur.trans (hb9.mono hcur.size)); clear hb9; obtain ⟨⟨c0, c1, c2, c3, c4, c5, c6, c7⟩, ⟨k0, k1, k2, k3, k4, k5, k6, k7⟩, m0, m1, m2, m3, m4, m5, m6, m7⟩ := HF.out _ hcur)
        | (go_at_call 10; (with_reducible refine (HLv.out _).mono ?_); rintro e9 w9 ⟨rfl, hb9⟩; (replace hcur := hcur.trans (hb9.mono hcur.size)); clear hb9))
      go_ret
      exact ⟨rfl, HBQ.out.trans (hcur.mono HBQ.out.size)⟩
    | true =>
    rw [y2] at hG2
    cases y3 : cgoodS p n3 s3 a3 b3 g3 t3 d3 e3 with
    | false =>
      rw [y3] at hG3
      have HG1 := Lib.hid hG1
      have HG2 := Lib.hid hG2
      have HG3 := Lib.hid hG3
      clear hG1 hG2 hG3 y1 y2 y3
      go_wp2_with (first
        | (go_at_call 20; (with_reducible refine (HG1.out _).mono ?_); rintro e9 w9 ⟨rfl, hb9⟩; (replace hcur := hcur.trans (hb9.mono hcur.size)); clear hb9; obtain ⟨⟨c0, c1, c2, c3, c4, c5, c6, c7⟩, ⟨k0, k1, k2, k3, k4, k5, k6, k7⟩, m0, m1, m2, m3, m4, m5, m6, m7⟩ := HF.out _ hcur)
        | (go_at_call 20; (with_reducible refine (HG2.out _).mono ?_); rintro e9 w9 ⟨rfl, hb9⟩; (replace hcur := hcur.trans (hb9.mono hcur.size)); clear hb9; obtain ⟨⟨c0, c1, c2, c3, c4, c5, c6, c7⟩, ⟨k0, k1, k2, k3, k4, k5, k6, k7⟩, m0, m1, m2, m3, m4, m5, m6, m7⟩ := HF.out _ hcur)
        | (go_at_call 20; (with_reducible refine (HG3.out _).mono ?_); rintro e9 w9 ⟨rfl, hb9⟩; (replace hcur := hcur.trans (hb9.mono hcur.size)); clear hb9; obtain ⟨⟨c0, c1, c2, c3, c4, c5, c6, c7⟩, ⟨k0, k1, k2, k3, k4, k5, k6, k7⟩, m0, m1, m2, m3, m4, m5, m6, m7⟩ := HF.out _ hcur)
        | (go_at_call 10; (with_reducible refine (HLv.out _).mono ?_); rintro e9 w9 ⟨rfl, hb9⟩; (replace hcur := hcur.trans (hb9.mono hcur.size)); clear hb9))
      go_ret
      exact ⟨rfl, HBQ.out.trans (hcur.mono HBQ.out.size)⟩
    | true =>
    rw [y3] at hG3
    have L := lattice (p := p) (a := ⟨n1, s1, a1, b1, g1, t1, d1, e1⟩) (b := ⟨n2, s2, a2, b2, g2, t2, d2, e2⟩) (c := ⟨n3, s3, a3, b3, g3, t3, d3, e3⟩) y1 y2 y3
    have hgz := y1
    obtain ⟨J, hJ⟩ : ∃ q, joinC [⟨n1, s1, a1, b1, g1, t1, d1, e1⟩, ⟨n2, s2, a2, b2, g2, t2, d2, e2⟩] = q := ⟨_, rfl⟩
    obtain ⟨T, hT⟩ : ∃ q, joinC [J, ⟨n3, s3, a3, b3, g3, t3, d3, e3⟩] = q := ⟨_, rfl⟩
    obtain ⟨U, hU⟩ : ∃ q, joinC [⟨n2, s2, a2, b2, g2, t2, d2, e2⟩, ⟨n3, s3, a3, b3, g3, t3, d3, e3⟩] = q := ⟨_, rfl⟩
    obtain ⟨V, hV⟩ : ∃ q, joinC [⟨n1, s1, a1, b1, g1, t1, d1, e1⟩, ⟨n2, s2, a2, b2, g2, t2, d2, e2⟩, ⟨n3, s3, a3, b3, g3, t3, d3, e3⟩] = q := ⟨_, rfl⟩
    rw [hJ, hU, hT, hV] at L
    obtain ⟨z2, z5, z7, z8, z9, gj, wa, wb, wz⟩ := L
    obtain ⟨n4, s4, a4, b4, g4, t4, d4, e4⟩ := J
    obtain ⟨n5, s5, a5, b5, g5, t5, d5, e5⟩ := T
    obtain ⟨n6, s6, a6, b6, g6, t6, d6, e6⟩ := U
    obtain ⟨n7, s7, a7, b7, g7, t7, d7, e7⟩ := V
    have xj : t4.length ≤ 9223372036854775807 := good_len gj
    have E2 := Lib.hid z2.symm
    have E3 := Lib.hid hT
    have E4 := Lib.hid hU
    have E5 := Lib.hid z5.symm
    have E6 := Lib.hid hV
    have E7 := Lib.hid z7.symm
    have E8 := Lib.hid z8
    have E9 := Lib.hid z9
    have hGJ := fun W => cgood_c p n4 s4 a4 b4 g4 t4 d4 e4 xj W
    rw [show cgoodS p n4 s4 a4 b4 g4 t4 d4 e4 = true from gj] at hGJ
    have hW1 := fun W => within_c n1 s1 a1 b1 g1 t1 d1 e1 n4 s4 a4 b4 g4 t4 d4 e4 W
    rw [wa] at hW1
    have hW2 := fun W => within_c n2 s2 a2 b2 g2 t2 d2 e2 n4 s4 a4 b4 g4 t4 d4 e4 W
    rw [wb] at hW2
    have hW3 := fun W => within_c 0 0 0 0 false [] 0 0 n1 s1 a1 b1 g1 t1 d1 e1 W
    rw [show withinS ⟨0, 0, 0, 0, false, [], 0, 0⟩ ⟨n1, s1, a1, b1, g1, t1, d1, e1⟩ = true from wz] at hW3
    have hnil : text ([] : List UInt8) = ⟨#[]⟩ := rfl
    rw [hnil] at hW3
    have HGJ := Lib.hid hGJ
    have HW1 := Lib.hid hW1
    have HW2 := Lib.hid hW2
    have HW3 := Lib.hid hW3
    have HG1 := Lib.hid hG1
    have HG2 := Lib.hid hG2
    have HG3 := Lib.hid hG3
    have HJJ := Lib.hid (fun W => join_c (cls2 W n1 s1 a1 b1 g1 t1 d1 e1 n2 s2 a2 b2 g2 t2 d2 e2))
    rw [hJ] at HJJ
    have q1 := cell_neb n4 s4 a4 b4 g4 t4 d4 e4 n4 s4 a4 b4 g4 t4 d4 e4 true (cellEq_self _ _ _ _ _ _ _ _)
    have q2 := cell_neb n5 s5 a5 b5 g5 t5 d5 e5 n5 s5 a5 b5 g5 t5 d5 e5 true (cellEq_self _ _ _ _ _ _ _ _)
    have q3 := cell_neb n7 s7 a7 b7 g7 t7 d7 e7 n7 s7 a7 b7 g7 t7 d7 e7 true (cellEq_self _ _ _ _ _ _ _ _)
    have q4 := cell_neb n1 s1 a1 b1 g1 t1 d1 e1 n1 s1 a1 b1 g1 t1 d1 e1 true (cellEq_self _ _ _ _ _ _ _ _)
    have q5 := cell_neb 0 0 0 0 false [] 0 0 0 0 0 0 false [] 0 0 true (cellEq_self _ _ _ _ _ _ _ _)
    rw [hnil] at q5
    have hceg := cell_eqg
    simp only [Cl.arr] at HJJ
    clear hG1 hG2 hG3 y1 y2 y3 hJ hT hU hV z2 z5 z7 z8 z9 gj wa wb wz hGJ hW1 hW2 hW3 hgz xj hnil x1 x2 x3
    go_upto_region 4 with (first
      | (go_at_call 20; (with_reducible refine (HG1.out _).mono ?_); rintro e9 w9 ⟨rfl, hb9⟩; (replace hcur := hcur.trans (hb9.mono hcur.size)); clear hb9; obtain ⟨⟨c0, c1, c2, c3, c4, c5, c6, c7⟩, ⟨k0, k1, k2, k3, k4, k5, k6, k7⟩, m0, m1, m2, m3, m4, m5, m6, m7⟩ := HF.out _ hcur)
      | (go_at_call 20; (with_reducible refine (HG2.out _).mono ?_); rintro e9 w9 ⟨rfl, hb9⟩; (replace hcur := hcur.trans (hb9.mono hcur.size)); clear hb9; obtain ⟨⟨c0, c1, c2, c3, c4, c5, c6, c7⟩, ⟨k0, k1, k2, k3, k4, k5, k6, k7⟩, m0, m1, m2, m3, m4, m5, m6, m7⟩ := HF.out _ hcur)
      | (go_at_call 20; (with_reducible refine (HG3.out _).mono ?_); rintro e9 w9 ⟨rfl, hb9⟩; (replace hcur := hcur.trans (hb9.mono hcur.size)); clear hb9; obtain ⟨⟨c0, c1, c2, c3, c4, c5, c6, c7⟩, ⟨k0, k1, k2, k3, k4, k5, k6, k7⟩, m0, m1, m2, m3, m4, m5, m6, m7⟩ := HF.out _ hcur))
    go_upto_region 5 with (go_at_call 13; (with_reducible refine (HJJ.out _).mono ?_); rintro e9 w9 ⟨rfl, hb9⟩)
    replace hcur := (hcur.alloc hcur.size _).trans (hb9.mono (by have := hcur.size; simp; omega))
    have hj := Cel.new w9 n4 s4 a4 b4 g4 t4 d4 e4
    replace hcur := hcur.alloc hcur.size (.cells #[.int .i64 n4, .int .i64 s4, .int .i64 a4, .int .i64 b4, .bool g4, .string (text t4), .int .i64 d4, .int .i64 e4] 27)
    clear hb9 HJJ
    obtain ⟨gj, hgj⟩ : ∃ q, w9.heap.size = q := ⟨_, rfl⟩
    rw [hgj] at hj ⊢
    clear hgj
    generalize w9.alloc (.cells #[.int .i64 n4, .int .i64 s4, .int .i64 a4, .int .i64 b4, .bool g4, .string (text t4), .int .i64 d4, .int .i64 e4] 27) = W4 at *
    have HF5 := Lib.hid (fun X (h : Below W4.heap.size W4 X) => And.intro (HF.out X (hcur.trans (h.mono hcur.size))) (hj.kept h).cs)
    have HB5 := Lib.hid (HBQ.out.trans (hcur.mono HBQ.out.size))
    clear c0 c1 c2 c3 c4 c5 c6 c7 k0 k1 k2 k3 k4 k5 k6 k7 m0 m1 m2 m3 m4 m5 m6 m7 hj hcur
    refine wp_region_flow [none, none, none, none, none, none, none, none, none, none, none, none, none, none, none, none, none, none, none, none, none, none, none, none, none, none, none, none, none, none, none, none, none, none, none, none, some 0, some 1, some 2, some 3, some 4, some 5, some 6, some 7, some 8, some 9, some 10, some 11, some 12, some 13, some 14, some 15, some 16, some 17, some 18, some 19, some 20, some 21, some 22, some 23, some 24, some 25, some 26, some 27, some 28, some 29, some 30, some 31, some 32, some 33, some 34, some 35, some 36, some 37, some 38, some 39, some 40, some 41, some 42, some 43, some 44, some 45, some 46, some 47, some 48, some 49, some 50, some 51, some 52, none, none, none, none, none, none, none, none, none, none, none, none, none, none, none, none, none, none, none, none, none] (fun i => [undef, undef, undef, undef, undef, undef, undef, undef, undef, undef, undef, undef, undef, undef, undef, undef, undef, undef, undef, undef, undef, undef, undef, undef, undef, undef, undef, undef, undef, undef, undef, undef, undef, undef, undef, undef, undef, undef, undef, undef, undef, undef, undef, undef, undef, undef, undef, undef, undef, undef, undef, undef, undef].getD i undef) [(fun v _ => v = .agg #[.int .i64 n4, .int .i64 s4, .int .i64 a4, .int .i64 b4, .bool g4, .string (text t4), .int .i64 d4, .int .i64 e4]), (fun v _ => v = .agg #[.int .i64 n2, .int .i64 s2, .int .i64 a2, .int .i64 b2, .bool g2, .string (text t2), .int .i64 d2, .int .i64 e2]), (fun v _ => v = .agg #[.int .i64 n1, .int .i64 s1, .int .i64 a1, .int .i64 b1, .bool g1, .string (text t1), .int .i64 d1, .int .i64 e1]), (ClsV [⟨n2, s2, a2, b2, g2, t2, d2, e2⟩, ⟨n1, s1, a1, b1, g1, t1, d1, e1⟩]), (fun v _ => v = .agg #[.int .i64 n4, .int .i64 s4, .int .i64 a4, .int .i64 b4, .bool g4, .string (text t4), .int .i64 d4, .int .i64 e4]), (fun v _ => v = .bool false), (fun v _ => v = .bool false), (fun v _ => v = .agg #[.int .i64 n4, .int .i64 s4, .int .i64 a4, .int .i64 b4, .bool g4, .string (text t4), .int .i64 d4, .int .i64 e4]), (fun v _ => v = .agg #[.int .i64 n3, .int .i64 s3, .int .i64 a3, .int .i64 b3, .bool g3, .string (text t3), .int .i64 d3, .int .i64 e3]), (ClsV [⟨n4, s4, a4, b4, g4, t4, d4, e4⟩, ⟨n3, s3, a3, b3, g3, t3, d3, e3⟩]), (fun v _ => v = .agg #[.int .i64 n5, .int .i64 s5, .int .i64 a5, .int .i64 b5, .bool g5, .string (text t5), .int .i64 d5, .int .i64 e5]), (fun v _ => v = .agg #[.int .i64 n1, .int .i64 s1, .int .i64 a1, .int .i64 b1, .bool g1, .string (text t1), .int .i64 d1, .int .i64 e1]), (fun v _ => v = .agg #[.int .i64 n2, .int .i64 s2, .int .i64 a2, .int .i64 b2, .bool g2, .string (text t2), .int .i64 d2, .int .i64 e2]), (fun v _ => v = .agg #[.int .i64 n3, .int .i64 s3, .int .i64 a3, .int .i64 b3, .bool g3, .string (text t3), .int .i64 d3, .int .i64 e3]), (ClsV [⟨n2, s2, a2, b2, g2, t2, d2, e2⟩, ⟨n3, s3, a3, b3, g3, t3, d3, e3⟩]), (fun v _ => v = .agg #[.int .i64 n6, .int .i64 s6, .int .i64 a6, .int .i64 b6, .bool g6, .string (text t6), .int .i64 d6, .int .i64 e6]), (ClsV [⟨n1, s1, a1, b1, g1, t1, d1, e1⟩, ⟨n6, s6, a6, b6, g6, t6, d6, e6⟩]), (fun v _ => v = .agg #[.int .i64 n5, .int .i64 s5, .int .i64 a5, .int .i64 b5, .bool g5, .string (text t5), .int .i64 d5, .int .i64 e5]), (fun v _ => v = .bool false), (fun v _ => v = .bool false), (fun v _ => v = .bool false), (fun v _ => v = .agg #[.int .i64 n1, .int .i64 s1, .int .i64 a1, .int .i64 b1, .bool g1, .string (text t1), .int .i64 d1, .int .i64 e1]), (fun v _ => v = .agg #[.int .i64 n2, .int .i64 s2, .int .i64 a2, .int .i64 b2, .bool g2, .string (text t2), .int .i64 d2, .int .i64 e2]), (fun v _ => v = .agg #[.int .i64 n3, .int .i64 s3, .int .i64 a3, .int .i64 b3, .bool g3, .string (text t3), .int .i64 d3, .int .i64 e3]), (ClsV [⟨n1, s1, a1, b1, g1, t1, d1, e1⟩, ⟨n2, s2, a2, b2, g2, t2, d2, e2⟩, ⟨n3, s3, a3, b3, g3, t3, d3, e3⟩]), (fun v _ => v = .agg #[.int .i64 n7, .int .i64 s7, .int .i64 a7, .int .i64 b7, .bool g7, .string (text t7), .int .i64 d7, .int .i64 e7]), (fun v _ => v = .agg #[.int .i64 n3, .int .i64 s3, .int .i64 a3, .int .i64 b3, .bool g3, .string (text t3), .int .i64 d3, .int .i64 e3]), (fun v _ => v = .agg #[.int .i64 n2, .int .i64 s2, .int .i64 a2, .int .i64 b2, .bool g2, .string (text t2), .int .i64 d2, .int .i64 e2]), (fun v _ => v = .agg #[.int .i64 n1, .int .i64 s1, .int .i64 a1, .int .i64 b1, .bool g1, .string (text t1), .int .i64 d1, .int .i64 e1]), (ClsV [⟨n3, s3, a3, b3, g3, t3, d3, e3⟩, ⟨n2, s2, a2, b2, g2, t2, d2, e2⟩, ⟨n1, s1, a1, b1, g1, t1, d1, e1⟩]), (fun v _ => v = .agg #[.int .i64 n7, .int .i64 s7, .int .i64 a7, .int .i64 b7, .bool g7, .string (text t7), .int .i64 d7, .int .i64 e7]), (fun v _ => v = .bool false), (fun v _ => v = .bool false), (fun v _ => v = .bool false), (fun v _ => v = .agg #[.int .i64 n1, .int .i64 s1, .int .i64 a1, .int .i64 b1, .bool g1, .string (text t1), .int .i64 d1, .int .i64 e1]), (fun v _ => v = .agg #[.int .i64 n1, .int .i64 s1, .int .i64 a1, .int .i64 b1, .bool g1, .string (text t1), .int .i64 d1, .int .i64 e1]), (ClsV [⟨n1, s1, a1, b1, g1, t1, d1, e1⟩, ⟨n1, s1, a1, b1, g1, t1, d1, e1⟩]), (fun v _ => v = .agg #[.int .i64 n1, .int .i64 s1, .int .i64 a1, .int .i64 b1, .bool g1, .string (text t1), .int .i64 d1, .int .i64 e1]), (fun v _ => v = .agg #[.int .i64 n1, .int .i64 s1, .int .i64 a1, .int .i64 b1, .bool g1, .string (text t1), .int .i64 d1, .int .i64 e1]), (fun v _ => v = .bool false), (fun v _ => v = .bool false), (fun v _ => v = .bool false), (fun v _ => v = .agg #[.int .i64 n1, .int .i64 s1, .int .i64 a1, .int .i64 b1, .bool g1, .string (text t1), .int .i64 d1, .int .i64 e1]), (ClsV [⟨n1, s1, a1, b1, g1, t1, d1, e1⟩]), (fun v _ => v = .agg #[.int .i64 n1, .int .i64 s1, .int .i64 a1, .int .i64 b1, .bool g1, .string (text t1), .int .i64 d1, .int .i64 e1]), (fun v _ => v = .agg #[.int .i64 n1, .int .i64 s1, .int .i64 a1, .int .i64 b1, .bool g1, .string (text t1), .int .i64 d1, .int .i64 e1]), (fun v _ => v = .bool false), (fun v _ => v = .bool false), (fun v _ => v = .bool false), (fun v _ => v = .agg #[.int .i64 0, .int .i64 0, .int .i64 0, .int .i64 0, .bool false, .string ⟨#[]⟩, .int .i64 0, .int .i64 0]), (fun v _ => v = .agg #[.int .i64 0, .int .i64 0, .int .i64 0, .int .i64 0, .bool false, .string ⟨#[]⟩, .int .i64 0, .int .i64 0]), (fun v _ => v = .bool false), (fun v _ => v = .bool false)] (by kernel_rfl) (by kernel_rfl) rfl rfl rfl ?_ ?_ ?_
    · intro g hg v X Y hX hY hv
      simp only [List.mem_cons, List.not_mem_nil, or_false] at hg
      rcases hg with rfl | rfl | rfl | rfl | rfl | rfl | rfl | rfl | rfl | rfl | rfl | rfl | rfl | rfl | rfl | rfl | rfl | rfl | rfl | rfl | rfl | rfl | rfl | rfl | rfl | rfl | rfl | rfl | rfl | rfl | rfl | rfl | rfl | rfl | rfl | rfl | rfl | rfl | rfl | rfl | rfl | rfl | rfl | rfl | rfl | rfl | rfl | rfl | rfl | rfl | rfl | rfl | rfl
      all_goals first
        | exact hv
        | exact hv.kept hY
    · simp only [flowOps, and_true]
      refine ⟨?_, ?_, ?_, ?_, ?_, ?_, ?_, ?_, ?_, ?_, ?_, ?_, ?_, ?_, ?_, ?_, ?_, ?_, ?_, ?_, ?_, ?_, ?_, ?_, ?_, ?_, ?_, ?_, ?_, ?_, ?_, ?_, ?_, ?_, ?_, ?_, ?_, ?_, ?_, ?_, ?_, ?_, ?_, ?_, ?_, ?_, ?_, ?_, ?_, ?_, ?_, ?_, ?_⟩
      · intro xs W hW hn
        obtain ⟨⟨⟨c0, c1, c2, c3, c4, c5, c6, c7⟩, ⟨k0, k1, k2, k3, k4, k5, k6, k7⟩, m0, m1, m2, m3, m4, m5, m6, m7⟩, j0, j1, j2, j3, j4, j5, j6, j7⟩ := HF5.out W hW
        simp only [flowAct, List.zipWith_cons_cons, List.zipWith_nil_left]
        go_wp2_with (fail)
        exact ⟨rfl, _, rfl, Below.refl _ _, rfl⟩
      · intro xs W hW hn
        obtain ⟨⟨⟨c0, c1, c2, c3, c4, c5, c6, c7⟩, ⟨k0, k1, k2, k3, k4, k5, k6, k7⟩, m0, m1, m2, m3, m4, m5, m6, m7⟩, j0, j1, j2, j3, j4, j5, j6, j7⟩ := HF5.out W hW
        simp only [flowAct, List.zipWith_cons_cons, List.zipWith_nil_left]
        go_wp2_with (fail)
        exact ⟨rfl, _, rfl, Below.refl _ _, rfl⟩
      · intro xs W hW hn
        obtain ⟨⟨⟨c0, c1, c2, c3, c4, c5, c6, c7⟩, ⟨k0, k1, k2, k3, k4, k5, k6, k7⟩, m0, m1, m2, m3, m4, m5, m6, m7⟩, j0, j1, j2, j3, j4, j5, j6, j7⟩ := HF5.out W hW
        simp only [flowAct, List.zipWith_cons_cons, List.zipWith_nil_left]
        go_wp2_with (fail)
        exact ⟨rfl, _, rfl, Below.refl _ _, rfl⟩
      · intro xs W hW hn
        simp [flowNeeds, Region.binds] at hn
        simp only [flowAct, List.zipWith_cons_cons, List.zipWith_nil_left]
        simp only [hn]
        go_wp2_with (fail)
        exact ⟨rfl, _, rfl, alloc_below _ _, ⟨_, _, _, rfl, cls2 _ n2 s2 a2 b2 g2 t2 d2 e2 n1 s1 a1 b1 g1 t1 d1 e1⟩⟩
      · intro xs W hW hn
        simp [flowNeeds, Region.binds] at hn
        obtain ⟨a9, n9, k9, hv9, hc9⟩ := hn
        have HJJ := Lib.hid (join_c hc9)
        rw [E2.out] at HJJ
        clear hc9
        simp only [flowAct, List.zipWith_cons_cons, List.zipWith_nil_left]
        simp only [hv9]
        go_wp2_with (go_at_call 13; (with_reducible refine HJJ.out.mono ?_); rintro e9 w9 ⟨rfl, hb9⟩)
        exact ⟨rfl, _, rfl, hb9, rfl⟩
      · intro xs W hW hn
        simp [flowNeeds, Region.binds] at hn
        simp only [flowAct, List.zipWith_cons_cons, List.zipWith_nil_left]
        simp only [hn]
        go_wp2_with (fail)
        exact ⟨rfl, _, rfl, Below.refl _ _, rfl⟩
      · intro xs W hW hn
        simp [flowNeeds, Region.binds] at hn
        simp only [flowAct, List.zipWith_cons_cons, List.zipWith_nil_left]
        simp only [hn]
        go_wp2_with (fail)
        exact ⟨rfl, _, rfl, Below.refl _ _, rfl⟩
      · intro xs W hW hn
        obtain ⟨⟨⟨c0, c1, c2, c3, c4, c5, c6, c7⟩, ⟨k0, k1, k2, k3, k4, k5, k6, k7⟩, m0, m1, m2, m3, m4, m5, m6, m7⟩, j0, j1, j2, j3, j4, j5, j6, j7⟩ := HF5.out W hW
        simp [flowNeeds, Region.binds] at hn
        simp only [flowAct, List.zipWith_cons_cons, List.zipWith_nil_left]
        simp only [hn]
        go_wp2_with (fail)
        exact ⟨rfl, _, rfl, Below.refl _ _, rfl⟩
      · intro xs W hW hn
        obtain ⟨⟨⟨c0, c1, c2, c3, c4, c5, c6, c7⟩, ⟨k0, k1, k2, k3, k4, k5, k6, k7⟩, m0, m1, m2, m3, m4, m5, m6, m7⟩, j0, j1, j2, j3, j4, j5, j6, j7⟩ := HF5.out W hW
        simp [flowNeeds, Region.binds] at hn
        simp only [flowAct, List.zipWith_cons_cons, List.zipWith_nil_left]
        simp only [hn]
        go_wp2_with (fail)
        exact ⟨rfl, _, rfl, Below.refl _ _, rfl⟩
      · intro xs W hW hn
        simp [flowNeeds, Region.binds] at hn
        simp only [flowAct, List.zipWith_cons_cons, List.zipWith_nil_left]
        simp only [hn]
        go_wp2_with (fail)
        exact ⟨rfl, _, rfl, alloc_below _ _, ⟨_, _, _, rfl, cls2 _ n4 s4 a4 b4 g4 t4 d4 e4 n3 s3 a3 b3 g3 t3 d3 e3⟩⟩
      · intro xs W hW hn
        simp [flowNeeds, Region.binds] at hn
        obtain ⟨⟨a9, n9, k9, hv9, hc9⟩, hgd⟩ := hn
        have HJJ := Lib.hid (join_c hc9)
        rw [E3.out] at HJJ
        clear hc9
        simp only [flowAct, List.zipWith_cons_cons, List.zipWith_nil_left]
        simp only [hv9, hgd]
        go_wp2_with (go_at_call 13; (with_reducible refine HJJ.out.mono ?_); rintro e9 w9 ⟨rfl, hb9⟩)
        exact ⟨rfl, _, rfl, hb9, rfl⟩
      · intro xs W hW hn
        obtain ⟨⟨⟨c0, c1, c2, c3, c4, c5, c6, c7⟩, ⟨k0, k1, k2, k3, k4, k5, k6, k7⟩, m0, m1, m2, m3, m4, m5, m6, m7⟩, j0, j1, j2, j3, j4, j5, j6, j7⟩ := HF5.out W hW
        simp [flowNeeds, Region.binds] at hn
        simp only [flowAct, List.zipWith_cons_cons, List.zipWith_nil_left]
        simp only [hn]
        go_wp2_with (fail)
        exact ⟨rfl, _, rfl, Below.refl _ _, rfl⟩
      · intro xs W hW hn
        obtain ⟨⟨⟨c0, c1, c2, c3, c4, c5, c6, c7⟩, ⟨k0, k1, k2, k3, k4, k5, k6, k7⟩, m0, m1, m2, m3, m4, m5, m6, m7⟩, j0, j1, j2, j3, j4, j5, j6, j7⟩ := HF5.out W hW
        simp [flowNeeds, Region.binds] at hn
        simp only [flowAct, List.zipWith_cons_cons, List.zipWith_nil_left]
        simp only [hn]
        go_wp2_with (fail)
        exact ⟨rfl, _, rfl, Below.refl _ _, rfl⟩
      · intro xs W hW hn
        obtain ⟨⟨⟨c0, c1, c2, c3, c4, c5, c6, c7⟩, ⟨k0, k1, k2, k3, k4, k5, k6, k7⟩, m0, m1, m2, m3, m4, m5, m6, m7⟩, j0, j1, j2, j3, j4, j5, j6, j7⟩ := HF5.out W hW
        simp [flowNeeds, Region.binds] at hn
        simp only [flowAct, List.zipWith_cons_cons, List.zipWith_nil_left]
        simp only [hn]
        go_wp2_with (fail)
        exact ⟨rfl, _, rfl, Below.refl _ _, rfl⟩
      · intro xs W hW hn
        simp [flowNeeds, Region.binds] at hn
        simp only [flowAct, List.zipWith_cons_cons, List.zipWith_nil_left]
        simp only [hn]
        go_wp2_with (fail)
        exact ⟨rfl, _, rfl, alloc_below _ _, ⟨_, _, _, rfl, cls2 _ n2 s2 a2 b2 g2 t2 d2 e2 n3 s3 a3 b3 g3 t3 d3 e3⟩⟩
      · intro xs W hW hn
        simp [flowNeeds, Region.binds] at hn
        obtain ⟨⟨a9, n9, k9, hv9, hc9⟩, hgd⟩ := hn
        have HJJ := Lib.hid (join_c hc9)
        rw [E4.out] at HJJ
        clear hc9
        simp only [flowAct, List.zipWith_cons_cons, List.zipWith_nil_left]
        simp only [hv9, hgd]
        go_wp2_with (go_at_call 13; (with_reducible refine HJJ.out.mono ?_); rintro e9 w9 ⟨rfl, hb9⟩)
        exact ⟨rfl, _, rfl, hb9, rfl⟩
      · intro xs W hW hn
        simp [flowNeeds, Region.binds] at hn
        simp only [flowAct, List.zipWith_cons_cons, List.zipWith_nil_left]
        simp only [hn]
        go_wp2_with (fail)
        exact ⟨rfl, _, rfl, alloc_below _ _, ⟨_, _, _, rfl, cls2 _ n1 s1 a1 b1 g1 t1 d1 e1 n6 s6 a6 b6 g6 t6 d6 e6⟩⟩
      · intro xs W hW hn
        simp [flowNeeds, Region.binds] at hn
        obtain ⟨⟨a9, n9, k9, hv9, hc9⟩, hgd⟩ := hn
        have HJJ := Lib.hid (join_c hc9)
        rw [E5.out] at HJJ
        clear hc9
        simp only [flowAct, List.zipWith_cons_cons, List.zipWith_nil_left]
        simp only [hv9, hgd]
        go_wp2_with (go_at_call 13; (with_reducible refine HJJ.out.mono ?_); rintro e9 w9 ⟨rfl, hb9⟩)
        exact ⟨rfl, _, rfl, hb9, rfl⟩
      · intro xs W hW hn
        simp [flowNeeds, Region.binds] at hn
        simp only [flowAct, List.zipWith_cons_cons, List.zipWith_nil_left]
        simp only [hn]
        go_wp2_with (fail)
        exact ⟨rfl, _, rfl, Below.refl _ _, rfl⟩
      · intro xs W hW hn
        simp [flowNeeds, Region.binds] at hn
        simp only [flowAct, List.zipWith_cons_cons, List.zipWith_nil_left]
        simp only [hn]
        go_wp2_with (fail)
        exact ⟨rfl, _, rfl, Below.refl _ _, rfl⟩
      · intro xs W hW hn
        simp [flowNeeds, Region.binds] at hn
        simp only [flowAct, List.zipWith_cons_cons, List.zipWith_nil_left]
        simp only [hn]
        go_wp2_with (fail)
        exact ⟨rfl, _, rfl, Below.refl _ _, rfl⟩
      · intro xs W hW hn
        obtain ⟨⟨⟨c0, c1, c2, c3, c4, c5, c6, c7⟩, ⟨k0, k1, k2, k3, k4, k5, k6, k7⟩, m0, m1, m2, m3, m4, m5, m6, m7⟩, j0, j1, j2, j3, j4, j5, j6, j7⟩ := HF5.out W hW
        simp [flowNeeds, Region.binds] at hn
        simp only [flowAct, List.zipWith_cons_cons, List.zipWith_nil_left]
        simp only [hn]
        go_wp2_with (fail)
        exact ⟨rfl, _, rfl, Below.refl _ _, rfl⟩
      · intro xs W hW hn
        obtain ⟨⟨⟨c0, c1, c2, c3, c4, c5, c6, c7⟩, ⟨k0, k1, k2, k3, k4, k5, k6, k7⟩, m0, m1, m2, m3, m4, m5, m6, m7⟩, j0, j1, j2, j3, j4, j5, j6, j7⟩ := HF5.out W hW
        simp [flowNeeds, Region.binds] at hn
        simp only [flowAct, List.zipWith_cons_cons, List.zipWith_nil_left]
        simp only [hn]
        go_wp2_with (fail)
        exact ⟨rfl, _, rfl, Below.refl _ _, rfl⟩
      · intro xs W hW hn
        obtain ⟨⟨⟨c0, c1, c2, c3, c4, c5, c6, c7⟩, ⟨k0, k1, k2, k3, k4, k5, k6, k7⟩, m0, m1, m2, m3, m4, m5, m6, m7⟩, j0, j1, j2, j3, j4, j5, j6, j7⟩ := HF5.out W hW
        simp [flowNeeds, Region.binds] at hn
        simp only [flowAct, List.zipWith_cons_cons, List.zipWith_nil_left]
        simp only [hn]
        go_wp2_with (fail)
        exact ⟨rfl, _, rfl, Below.refl _ _, rfl⟩
      · intro xs W hW hn
        simp [flowNeeds, Region.binds] at hn
        simp only [flowAct, List.zipWith_cons_cons, List.zipWith_nil_left]
        simp only [hn]
        go_wp2_with (fail)
        exact ⟨rfl, _, rfl, alloc_below _ _, ⟨_, _, _, rfl, cls3 _ n1 s1 a1 b1 g1 t1 d1 e1 n2 s2 a2 b2 g2 t2 d2 e2 n3 s3 a3 b3 g3 t3 d3 e3⟩⟩
      · intro xs W hW hn
        simp [flowNeeds, Region.binds] at hn
        obtain ⟨⟨a9, n9, k9, hv9, hc9⟩, hgd⟩ := hn
        have HJJ := Lib.hid (join_c hc9)
        rw [E6.out] at HJJ
        clear hc9
        simp only [flowAct, List.zipWith_cons_cons, List.zipWith_nil_left]
        simp only [hv9, hgd]
        go_wp2_with (go_at_call 13; (with_reducible refine HJJ.out.mono ?_); rintro e9 w9 ⟨rfl, hb9⟩)
        exact ⟨rfl, _, rfl, hb9, rfl⟩
      · intro xs W hW hn
        obtain ⟨⟨⟨c0, c1, c2, c3, c4, c5, c6, c7⟩, ⟨k0, k1, k2, k3, k4, k5, k6, k7⟩, m0, m1, m2, m3, m4, m5, m6, m7⟩, j0, j1, j2, j3, j4, j5, j6, j7⟩ := HF5.out W hW
        simp [flowNeeds, Region.binds] at hn
        simp only [flowAct, List.zipWith_cons_cons, List.zipWith_nil_left]
        simp only [hn]
        go_wp2_with (fail)
        exact ⟨rfl, _, rfl, Below.refl _ _, rfl⟩
      · intro xs W hW hn
        obtain ⟨⟨⟨c0, c1, c2, c3, c4, c5, c6, c7⟩, ⟨k0, k1, k2, k3, k4, k5, k6, k7⟩, m0, m1, m2, m3, m4, m5, m6, m7⟩, j0, j1, j2, j3, j4, j5, j6, j7⟩ := HF5.out W hW
        simp [flowNeeds, Region.binds] at hn
        simp only [flowAct, List.zipWith_cons_cons, List.zipWith_nil_left]
        simp only [hn]
        go_wp2_with (fail)
        exact ⟨rfl, _, rfl, Below.refl _ _, rfl⟩
      · intro xs W hW hn
        obtain ⟨⟨⟨c0, c1, c2, c3, c4, c5, c6, c7⟩, ⟨k0, k1, k2, k3, k4, k5, k6, k7⟩, m0, m1, m2, m3, m4, m5, m6, m7⟩, j0, j1, j2, j3, j4, j5, j6, j7⟩ := HF5.out W hW
        simp [flowNeeds, Region.binds] at hn
        simp only [flowAct, List.zipWith_cons_cons, List.zipWith_nil_left]
        simp only [hn]
        go_wp2_with (fail)
        exact ⟨rfl, _, rfl, Below.refl _ _, rfl⟩
      · intro xs W hW hn
        simp [flowNeeds, Region.binds] at hn
        simp only [flowAct, List.zipWith_cons_cons, List.zipWith_nil_left]
        simp only [hn]
        go_wp2_with (fail)
        exact ⟨rfl, _, rfl, alloc_below _ _, ⟨_, _, _, rfl, cls3 _ n3 s3 a3 b3 g3 t3 d3 e3 n2 s2 a2 b2 g2 t2 d2 e2 n1 s1 a1 b1 g1 t1 d1 e1⟩⟩
      · intro xs W hW hn
        simp [flowNeeds, Region.binds] at hn
        obtain ⟨⟨a9, n9, k9, hv9, hc9⟩, hgd⟩ := hn
        have HJJ := Lib.hid (join_c hc9)
        rw [E7.out] at HJJ
        clear hc9
        simp only [flowAct, List.zipWith_cons_cons, List.zipWith_nil_left]
        simp only [hv9, hgd]
        go_wp2_with (go_at_call 13; (with_reducible refine HJJ.out.mono ?_); rintro e9 w9 ⟨rfl, hb9⟩)
        exact ⟨rfl, _, rfl, hb9, rfl⟩
      · intro xs W hW hn
        simp [flowNeeds, Region.binds] at hn
        simp only [flowAct, List.zipWith_cons_cons, List.zipWith_nil_left]
        simp only [hn]
        go_wp2_with (fail)
        exact ⟨rfl, _, rfl, Below.refl _ _, rfl⟩
      · intro xs W hW hn
        simp [flowNeeds, Region.binds] at hn
        simp only [flowAct, List.zipWith_cons_cons, List.zipWith_nil_left]
        simp only [hn]
        go_wp2_with (fail)
        exact ⟨rfl, _, rfl, Below.refl _ _, rfl⟩
      · intro xs W hW hn
        simp [flowNeeds, Region.binds] at hn
        simp only [flowAct, List.zipWith_cons_cons, List.zipWith_nil_left]
        simp only [hn]
        go_wp2_with (fail)
        exact ⟨rfl, _, rfl, Below.refl _ _, rfl⟩
      · intro xs W hW hn
        obtain ⟨⟨⟨c0, c1, c2, c3, c4, c5, c6, c7⟩, ⟨k0, k1, k2, k3, k4, k5, k6, k7⟩, m0, m1, m2, m3, m4, m5, m6, m7⟩, j0, j1, j2, j3, j4, j5, j6, j7⟩ := HF5.out W hW
        simp [flowNeeds, Region.binds] at hn
        simp only [flowAct, List.zipWith_cons_cons, List.zipWith_nil_left]
        simp only [hn]
        go_wp2_with (fail)
        exact ⟨rfl, _, rfl, Below.refl _ _, rfl⟩
      · intro xs W hW hn
        obtain ⟨⟨⟨c0, c1, c2, c3, c4, c5, c6, c7⟩, ⟨k0, k1, k2, k3, k4, k5, k6, k7⟩, m0, m1, m2, m3, m4, m5, m6, m7⟩, j0, j1, j2, j3, j4, j5, j6, j7⟩ := HF5.out W hW
        simp [flowNeeds, Region.binds] at hn
        simp only [flowAct, List.zipWith_cons_cons, List.zipWith_nil_left]
        simp only [hn]
        go_wp2_with (fail)
        exact ⟨rfl, _, rfl, Below.refl _ _, rfl⟩
      · intro xs W hW hn
        simp [flowNeeds, Region.binds] at hn
        simp only [flowAct, List.zipWith_cons_cons, List.zipWith_nil_left]
        simp only [hn]
        go_wp2_with (fail)
        exact ⟨rfl, _, rfl, alloc_below _ _, ⟨_, _, _, rfl, cls2 _ n1 s1 a1 b1 g1 t1 d1 e1 n1 s1 a1 b1 g1 t1 d1 e1⟩⟩
      · intro xs W hW hn
        simp [flowNeeds, Region.binds] at hn
        obtain ⟨⟨a9, n9, k9, hv9, hc9⟩, hgd⟩ := hn
        have HJJ := Lib.hid (join_c hc9)
        rw [E8.out] at HJJ
        clear hc9
        simp only [flowAct, List.zipWith_cons_cons, List.zipWith_nil_left]
        simp only [hv9, hgd]
        go_wp2_with (go_at_call 13; (with_reducible refine HJJ.out.mono ?_); rintro e9 w9 ⟨rfl, hb9⟩)
        exact ⟨rfl, _, rfl, hb9, rfl⟩
      · intro xs W hW hn
        obtain ⟨⟨⟨c0, c1, c2, c3, c4, c5, c6, c7⟩, ⟨k0, k1, k2, k3, k4, k5, k6, k7⟩, m0, m1, m2, m3, m4, m5, m6, m7⟩, j0, j1, j2, j3, j4, j5, j6, j7⟩ := HF5.out W hW
        simp [flowNeeds, Region.binds] at hn
        simp only [flowAct, List.zipWith_cons_cons, List.zipWith_nil_left]
        simp only [hn]
        go_wp2_with (fail)
        exact ⟨rfl, _, rfl, Below.refl _ _, rfl⟩
      · intro xs W hW hn
        simp [flowNeeds, Region.binds] at hn
        simp only [flowAct, List.zipWith_cons_cons, List.zipWith_nil_left]
        simp only [hn]
        go_wp2_with (fail)
        exact ⟨rfl, _, rfl, Below.refl _ _, rfl⟩
      · intro xs W hW hn
        simp [flowNeeds, Region.binds] at hn
        simp only [flowAct, List.zipWith_cons_cons, List.zipWith_nil_left]
        simp only [hn]
        go_wp2_with (fail)
        exact ⟨rfl, _, rfl, Below.refl _ _, rfl⟩
      · intro xs W hW hn
        simp [flowNeeds, Region.binds] at hn
        simp only [flowAct, List.zipWith_cons_cons, List.zipWith_nil_left]
        simp only [hn]
        go_wp2_with (fail)
        exact ⟨rfl, _, rfl, Below.refl _ _, rfl⟩
      · intro xs W hW hn
        obtain ⟨⟨⟨c0, c1, c2, c3, c4, c5, c6, c7⟩, ⟨k0, k1, k2, k3, k4, k5, k6, k7⟩, m0, m1, m2, m3, m4, m5, m6, m7⟩, j0, j1, j2, j3, j4, j5, j6, j7⟩ := HF5.out W hW
        simp [flowNeeds, Region.binds] at hn
        simp only [flowAct, List.zipWith_cons_cons, List.zipWith_nil_left]
        simp only [hn]
        go_wp2_with (fail)
        exact ⟨rfl, _, rfl, Below.refl _ _, rfl⟩
      · intro xs W hW hn
        simp [flowNeeds, Region.binds] at hn
        simp only [flowAct, List.zipWith_cons_cons, List.zipWith_nil_left]
        simp only [hn]
        go_wp2_with (fail)
        exact ⟨rfl, _, rfl, alloc_below _ _, ⟨_, _, _, rfl, cls1 _ n1 s1 a1 b1 g1 t1 d1 e1⟩⟩
      · intro xs W hW hn
        simp [flowNeeds, Region.binds] at hn
        obtain ⟨⟨a9, n9, k9, hv9, hc9⟩, hgd⟩ := hn
        have HJJ := Lib.hid (join_c hc9)
        rw [E9.out] at HJJ
        clear hc9
        simp only [flowAct, List.zipWith_cons_cons, List.zipWith_nil_left]
        simp only [hv9, hgd]
        go_wp2_with (go_at_call 13; (with_reducible refine HJJ.out.mono ?_); rintro e9 w9 ⟨rfl, hb9⟩)
        exact ⟨rfl, _, rfl, hb9, rfl⟩
      · intro xs W hW hn
        obtain ⟨⟨⟨c0, c1, c2, c3, c4, c5, c6, c7⟩, ⟨k0, k1, k2, k3, k4, k5, k6, k7⟩, m0, m1, m2, m3, m4, m5, m6, m7⟩, j0, j1, j2, j3, j4, j5, j6, j7⟩ := HF5.out W hW
        simp [flowNeeds, Region.binds] at hn
        simp only [flowAct, List.zipWith_cons_cons, List.zipWith_nil_left]
        simp only [hn]
        go_wp2_with (fail)
        exact ⟨rfl, _, rfl, Below.refl _ _, rfl⟩
      · intro xs W hW hn
        simp [flowNeeds, Region.binds] at hn
        simp only [flowAct, List.zipWith_cons_cons, List.zipWith_nil_left]
        simp only [hn]
        go_wp2_with (fail)
        exact ⟨rfl, _, rfl, Below.refl _ _, rfl⟩
      · intro xs W hW hn
        simp [flowNeeds, Region.binds] at hn
        simp only [flowAct, List.zipWith_cons_cons, List.zipWith_nil_left]
        simp only [hn]
        go_wp2_with (fail)
        exact ⟨rfl, _, rfl, Below.refl _ _, rfl⟩
      · intro xs W hW hn
        simp [flowNeeds, Region.binds] at hn
        simp only [flowAct, List.zipWith_cons_cons, List.zipWith_nil_left]
        simp only [hn]
        go_wp2_with (fail)
        exact ⟨rfl, _, rfl, Below.refl _ _, rfl⟩
      · intro xs W hW hn
        simp [flowNeeds, Region.binds] at hn
        simp only [flowAct, List.zipWith_cons_cons, List.zipWith_nil_left]
        simp only [hn]
        go_wp2_with (go_at_call 13; (with_reducible refine (join_none W).mono ?_); rintro e9 w9 ⟨rfl, hb9⟩)
        exact ⟨rfl, _, rfl, hb9, rfl⟩
      · intro xs W hW hn
        simp [flowNeeds, Region.binds] at hn
        simp only [flowAct, List.zipWith_cons_cons, List.zipWith_nil_left]
        simp only [hn]
        go_wp2_with (fail)
        exact ⟨rfl, _, rfl, Below.refl _ _, rfl⟩
      · intro xs W hW hn
        simp [flowNeeds, Region.binds] at hn
        simp only [flowAct, List.zipWith_cons_cons, List.zipWith_nil_left]
        simp only [hn]
        go_wp2_with (fail)
        exact ⟨rfl, _, rfl, Below.refl _ _, rfl⟩
      · intro xs W hW hn
        simp [flowNeeds, Region.binds] at hn
        simp only [flowAct, List.zipWith_cons_cons, List.zipWith_nil_left]
        simp only [hn]
        go_wp2_with (fail)
        exact ⟨rfl, _, rfl, Below.refl _ _, rfl⟩
    · intro xs W hW hall
      simp only [flowAll, and_true, Nat.zero_add, Nat.reduceAdd] at hall
      obtain ⟨-, -, -, -, -, -, -, -, -, -, -, -, -, -, -, -, -, -, -, -, -, -, -, -, -, -, -, -, -, -, -, -, -, -, -, -, -, -, -, -, -, -, -, -, -, -, -, -, -, -, -, -, y52⟩ := hall
      simp only [flowAct, List.zipWith_cons_cons, List.zipWith_nil_left]
      simp only [y52]
      clear y52 q1 q2 q3 q4 q5 hceg
      have hcur := hW
      obtain ⟨⟨⟨c0, c1, c2, c3, c4, c5, c6, c7⟩, ⟨k0, k1, k2, k3, k4, k5, k6, k7⟩, m0, m1, m2, m3, m4, m5, m6, m7⟩, j0, j1, j2, j3, j4, j5, j6, j7⟩ := HF5.out _ hcur
      go_wp2_with (first
        | (go_at_call 20; (with_reducible refine (HGJ.out _).mono ?_); rintro e9 w9 ⟨rfl, hb9⟩; (replace hcur := hcur.trans (hb9.mono hcur.size)); clear hb9; obtain ⟨⟨⟨c0, c1, c2, c3, c4, c5, c6, c7⟩, ⟨k0, k1, k2, k3, k4, k5, k6, k7⟩, m0, m1, m2, m3, m4, m5, m6, m7⟩, j0, j1, j2, j3, j4, j5, j6, j7⟩ := HF5.out _ hcur)
        | (go_at_call 15; (with_reducible refine (HW1.out _).mono ?_); rintro e9 w9 ⟨rfl, hb9⟩; (replace hcur := hcur.trans (hb9.mono hcur.size)); clear hb9; obtain ⟨⟨⟨c0, c1, c2, c3, c4, c5, c6, c7⟩, ⟨k0, k1, k2, k3, k4, k5, k6, k7⟩, m0, m1, m2, m3, m4, m5, m6, m7⟩, j0, j1, j2, j3, j4, j5, j6, j7⟩ := HF5.out _ hcur)
        | (go_at_call 15; (with_reducible refine (HW2.out _).mono ?_); rintro e9 w9 ⟨rfl, hb9⟩; (replace hcur := hcur.trans (hb9.mono hcur.size)); clear hb9; obtain ⟨⟨⟨c0, c1, c2, c3, c4, c5, c6, c7⟩, ⟨k0, k1, k2, k3, k4, k5, k6, k7⟩, m0, m1, m2, m3, m4, m5, m6, m7⟩, j0, j1, j2, j3, j4, j5, j6, j7⟩ := HF5.out _ hcur)
        | (go_at_call 15; (with_reducible refine (HW3.out _).mono ?_); rintro e9 w9 ⟨rfl, hb9⟩; (replace hcur := hcur.trans (hb9.mono hcur.size)); clear hb9; obtain ⟨⟨⟨c0, c1, c2, c3, c4, c5, c6, c7⟩, ⟨k0, k1, k2, k3, k4, k5, k6, k7⟩, m0, m1, m2, m3, m4, m5, m6, m7⟩, j0, j1, j2, j3, j4, j5, j6, j7⟩ := HF5.out _ hcur)
        | (go_at_call 10; (with_reducible refine (HLv.out _).mono ?_); rintro e9 w9 ⟨rfl, hb9⟩; (replace hcur := hcur.trans (hb9.mono hcur.size)); clear hb9))
      go_ret
      exact ⟨rfl, HB5.out.trans (hcur.mono HB5.out.size)⟩
    
end Go.Proofs.Ytkjpmdpljdgcjaa
