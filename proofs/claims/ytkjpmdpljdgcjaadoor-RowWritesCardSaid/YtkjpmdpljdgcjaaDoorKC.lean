/-
  Cell: the program's parts and lay.
-/
import Derived.Test.YtkjpmdpljdgcjaaDoorK5
import Derived.Test.YtkjpmdpljdgcjaaDoorCP
namespace Go.Proofs.YtkjpmdpljdgcjaaDoor
open Go.RowKit Go Go.Sort
set_option linter.unusedVariables false
set_option maxRecDepth 20000

set_option maxHeartbeats 3200000 in
theorem parts_0 (n s a b : Int) (t : List UInt8) (d e : Int) (hw : wroteS n s a b false t = false) (hz : zeroS d e = true) (w : World) : Calls Tryd.prog 81 #[.agg #[.int .i64 n, .int .i64 s, .int .i64 a, .int .i64 b, .bool false, .string (text t), .int .i64 d, .int .i64 e]] w (Tells (.int .i64 0) w) := by
  have hp := Cel.new w n s a b false t d e
  have hb := alloc_below w (.cells #[.int .i64 n, .int .i64 s, .int .i64 a, .int .i64 b, .bool false, .string (text t), .int .i64 d, .int .i64 e] 50)
  have HB := Lib.hid hb
  have hW := fun W => written_c n s a b false t d e W
  rw [hw] at hW
  have HW := Lib.hid hW
  have hEG := vec_eqg
  have hEQ := vec_neb d e 0 0 true (by rw [← hz]; unfold zeroS; rw [Bool.eq_iff_iff]; simp)
  have HC := Lib.hid (fun W (h : Below (w.alloc (.cells #[.int .i64 n, .int .i64 s, .int .i64 a, .int .i64 b, .bool false, .string (text t), .int .i64 d, .int .i64 e] 50)).heap.size (w.alloc (.cells #[.int .i64 n, .int .i64 s, .int .i64 a, .int .i64 b, .bool false, .string (text t), .int .i64 d, .int .i64 e] 50)) W) => (hp.kept h).cs)
  clear hb hw hz hW
  go_enter Tryd.func81, Tryd.ntmps81
  go_upto_region 1 with (fail)
  generalize w.alloc (.cells #[.int .i64 n, .int .i64 s, .int .i64 a, .int .i64 b, .bool false, .string (text t), .int .i64 d, .int .i64 e] 50) = W1 at *
  have hcur := Below.refl W1.heap.size W1
  obtain ⟨c0, c1, c2, c3, c4, c5, c6, c7⟩ := HC.out _ hcur
  clear hp
  go_wp2_with (go_at_call 63; (with_reducible refine (HW.out _).mono ?_); rintro e9 w9 ⟨rfl, hb9⟩; (replace hcur := hcur.trans (hb9.mono hcur.size)); clear hb9; obtain ⟨c0, c1, c2, c3, c4, c5, c6, c7⟩ := HC.out _ hcur)
  go_ret
  exact ⟨rfl, HB.out.trans (hcur.mono HB.out.size)⟩

set_option maxHeartbeats 3200000 in
theorem parts_4 (n s a b : Int) (t : List UInt8) (d e : Int) (hw : wroteS n s a b false t = false) (hz : zeroS d e = false) (w : World) : Calls Tryd.prog 81 #[.agg #[.int .i64 n, .int .i64 s, .int .i64 a, .int .i64 b, .bool false, .string (text t), .int .i64 d, .int .i64 e]] w (Tells (.int .i64 4) w) := by
  have hp := Cel.new w n s a b false t d e
  have hb := alloc_below w (.cells #[.int .i64 n, .int .i64 s, .int .i64 a, .int .i64 b, .bool false, .string (text t), .int .i64 d, .int .i64 e] 50)
  have HB := Lib.hid hb
  have hW := fun W => written_c n s a b false t d e W
  rw [hw] at hW
  have HW := Lib.hid hW
  have hEG := vec_eqg
  have hEQ := vec_neb d e 0 0 false (by rw [← hz]; unfold zeroS; rw [Bool.eq_iff_iff]; simp)
  have HC := Lib.hid (fun W (h : Below (w.alloc (.cells #[.int .i64 n, .int .i64 s, .int .i64 a, .int .i64 b, .bool false, .string (text t), .int .i64 d, .int .i64 e] 50)).heap.size (w.alloc (.cells #[.int .i64 n, .int .i64 s, .int .i64 a, .int .i64 b, .bool false, .string (text t), .int .i64 d, .int .i64 e] 50)) W) => (hp.kept h).cs)
  clear hb hw hz hW
  go_enter Tryd.func81, Tryd.ntmps81
  go_upto_region 1 with (fail)
  generalize w.alloc (.cells #[.int .i64 n, .int .i64 s, .int .i64 a, .int .i64 b, .bool false, .string (text t), .int .i64 d, .int .i64 e] 50) = W1 at *
  have hcur := Below.refl W1.heap.size W1
  obtain ⟨c0, c1, c2, c3, c4, c5, c6, c7⟩ := HC.out _ hcur
  clear hp
  go_wp2_with (go_at_call 63; (with_reducible refine (HW.out _).mono ?_); rintro e9 w9 ⟨rfl, hb9⟩; (replace hcur := hcur.trans (hb9.mono hcur.size)); clear hb9; obtain ⟨c0, c1, c2, c3, c4, c5, c6, c7⟩ := HC.out _ hcur)
  go_ret
  exact ⟨rfl, HB.out.trans (hcur.mono HB.out.size)⟩

set_option maxHeartbeats 3200000 in
theorem parts_1 (n s a b : Int) (t : List UInt8) (d e : Int) (hw : wroteS n s a b false t = true) (hz : zeroS d e = true) (w : World) : Calls Tryd.prog 81 #[.agg #[.int .i64 n, .int .i64 s, .int .i64 a, .int .i64 b, .bool false, .string (text t), .int .i64 d, .int .i64 e]] w (Tells (.int .i64 1) w) := by
  have hp := Cel.new w n s a b false t d e
  have hb := alloc_below w (.cells #[.int .i64 n, .int .i64 s, .int .i64 a, .int .i64 b, .bool false, .string (text t), .int .i64 d, .int .i64 e] 50)
  have HB := Lib.hid hb
  have hW := fun W => written_c n s a b false t d e W
  rw [hw] at hW
  have HW := Lib.hid hW
  have hEG := vec_eqg
  have hEQ := vec_neb d e 0 0 true (by rw [← hz]; unfold zeroS; rw [Bool.eq_iff_iff]; simp)
  have HC := Lib.hid (fun W (h : Below (w.alloc (.cells #[.int .i64 n, .int .i64 s, .int .i64 a, .int .i64 b, .bool false, .string (text t), .int .i64 d, .int .i64 e] 50)).heap.size (w.alloc (.cells #[.int .i64 n, .int .i64 s, .int .i64 a, .int .i64 b, .bool false, .string (text t), .int .i64 d, .int .i64 e] 50)) W) => (hp.kept h).cs)
  clear hb hw hz hW
  go_enter Tryd.func81, Tryd.ntmps81
  go_upto_region 1 with (fail)
  generalize w.alloc (.cells #[.int .i64 n, .int .i64 s, .int .i64 a, .int .i64 b, .bool false, .string (text t), .int .i64 d, .int .i64 e] 50) = W1 at *
  have hcur := Below.refl W1.heap.size W1
  obtain ⟨c0, c1, c2, c3, c4, c5, c6, c7⟩ := HC.out _ hcur
  clear hp
  go_wp2_with (go_at_call 63; (with_reducible refine (HW.out _).mono ?_); rintro e9 w9 ⟨rfl, hb9⟩; (replace hcur := hcur.trans (hb9.mono hcur.size)); clear hb9; obtain ⟨c0, c1, c2, c3, c4, c5, c6, c7⟩ := HC.out _ hcur)
  go_ret
  exact ⟨rfl, HB.out.trans (hcur.mono HB.out.size)⟩

set_option maxHeartbeats 3200000 in
theorem parts_3 (n s a b : Int) (t : List UInt8) (d e : Int) (hw : wroteS n s a b true t = true) (hz : zeroS d e = true) (w : World) : Calls Tryd.prog 81 #[.agg #[.int .i64 n, .int .i64 s, .int .i64 a, .int .i64 b, .bool true, .string (text t), .int .i64 d, .int .i64 e]] w (Tells (.int .i64 3) w) := by
  have hp := Cel.new w n s a b true t d e
  have hb := alloc_below w (.cells #[.int .i64 n, .int .i64 s, .int .i64 a, .int .i64 b, .bool true, .string (text t), .int .i64 d, .int .i64 e] 50)
  have HB := Lib.hid hb
  have hW := fun W => written_c n s a b true t d e W
  rw [hw] at hW
  have HW := Lib.hid hW
  have hEG := vec_eqg
  have hEQ := vec_neb d e 0 0 true (by rw [← hz]; unfold zeroS; rw [Bool.eq_iff_iff]; simp)
  have HC := Lib.hid (fun W (h : Below (w.alloc (.cells #[.int .i64 n, .int .i64 s, .int .i64 a, .int .i64 b, .bool true, .string (text t), .int .i64 d, .int .i64 e] 50)).heap.size (w.alloc (.cells #[.int .i64 n, .int .i64 s, .int .i64 a, .int .i64 b, .bool true, .string (text t), .int .i64 d, .int .i64 e] 50)) W) => (hp.kept h).cs)
  clear hb hw hz hW
  go_enter Tryd.func81, Tryd.ntmps81
  go_upto_region 1 with (fail)
  generalize w.alloc (.cells #[.int .i64 n, .int .i64 s, .int .i64 a, .int .i64 b, .bool true, .string (text t), .int .i64 d, .int .i64 e] 50) = W1 at *
  have hcur := Below.refl W1.heap.size W1
  obtain ⟨c0, c1, c2, c3, c4, c5, c6, c7⟩ := HC.out _ hcur
  clear hp
  go_wp2_with (go_at_call 63; (with_reducible refine (HW.out _).mono ?_); rintro e9 w9 ⟨rfl, hb9⟩; (replace hcur := hcur.trans (hb9.mono hcur.size)); clear hb9; obtain ⟨c0, c1, c2, c3, c4, c5, c6, c7⟩ := HC.out _ hcur)
  go_ret
  exact ⟨rfl, HB.out.trans (hcur.mono HB.out.size)⟩

set_option maxHeartbeats 3200000 in
theorem parts_5 (n s a b : Int) (t : List UInt8) (d e : Int) (hw : wroteS n s a b false t = true) (hz : zeroS d e = false) (w : World) : Calls Tryd.prog 81 #[.agg #[.int .i64 n, .int .i64 s, .int .i64 a, .int .i64 b, .bool false, .string (text t), .int .i64 d, .int .i64 e]] w (Tells (.int .i64 5) w) := by
  have hp := Cel.new w n s a b false t d e
  have hb := alloc_below w (.cells #[.int .i64 n, .int .i64 s, .int .i64 a, .int .i64 b, .bool false, .string (text t), .int .i64 d, .int .i64 e] 50)
  have HB := Lib.hid hb
  have hW := fun W => written_c n s a b false t d e W
  rw [hw] at hW
  have HW := Lib.hid hW
  have hEG := vec_eqg
  have hEQ := vec_neb d e 0 0 false (by rw [← hz]; unfold zeroS; rw [Bool.eq_iff_iff]; simp)
  have HC := Lib.hid (fun W (h : Below (w.alloc (.cells #[.int .i64 n, .int .i64 s, .int .i64 a, .int .i64 b, .bool false, .string (text t), .int .i64 d, .int .i64 e] 50)).heap.size (w.alloc (.cells #[.int .i64 n, .int .i64 s, .int .i64 a, .int .i64 b, .bool false, .string (text t), .int .i64 d, .int .i64 e] 50)) W) => (hp.kept h).cs)
  clear hb hw hz hW
  go_enter Tryd.func81, Tryd.ntmps81
  go_upto_region 1 with (fail)
  generalize w.alloc (.cells #[.int .i64 n, .int .i64 s, .int .i64 a, .int .i64 b, .bool false, .string (text t), .int .i64 d, .int .i64 e] 50) = W1 at *
  have hcur := Below.refl W1.heap.size W1
  obtain ⟨c0, c1, c2, c3, c4, c5, c6, c7⟩ := HC.out _ hcur
  clear hp
  go_wp2_with (go_at_call 63; (with_reducible refine (HW.out _).mono ?_); rintro e9 w9 ⟨rfl, hb9⟩; (replace hcur := hcur.trans (hb9.mono hcur.size)); clear hb9; obtain ⟨c0, c1, c2, c3, c4, c5, c6, c7⟩ := HC.out _ hcur)
  go_ret
  exact ⟨rfl, HB.out.trans (hcur.mono HB.out.size)⟩

set_option maxHeartbeats 3200000 in
theorem parts_7 (n s a b : Int) (t : List UInt8) (d e : Int) (hw : wroteS n s a b true t = true) (hz : zeroS d e = false) (w : World) : Calls Tryd.prog 81 #[.agg #[.int .i64 n, .int .i64 s, .int .i64 a, .int .i64 b, .bool true, .string (text t), .int .i64 d, .int .i64 e]] w (Tells (.int .i64 7) w) := by
  have hp := Cel.new w n s a b true t d e
  have hb := alloc_below w (.cells #[.int .i64 n, .int .i64 s, .int .i64 a, .int .i64 b, .bool true, .string (text t), .int .i64 d, .int .i64 e] 50)
  have HB := Lib.hid hb
  have hW := fun W => written_c n s a b true t d e W
  rw [hw] at hW
  have HW := Lib.hid hW
  have hEG := vec_eqg
  have hEQ := vec_neb d e 0 0 false (by rw [← hz]; unfold zeroS; rw [Bool.eq_iff_iff]; simp)
  have HC := Lib.hid (fun W (h : Below (w.alloc (.cells #[.int .i64 n, .int .i64 s, .int .i64 a, .int .i64 b, .bool true, .string (text t), .int .i64 d, .int .i64 e] 50)).heap.size (w.alloc (.cells #[.int .i64 n, .int .i64 s, .int .i64 a, .int .i64 b, .bool true, .string (text t), .int .i64 d, .int .i64 e] 50)) W) => (hp.kept h).cs)
  clear hb hw hz hW
  go_enter Tryd.func81, Tryd.ntmps81
  go_upto_region 1 with (fail)
  generalize w.alloc (.cells #[.int .i64 n, .int .i64 s, .int .i64 a, .int .i64 b, .bool true, .string (text t), .int .i64 d, .int .i64 e] 50) = W1 at *
  have hcur := Below.refl W1.heap.size W1
  obtain ⟨c0, c1, c2, c3, c4, c5, c6, c7⟩ := HC.out _ hcur
  clear hp
  go_wp2_with (go_at_call 63; (with_reducible refine (HW.out _).mono ?_); rintro e9 w9 ⟨rfl, hb9⟩; (replace hcur := hcur.trans (hb9.mono hcur.size)); clear hb9; obtain ⟨c0, c1, c2, c3, c4, c5, c6, c7⟩ := HC.out _ hcur)
  go_ret
  exact ⟨rfl, HB.out.trans (hcur.mono HB.out.size)⟩

set_option maxRecDepth 100000 in
set_option maxHeartbeats 6400000 in
theorem lay_0 {w : World} (hT : TabW w) (n s a b : Int) (t : List UInt8) (d e : Int) (ht : t.length ≤ 6000) (hw : wroteS n s a b false t = false) (hz : zeroS d e = true) :
    Calls Tryd.prog 109 #[.agg #[.int .i64 n, .int .i64 s, .int .i64 a, .int .i64 b, .bool false, .string (text t), .int .i64 d, .int .i64 e]] w (BytesPost (layAt [] n s a b t d e false false true) w) := by
  have hp := Cel.new w n s a b false t d e
  have hb := alloc_below w (.cells #[.int .i64 n, .int .i64 s, .int .i64 a, .int .i64 b, .bool false, .string (text t), .int .i64 d, .int .i64 e] 50)
  have HB := Lib.hid hb
  have HC := Lib.hid (fun W (h : Below (w.alloc (.cells #[.int .i64 n, .int .i64 s, .int .i64 a, .int .i64 b, .bool false, .string (text t), .int .i64 d, .int .i64 e] 50)).heap.size (w.alloc (.cells #[.int .i64 n, .int .i64 s, .int .i64 a, .int .i64 b, .bool false, .string (text t), .int .i64 d, .int .i64 e] 50)) W) => (hp.kept h).cs)
  have hTb := hT.below hb
  have hW := fun W => written_c n s a b false t d e W
  rw [hw] at hW
  have hS := fun W => parts_0 n s a b t d e hw hz W
  have hEG := vec_eqg
  have hEQ := vec_neb d e 0 0 true (by rw [← hz]; unfold zeroS; rw [Bool.eq_iff_iff]; simp)
  have HW := Lib.hid hW
  have HS := Lib.hid hS
  obtain ⟨o1, h1⟩ : ∃ q, [] ++ numB 0 = q := ⟨_, rfl⟩
  have l1 : o1.length ≤ 0 + 8 := by rw [← h1, List.length_append]; have := numB_length 0; simp; omega
  have hv : layAt [] n s a b t d e false false true = o1 := by rw [← h1]; rfl
  rw [hv]
  have HPN := Lib.hid (fun W (h : Below (w.alloc (.cells #[.int .i64 n, .int .i64 s, .int .i64 a, .int .i64 b, .bool false, .string (text t), .int .i64 d, .int .i64 e] 50)).heap.size (w.alloc (.cells #[.int .i64 n, .int .i64 s, .int .i64 a, .int .i64 b, .bool false, .string (text t), .int .i64 d, .int .i64 e] 50)) W) => by have := put_c (show Bys W none 0 0 [] from ⟨rfl, Nat.le_refl _, by omega, .inl rfl⟩) (by omega) 0 (by omega) (by omega) (hTb.below h); rwa [h1] at this)
  clear hb hw hz hv hW hS hT hTb
  go_enter Tryd.func109, Tryd.ntmps109
  go_upto_region 1 with (fail)
  generalize (w.alloc (.cells #[.int .i64 n, .int .i64 s, .int .i64 a, .int .i64 b, .bool false, .string (text t), .int .i64 d, .int .i64 e] 50)) = W1 at *
  have hcur := Below.refl W1.heap.size W1
  obtain ⟨c0, c1, c2, c3, c4, c5, c6, c7⟩ := HC.out _ hcur
  have HBs := Lib.hid HB.out.size
  clear hp
  go_upto_region 2 with (first
    | (go_at_call 81; (with_reducible refine (HS.out _).mono ?_); rintro e9 w9 ⟨rfl, hb9⟩; (replace hcur := hcur.trans (hb9.mono hcur.size)); clear hb9; obtain ⟨c0, c1, c2, c3, c4, c5, c6, c7⟩ := HC.out _ hcur)
    | (go_at_call 108; (with_reducible refine (HPN.out _ hcur).mono ?_); rintro e9 w9 ⟨v1, rfl, ho1, hb9⟩; (have ho1 := ho1.mono (Nat.le_trans HBs.out hcur.size)); (replace hcur := hcur.trans (hb9.mono hcur.size)); clear hb9; obtain ⟨c0, c1, c2, c3, c4, c5, c6, c7⟩ := HC.out _ hcur))
  obtain ⟨a1, k1, rfl, hy1⟩ := ho1.bys
  have HO1 := Lib.hid ho1
  have HY1 := Lib.hid hy1
  clear ho1 hy1
  go_upto_region 6 with (go_at_call 63; (with_reducible refine (HW.out _).mono ?_); rintro e9 w8 ⟨rfl, hb8⟩)
  replace hcur := hcur.trans (hb8.mono hcur.size)
  have HO4 := Lib.hid (HO1.out.kept hb8)
  have HY4 := Lib.hid (HY1.out.below hb8)
  clear hb8
  obtain ⟨c0, c1, c2, c3, c4, c5, c6, c7⟩ := HC.out _ hcur
  go_wp2
  go_ret
  exact ⟨_, rfl, HO4.out, HB.out.trans (hcur.mono HB.out.size)⟩

set_option maxRecDepth 100000 in
set_option maxHeartbeats 6400000 in
theorem lay_4 {w : World} (hT : TabW w) (n s a b : Int) (t : List UInt8) (d e : Int) (ht : t.length ≤ 6000) (hw : wroteS n s a b false t = false) (hz : zeroS d e = false) :
    Calls Tryd.prog 109 #[.agg #[.int .i64 n, .int .i64 s, .int .i64 a, .int .i64 b, .bool false, .string (text t), .int .i64 d, .int .i64 e]] w (BytesPost (layAt [] n s a b t d e false false false) w) := by
  have hp := Cel.new w n s a b false t d e
  have hb := alloc_below w (.cells #[.int .i64 n, .int .i64 s, .int .i64 a, .int .i64 b, .bool false, .string (text t), .int .i64 d, .int .i64 e] 50)
  have HB := Lib.hid hb
  have HC := Lib.hid (fun W (h : Below (w.alloc (.cells #[.int .i64 n, .int .i64 s, .int .i64 a, .int .i64 b, .bool false, .string (text t), .int .i64 d, .int .i64 e] 50)).heap.size (w.alloc (.cells #[.int .i64 n, .int .i64 s, .int .i64 a, .int .i64 b, .bool false, .string (text t), .int .i64 d, .int .i64 e] 50)) W) => (hp.kept h).cs)
  have hTb := hT.below hb
  have hW := fun W => written_c n s a b false t d e W
  rw [hw] at hW
  have hS := fun W => parts_4 n s a b t d e hw hz W
  have hEG := vec_eqg
  have hEQ := vec_neb d e 0 0 false (by rw [← hz]; unfold zeroS; rw [Bool.eq_iff_iff]; simp)
  have HW := Lib.hid hW
  have HS := Lib.hid hS
  obtain ⟨o1, h1⟩ : ∃ q, [] ++ numB 4 = q := ⟨_, rfl⟩
  have l1 : o1.length ≤ 0 + 8 := by rw [← h1, List.length_append]; have := numB_length 4; simp; omega
  obtain ⟨o5, h5⟩ : ∃ q, vputS o1 d e = q := ⟨_, rfl⟩
  have hv : layAt [] n s a b t d e false false false = o5 := by rw [← h5, ← h1]; rfl
  rw [hv]
  have HPN := Lib.hid (fun W (h : Below (w.alloc (.cells #[.int .i64 n, .int .i64 s, .int .i64 a, .int .i64 b, .bool false, .string (text t), .int .i64 d, .int .i64 e] 50)).heap.size (w.alloc (.cells #[.int .i64 n, .int .i64 s, .int .i64 a, .int .i64 b, .bool false, .string (text t), .int .i64 d, .int .i64 e] 50)) W) => by have := put_c (show Bys W none 0 0 [] from ⟨rfl, Nat.le_refl _, by omega, .inl rfl⟩) (by omega) 4 (by omega) (by omega) (hTb.below h); rwa [h1] at this)
  have HPD := Lib.hid (fun (W : World) (a1 : Option Addr) (c1 : Nat) (h : Below (w.alloc (.cells #[.int .i64 n, .int .i64 s, .int .i64 a, .int .i64 b, .bool false, .string (text t), .int .i64 d, .int .i64 e] 50)).heap.size (w.alloc (.cells #[.int .i64 n, .int .i64 s, .int .i64 a, .int .i64 b, .bool false, .string (text t), .int .i64 d, .int .i64 e] 50)) W) (hy : Bys W a1 o1.length c1 o1) => by have := vput_c hy (by omega) (hTb.below h) d e; rwa [h5] at this)
  clear hb hw hz hv hW hS hT hTb
  go_enter Tryd.func109, Tryd.ntmps109
  go_upto_region 1 with (fail)
  generalize (w.alloc (.cells #[.int .i64 n, .int .i64 s, .int .i64 a, .int .i64 b, .bool false, .string (text t), .int .i64 d, .int .i64 e] 50)) = W1 at *
  have hcur := Below.refl W1.heap.size W1
  obtain ⟨c0, c1, c2, c3, c4, c5, c6, c7⟩ := HC.out _ hcur
  have HBs := Lib.hid HB.out.size
  clear hp
  go_upto_region 2 with (first
    | (go_at_call 81; (with_reducible refine (HS.out _).mono ?_); rintro e9 w9 ⟨rfl, hb9⟩; (replace hcur := hcur.trans (hb9.mono hcur.size)); clear hb9; obtain ⟨c0, c1, c2, c3, c4, c5, c6, c7⟩ := HC.out _ hcur)
    | (go_at_call 108; (with_reducible refine (HPN.out _ hcur).mono ?_); rintro e9 w9 ⟨v1, rfl, ho1, hb9⟩; (have ho1 := ho1.mono (Nat.le_trans HBs.out hcur.size)); (replace hcur := hcur.trans (hb9.mono hcur.size)); clear hb9; obtain ⟨c0, c1, c2, c3, c4, c5, c6, c7⟩ := HC.out _ hcur))
  obtain ⟨a1, k1, rfl, hy1⟩ := ho1.bys
  have HO1 := Lib.hid ho1
  have HY1 := Lib.hid hy1
  clear ho1 hy1
  go_upto_region 6 with (go_at_call 63; (with_reducible refine (HW.out _).mono ?_); rintro e9 w8 ⟨rfl, hb8⟩)
  replace hcur := hcur.trans (hb8.mono hcur.size)
  have HO4 := Lib.hid (HO1.out.kept hb8)
  have HY4 := Lib.hid (HY1.out.below hb8)
  clear hb8
  obtain ⟨c0, c1, c2, c3, c4, c5, c6, c7⟩ := HC.out _ hcur
  have HY5 := HY4
  go_wp2_with (go_at_call 118; (with_reducible refine (HPD.out _ _ _ hcur HY5.out).mono ?_); rintro e9 w9 ⟨v5, rfl, ho5, hb9⟩)
  go_ret
  exact ⟨_, rfl, ho5.mono (Nat.le_trans HBs.out hcur.size), HB.out.trans ((hcur.trans (hb9.mono hcur.size)).mono HB.out.size)⟩

set_option maxRecDepth 100000 in
set_option maxHeartbeats 6400000 in
theorem lay_1 {w : World} (hT : TabW w) (n s a b : Int) (t : List UInt8) (d e : Int) (ht : t.length ≤ 6000) (hw : wroteS n s a b false t = true) (hz : zeroS d e = true) :
    Calls Tryd.prog 109 #[.agg #[.int .i64 n, .int .i64 s, .int .i64 a, .int .i64 b, .bool false, .string (text t), .int .i64 d, .int .i64 e]] w (BytesPost (layAt [] n s a b t d e true false true) w) := by
  have hp := Cel.new w n s a b false t d e
  have hb := alloc_below w (.cells #[.int .i64 n, .int .i64 s, .int .i64 a, .int .i64 b, .bool false, .string (text t), .int .i64 d, .int .i64 e] 50)
  have HB := Lib.hid hb
  have HC := Lib.hid (fun W (h : Below (w.alloc (.cells #[.int .i64 n, .int .i64 s, .int .i64 a, .int .i64 b, .bool false, .string (text t), .int .i64 d, .int .i64 e] 50)).heap.size (w.alloc (.cells #[.int .i64 n, .int .i64 s, .int .i64 a, .int .i64 b, .bool false, .string (text t), .int .i64 d, .int .i64 e] 50)) W) => (hp.kept h).cs)
  have hTb := hT.below hb
  have hW := fun W => written_c n s a b false t d e W
  rw [hw] at hW
  have hS := fun W => parts_1 n s a b t d e hw hz W
  have hEG := vec_eqg
  have hEQ := vec_neb d e 0 0 true (by rw [← hz]; unfold zeroS; rw [Bool.eq_iff_iff]; simp)
  have HW := Lib.hid hW
  have HS := Lib.hid hS
  obtain ⟨o1, h1⟩ : ∃ q, [] ++ numB 1 = q := ⟨_, rfl⟩
  have l1 : o1.length ≤ 0 + 8 := by rw [← h1, List.length_append]; have := numB_length 1; simp; omega
  obtain ⟨o2, h2⟩ : ∃ q, sputS o1 n s = q := ⟨_, rfl⟩
  obtain ⟨o3, h3⟩ : ∃ q, vputS o2 a b = q := ⟨_, rfl⟩
  have l2 : o2.length ≤ o1.length + 8 := by rw [← h2]; exact sput_le _ _ _
  have l3 : o3.length ≤ o2.length + 16 := by rw [← h3]; exact vput_le _ _ _
  obtain ⟨o4, h4⟩ : ∃ q, putTextS o3 t = q := ⟨_, rfl⟩
  have l4 : o4.length ≤ o3.length + 8 + t.length := by rw [← h4]; exact putText_le _ _
  have hv : layAt [] n s a b t d e true false true = o4 := by rw [← h4, ← h3, ← h2, ← h1]; rfl
  rw [hv]
  have HPN := Lib.hid (fun W (h : Below (w.alloc (.cells #[.int .i64 n, .int .i64 s, .int .i64 a, .int .i64 b, .bool false, .string (text t), .int .i64 d, .int .i64 e] 50)).heap.size (w.alloc (.cells #[.int .i64 n, .int .i64 s, .int .i64 a, .int .i64 b, .bool false, .string (text t), .int .i64 d, .int .i64 e] 50)) W) => by have := put_c (show Bys W none 0 0 [] from ⟨rfl, Nat.le_refl _, by omega, .inl rfl⟩) (by omega) 1 (by omega) (by omega) (hTb.below h); rwa [h1] at this)
  have HPS := Lib.hid (fun (W : World) (a1 : Option Addr) (c1 : Nat) (h : Below (w.alloc (.cells #[.int .i64 n, .int .i64 s, .int .i64 a, .int .i64 b, .bool false, .string (text t), .int .i64 d, .int .i64 e] 50)).heap.size (w.alloc (.cells #[.int .i64 n, .int .i64 s, .int .i64 a, .int .i64 b, .bool false, .string (text t), .int .i64 d, .int .i64 e] 50)) W) (hy : Bys W a1 o1.length c1 o1) => by have := sput_c hy (by omega) (hTb.below h) n s; rwa [h2] at this)
  have HPV := Lib.hid (fun (W : World) (a1 : Option Addr) (c1 : Nat) (h : Below (w.alloc (.cells #[.int .i64 n, .int .i64 s, .int .i64 a, .int .i64 b, .bool false, .string (text t), .int .i64 d, .int .i64 e] 50)).heap.size (w.alloc (.cells #[.int .i64 n, .int .i64 s, .int .i64 a, .int .i64 b, .bool false, .string (text t), .int .i64 d, .int .i64 e] 50)) W) (hy : Bys W a1 o2.length c1 o2) => by have := vput_c hy (by omega) (hTb.below h) a b; rwa [h3] at this)
  have HPT := Lib.hid (fun (W : World) (a1 : Option Addr) (c1 : Nat) (h : Below (w.alloc (.cells #[.int .i64 n, .int .i64 s, .int .i64 a, .int .i64 b, .bool false, .string (text t), .int .i64 d, .int .i64 e] 50)).heap.size (w.alloc (.cells #[.int .i64 n, .int .i64 s, .int .i64 a, .int .i64 b, .bool false, .string (text t), .int .i64 d, .int .i64 e] 50)) W) (hy : Bys W a1 o3.length c1 o3) => by have := puttext_c hy (text t) (by omega) (by rw [text_size]; omega) (hTb.below h); rwa [text_back, h4] at this)
  clear hb hw hz hv hW hS hT hTb
  go_enter Tryd.func109, Tryd.ntmps109
  go_upto_region 1 with (fail)
  generalize (w.alloc (.cells #[.int .i64 n, .int .i64 s, .int .i64 a, .int .i64 b, .bool false, .string (text t), .int .i64 d, .int .i64 e] 50)) = W1 at *
  have hcur := Below.refl W1.heap.size W1
  obtain ⟨c0, c1, c2, c3, c4, c5, c6, c7⟩ := HC.out _ hcur
  have HBs := Lib.hid HB.out.size
  clear hp
  go_upto_region 2 with (first
    | (go_at_call 81; (with_reducible refine (HS.out _).mono ?_); rintro e9 w9 ⟨rfl, hb9⟩; (replace hcur := hcur.trans (hb9.mono hcur.size)); clear hb9; obtain ⟨c0, c1, c2, c3, c4, c5, c6, c7⟩ := HC.out _ hcur)
    | (go_at_call 108; (with_reducible refine (HPN.out _ hcur).mono ?_); rintro e9 w9 ⟨v1, rfl, ho1, hb9⟩; (have ho1 := ho1.mono (Nat.le_trans HBs.out hcur.size)); (replace hcur := hcur.trans (hb9.mono hcur.size)); clear hb9; obtain ⟨c0, c1, c2, c3, c4, c5, c6, c7⟩ := HC.out _ hcur))
  obtain ⟨a1, k1, rfl, hy1⟩ := ho1.bys
  have HO1 := Lib.hid ho1
  have HY1 := Lib.hid hy1
  clear ho1 hy1
  go_upto_region 3 with (go_at_call 63; (with_reducible refine (HW.out _).mono ?_); rintro e9 w8 ⟨rfl, hb8⟩)
  replace hcur := hcur.trans (hb8.mono hcur.size)
  have HY2 := Lib.hid (HY1.out.below hb8)
  have HCU := Lib.hid hcur
  clear hb8 HY1 HO1 c0 c1 c2 c3 c4 c5 c6 c7
  refine wp_region_flow_tail 7 [none, none, none, none, none, none, none, none, none, some 0, some 1, some 2, some 3, some 4, some 5, some 6, none, none, none, none, none, none, none, none, none, none, none, none, none, none, none, none] (fun i => [undef, undef, undef, undef, undef, undef, undef].getD i undef) [(fun v _ => v = .slice a1 o1.length k1), (fun v _ => v = .pointer (some ⟨w.heap.size, 0, none⟩)), (fun v _ => v = .agg #[.int .i64 n, .int .i64 s]), (fun v W => OwnB W w.heap.size 5 v o2), (fun v _ => v = .pointer (some ⟨w.heap.size, 2, none⟩)), (fun v _ => v = .agg #[.int .i64 a, .int .i64 b]), (fun v W => OwnB W w.heap.size 5 v o3)] (fun _ => False) (by kernel_rfl) (by kernel_rfl) (by kernel_rfl) rfl rfl rfl ?_ ?_ ?_
  · intro g hg v X Y hX hY hv
    simp only [List.mem_cons, List.not_mem_nil, or_false] at hg
    rcases hg with rfl | rfl | rfl | rfl | rfl | rfl | rfl
    all_goals first
      | exact hv
      | exact hv.kept hY
  · simp only [flowOpsF, List.take_succ_cons, List.take_zero, and_true]
    refine ⟨?_, ?_, ?_, ?_, ?_, ?_, ?_⟩
    · intro xs W hW hn
      simp only [flowAct, List.zipWith_cons_cons, List.zipWith_nil_left]
      go_wp2_with (fail)
      exact ⟨rfl, _, rfl, Below.refl _ _, rfl, fun h => h.elim⟩
    · intro xs W hW hn
      simp only [flowAct, List.zipWith_cons_cons, List.zipWith_nil_left]
      go_wp2_with (fail)
      exact ⟨rfl, _, rfl, Below.refl _ _, rfl, fun h => h.elim⟩
    · intro xs W hW hn
      obtain ⟨c0, c1, c2, c3, c4, c5, c6, c7⟩ := HC.out _ (HCU.out.trans (hW.mono HCU.out.size))
      simp [flowNeeds, Region.binds] at hn
      simp only [flowAct, List.zipWith_cons_cons, List.zipWith_nil_left]
      try simp only [hn]
      go_wp2_with (fail)
      exact ⟨rfl, _, rfl, Below.refl _ _, rfl, fun h => h.elim⟩
    · intro xs W hW hn
      simp [flowNeeds, Region.binds] at hn
      simp only [flowAct, List.zipWith_cons_cons, List.zipWith_nil_left]
      simp only [hn]
      go_wp2_with (go_at_call 119; (with_reducible refine (HPS.out _ _ _ (HCU.out.trans (hW.mono HCU.out.size)) (HY2.out.below hW)).mono ?_); rintro e9 w9 ⟨v, rfl, ho, hb9⟩)
      exact ⟨rfl, _, rfl, hb9, ho.mono (Nat.le_trans HBs.out (Nat.le_trans HCU.out.size hW.size)), fun h => h.elim⟩
    · intro xs W hW hn
      simp only [flowAct, List.zipWith_cons_cons, List.zipWith_nil_left]
      go_wp2_with (fail)
      exact ⟨rfl, _, rfl, Below.refl _ _, rfl, fun h => h.elim⟩
    · intro xs W hW hn
      obtain ⟨c0, c1, c2, c3, c4, c5, c6, c7⟩ := HC.out _ (HCU.out.trans (hW.mono HCU.out.size))
      simp [flowNeeds, Region.binds] at hn
      simp only [flowAct, List.zipWith_cons_cons, List.zipWith_nil_left]
      try simp only [hn]
      go_wp2_with (fail)
      exact ⟨rfl, _, rfl, Below.refl _ _, rfl, fun h => h.elim⟩
    · intro xs W hW hn
      simp [flowNeeds, Region.binds] at hn
      simp only [flowAct, List.zipWith_cons_cons, List.zipWith_nil_left]
      obtain ⟨ho3, e5⟩ := hn
      obtain ⟨a2, k2, e3, hy3⟩ := ho3.bys
      simp only [e3, e5]
      go_wp2_with (go_at_call 118; (with_reducible refine (HPV.out _ _ _ (HCU.out.trans (hW.mono HCU.out.size)) hy3).mono ?_); rintro e9 w9 ⟨v, rfl, ho, hb9⟩)
      exact ⟨rfl, _, rfl, hb9, ho.mono (Nat.le_trans HBs.out (Nat.le_trans HCU.out.size hW.size)), fun h => h.elim⟩
  · intro xs W hW hall hfr
    clear hfr
    simp only [flowAll, and_true, Nat.zero_add, Nat.reduceAdd] at hall
    obtain ⟨-, -, -, -, -, -, e6⟩ := hall
    simp only [flowAct, List.zipWith_cons_cons, List.zipWith_nil_left, List.drop_succ_cons, List.drop_zero]
    obtain ⟨a3, k3, e3, hy3⟩ := e6.bys
    simp only [e3]
    rw [e3] at e6
    have HO3 := Lib.hid e6
    have HY3 := Lib.hid hy3
    replace hcur := HCU.out.trans (hW.mono HCU.out.size)
    obtain ⟨c0, c1, c2, c3, c4, c5, c6, c7⟩ := HC.out _ hcur
    clear e3 e6 hy3
    go_upto_region 6 with (go_at_call 84; (with_reducible refine (HPT.out _ _ _ hcur HY3.out).mono ?_); rintro e9 w9 ⟨v4, rfl, ho4, hb9⟩; (have ho4 := ho4.mono (Nat.le_trans HBs.out hcur.size)); (replace hcur := hcur.trans (hb9.mono hcur.size)); clear hb9; obtain ⟨c0, c1, c2, c3, c4, c5, c6, c7⟩ := HC.out _ hcur)
    obtain ⟨a4, k4, rfl, hy4⟩ := ho4.bys
    have HO4 := Lib.hid ho4
    have HY4 := Lib.hid hy4
    clear ho4 hy4
    go_wp2
    go_ret
    exact ⟨_, rfl, HO4.out, HB.out.trans (hcur.mono HB.out.size)⟩

set_option maxRecDepth 100000 in
set_option maxHeartbeats 6400000 in
theorem lay_3 {w : World} (hT : TabW w) (n s a b : Int) (t : List UInt8) (d e : Int) (ht : t.length ≤ 6000) (hw : wroteS n s a b true t = true) (hz : zeroS d e = true) :
    Calls Tryd.prog 109 #[.agg #[.int .i64 n, .int .i64 s, .int .i64 a, .int .i64 b, .bool true, .string (text t), .int .i64 d, .int .i64 e]] w (BytesPost (layAt [] n s a b t d e true true true) w) := by
  have hp := Cel.new w n s a b true t d e
  have hb := alloc_below w (.cells #[.int .i64 n, .int .i64 s, .int .i64 a, .int .i64 b, .bool true, .string (text t), .int .i64 d, .int .i64 e] 50)
  have HB := Lib.hid hb
  have HC := Lib.hid (fun W (h : Below (w.alloc (.cells #[.int .i64 n, .int .i64 s, .int .i64 a, .int .i64 b, .bool true, .string (text t), .int .i64 d, .int .i64 e] 50)).heap.size (w.alloc (.cells #[.int .i64 n, .int .i64 s, .int .i64 a, .int .i64 b, .bool true, .string (text t), .int .i64 d, .int .i64 e] 50)) W) => (hp.kept h).cs)
  have hTb := hT.below hb
  have hW := fun W => written_c n s a b true t d e W
  rw [hw] at hW
  have hS := fun W => parts_3 n s a b t d e hw hz W
  have hEG := vec_eqg
  have hEQ := vec_neb d e 0 0 true (by rw [← hz]; unfold zeroS; rw [Bool.eq_iff_iff]; simp)
  have HW := Lib.hid hW
  have HS := Lib.hid hS
  obtain ⟨o1, h1⟩ : ∃ q, [] ++ numB 3 = q := ⟨_, rfl⟩
  have l1 : o1.length ≤ 0 + 8 := by rw [← h1, List.length_append]; have := numB_length 3; simp; omega
  obtain ⟨o2, h2⟩ : ∃ q, sputS o1 n s = q := ⟨_, rfl⟩
  obtain ⟨o3, h3⟩ : ∃ q, vputS o2 a b = q := ⟨_, rfl⟩
  have l2 : o2.length ≤ o1.length + 8 := by rw [← h2]; exact sput_le _ _ _
  have l3 : o3.length ≤ o2.length + 16 := by rw [← h3]; exact vput_le _ _ _
  have hv : layAt [] n s a b t d e true true true = o3 := by rw [← h3, ← h2, ← h1]; rfl
  rw [hv]
  have HPN := Lib.hid (fun W (h : Below (w.alloc (.cells #[.int .i64 n, .int .i64 s, .int .i64 a, .int .i64 b, .bool true, .string (text t), .int .i64 d, .int .i64 e] 50)).heap.size (w.alloc (.cells #[.int .i64 n, .int .i64 s, .int .i64 a, .int .i64 b, .bool true, .string (text t), .int .i64 d, .int .i64 e] 50)) W) => by have := put_c (show Bys W none 0 0 [] from ⟨rfl, Nat.le_refl _, by omega, .inl rfl⟩) (by omega) 3 (by omega) (by omega) (hTb.below h); rwa [h1] at this)
  have HPS := Lib.hid (fun (W : World) (a1 : Option Addr) (c1 : Nat) (h : Below (w.alloc (.cells #[.int .i64 n, .int .i64 s, .int .i64 a, .int .i64 b, .bool true, .string (text t), .int .i64 d, .int .i64 e] 50)).heap.size (w.alloc (.cells #[.int .i64 n, .int .i64 s, .int .i64 a, .int .i64 b, .bool true, .string (text t), .int .i64 d, .int .i64 e] 50)) W) (hy : Bys W a1 o1.length c1 o1) => by have := sput_c hy (by omega) (hTb.below h) n s; rwa [h2] at this)
  have HPV := Lib.hid (fun (W : World) (a1 : Option Addr) (c1 : Nat) (h : Below (w.alloc (.cells #[.int .i64 n, .int .i64 s, .int .i64 a, .int .i64 b, .bool true, .string (text t), .int .i64 d, .int .i64 e] 50)).heap.size (w.alloc (.cells #[.int .i64 n, .int .i64 s, .int .i64 a, .int .i64 b, .bool true, .string (text t), .int .i64 d, .int .i64 e] 50)) W) (hy : Bys W a1 o2.length c1 o2) => by have := vput_c hy (by omega) (hTb.below h) a b; rwa [h3] at this)
  clear hb hw hz hv hW hS hT hTb
  go_enter Tryd.func109, Tryd.ntmps109
  go_upto_region 1 with (fail)
  generalize (w.alloc (.cells #[.int .i64 n, .int .i64 s, .int .i64 a, .int .i64 b, .bool true, .string (text t), .int .i64 d, .int .i64 e] 50)) = W1 at *
  have hcur := Below.refl W1.heap.size W1
  obtain ⟨c0, c1, c2, c3, c4, c5, c6, c7⟩ := HC.out _ hcur
  have HBs := Lib.hid HB.out.size
  clear hp
  go_upto_region 2 with (first
    | (go_at_call 81; (with_reducible refine (HS.out _).mono ?_); rintro e9 w9 ⟨rfl, hb9⟩; (replace hcur := hcur.trans (hb9.mono hcur.size)); clear hb9; obtain ⟨c0, c1, c2, c3, c4, c5, c6, c7⟩ := HC.out _ hcur)
    | (go_at_call 108; (with_reducible refine (HPN.out _ hcur).mono ?_); rintro e9 w9 ⟨v1, rfl, ho1, hb9⟩; (have ho1 := ho1.mono (Nat.le_trans HBs.out hcur.size)); (replace hcur := hcur.trans (hb9.mono hcur.size)); clear hb9; obtain ⟨c0, c1, c2, c3, c4, c5, c6, c7⟩ := HC.out _ hcur))
  obtain ⟨a1, k1, rfl, hy1⟩ := ho1.bys
  have HO1 := Lib.hid ho1
  have HY1 := Lib.hid hy1
  clear ho1 hy1
  go_upto_region 3 with (go_at_call 63; (with_reducible refine (HW.out _).mono ?_); rintro e9 w8 ⟨rfl, hb8⟩)
  replace hcur := hcur.trans (hb8.mono hcur.size)
  have HY2 := Lib.hid (HY1.out.below hb8)
  have HCU := Lib.hid hcur
  clear hb8 HY1 HO1 c0 c1 c2 c3 c4 c5 c6 c7
  refine wp_region_flow_tail 7 [none, none, none, none, none, none, none, none, none, some 0, some 1, some 2, some 3, some 4, some 5, some 6, none, none, none, none, none, none, none, none, none, none, none, none, none, none, none, none] (fun i => [undef, undef, undef, undef, undef, undef, undef].getD i undef) [(fun v _ => v = .slice a1 o1.length k1), (fun v _ => v = .pointer (some ⟨w.heap.size, 0, none⟩)), (fun v _ => v = .agg #[.int .i64 n, .int .i64 s]), (fun v W => OwnB W w.heap.size 5 v o2), (fun v _ => v = .pointer (some ⟨w.heap.size, 2, none⟩)), (fun v _ => v = .agg #[.int .i64 a, .int .i64 b]), (fun v W => OwnB W w.heap.size 5 v o3)] (fun _ => False) (by kernel_rfl) (by kernel_rfl) (by kernel_rfl) rfl rfl rfl ?_ ?_ ?_
  · intro g hg v X Y hX hY hv
    simp only [List.mem_cons, List.not_mem_nil, or_false] at hg
    rcases hg with rfl | rfl | rfl | rfl | rfl | rfl | rfl
    all_goals first
      | exact hv
      | exact hv.kept hY
  · simp only [flowOpsF, List.take_succ_cons, List.take_zero, and_true]
    refine ⟨?_, ?_, ?_, ?_, ?_, ?_, ?_⟩
    · intro xs W hW hn
      simp only [flowAct, List.zipWith_cons_cons, List.zipWith_nil_left]
      go_wp2_with (fail)
      exact ⟨rfl, _, rfl, Below.refl _ _, rfl, fun h => h.elim⟩
    · intro xs W hW hn
      simp only [flowAct, List.zipWith_cons_cons, List.zipWith_nil_left]
      go_wp2_with (fail)
      exact ⟨rfl, _, rfl, Below.refl _ _, rfl, fun h => h.elim⟩
    · intro xs W hW hn
      obtain ⟨c0, c1, c2, c3, c4, c5, c6, c7⟩ := HC.out _ (HCU.out.trans (hW.mono HCU.out.size))
      simp [flowNeeds, Region.binds] at hn
      simp only [flowAct, List.zipWith_cons_cons, List.zipWith_nil_left]
      try simp only [hn]
      go_wp2_with (fail)
      exact ⟨rfl, _, rfl, Below.refl _ _, rfl, fun h => h.elim⟩
    · intro xs W hW hn
      simp [flowNeeds, Region.binds] at hn
      simp only [flowAct, List.zipWith_cons_cons, List.zipWith_nil_left]
      simp only [hn]
      go_wp2_with (go_at_call 119; (with_reducible refine (HPS.out _ _ _ (HCU.out.trans (hW.mono HCU.out.size)) (HY2.out.below hW)).mono ?_); rintro e9 w9 ⟨v, rfl, ho, hb9⟩)
      exact ⟨rfl, _, rfl, hb9, ho.mono (Nat.le_trans HBs.out (Nat.le_trans HCU.out.size hW.size)), fun h => h.elim⟩
    · intro xs W hW hn
      simp only [flowAct, List.zipWith_cons_cons, List.zipWith_nil_left]
      go_wp2_with (fail)
      exact ⟨rfl, _, rfl, Below.refl _ _, rfl, fun h => h.elim⟩
    · intro xs W hW hn
      obtain ⟨c0, c1, c2, c3, c4, c5, c6, c7⟩ := HC.out _ (HCU.out.trans (hW.mono HCU.out.size))
      simp [flowNeeds, Region.binds] at hn
      simp only [flowAct, List.zipWith_cons_cons, List.zipWith_nil_left]
      try simp only [hn]
      go_wp2_with (fail)
      exact ⟨rfl, _, rfl, Below.refl _ _, rfl, fun h => h.elim⟩
    · intro xs W hW hn
      simp [flowNeeds, Region.binds] at hn
      simp only [flowAct, List.zipWith_cons_cons, List.zipWith_nil_left]
      obtain ⟨ho3, e5⟩ := hn
      obtain ⟨a2, k2, e3, hy3⟩ := ho3.bys
      simp only [e3, e5]
      go_wp2_with (go_at_call 118; (with_reducible refine (HPV.out _ _ _ (HCU.out.trans (hW.mono HCU.out.size)) hy3).mono ?_); rintro e9 w9 ⟨v, rfl, ho, hb9⟩)
      exact ⟨rfl, _, rfl, hb9, ho.mono (Nat.le_trans HBs.out (Nat.le_trans HCU.out.size hW.size)), fun h => h.elim⟩
  · intro xs W hW hall hfr
    clear hfr
    simp only [flowAll, and_true, Nat.zero_add, Nat.reduceAdd] at hall
    obtain ⟨-, -, -, -, -, -, e6⟩ := hall
    simp only [flowAct, List.zipWith_cons_cons, List.zipWith_nil_left, List.drop_succ_cons, List.drop_zero]
    obtain ⟨a3, k3, e3, hy3⟩ := e6.bys
    simp only [e3]
    rw [e3] at e6
    have HO3 := Lib.hid e6
    have HY3 := Lib.hid hy3
    replace hcur := HCU.out.trans (hW.mono HCU.out.size)
    obtain ⟨c0, c1, c2, c3, c4, c5, c6, c7⟩ := HC.out _ hcur
    clear e3 e6 hy3
    go_upto_region 6 with (fail)
    have HO4 := HO3
    have HY4 := HY3
    go_wp2
    go_ret
    exact ⟨_, rfl, HO4.out, HB.out.trans (hcur.mono HB.out.size)⟩

set_option maxRecDepth 100000 in
set_option maxHeartbeats 6400000 in
theorem lay_5 {w : World} (hT : TabW w) (n s a b : Int) (t : List UInt8) (d e : Int) (ht : t.length ≤ 6000) (hw : wroteS n s a b false t = true) (hz : zeroS d e = false) :
    Calls Tryd.prog 109 #[.agg #[.int .i64 n, .int .i64 s, .int .i64 a, .int .i64 b, .bool false, .string (text t), .int .i64 d, .int .i64 e]] w (BytesPost (layAt [] n s a b t d e true false false) w) := by
  have hp := Cel.new w n s a b false t d e
  have hb := alloc_below w (.cells #[.int .i64 n, .int .i64 s, .int .i64 a, .int .i64 b, .bool false, .string (text t), .int .i64 d, .int .i64 e] 50)
  have HB := Lib.hid hb
  have HC := Lib.hid (fun W (h : Below (w.alloc (.cells #[.int .i64 n, .int .i64 s, .int .i64 a, .int .i64 b, .bool false, .string (text t), .int .i64 d, .int .i64 e] 50)).heap.size (w.alloc (.cells #[.int .i64 n, .int .i64 s, .int .i64 a, .int .i64 b, .bool false, .string (text t), .int .i64 d, .int .i64 e] 50)) W) => (hp.kept h).cs)
  have hTb := hT.below hb
  have hW := fun W => written_c n s a b false t d e W
  rw [hw] at hW
  have hS := fun W => parts_5 n s a b t d e hw hz W
  have hEG := vec_eqg
  have hEQ := vec_neb d e 0 0 false (by rw [← hz]; unfold zeroS; rw [Bool.eq_iff_iff]; simp)
  have HW := Lib.hid hW
  have HS := Lib.hid hS
  obtain ⟨o1, h1⟩ : ∃ q, [] ++ numB 5 = q := ⟨_, rfl⟩
  have l1 : o1.length ≤ 0 + 8 := by rw [← h1, List.length_append]; have := numB_length 5; simp; omega
  obtain ⟨o2, h2⟩ : ∃ q, sputS o1 n s = q := ⟨_, rfl⟩
  obtain ⟨o3, h3⟩ : ∃ q, vputS o2 a b = q := ⟨_, rfl⟩
  have l2 : o2.length ≤ o1.length + 8 := by rw [← h2]; exact sput_le _ _ _
  have l3 : o3.length ≤ o2.length + 16 := by rw [← h3]; exact vput_le _ _ _
  obtain ⟨o4, h4⟩ : ∃ q, putTextS o3 t = q := ⟨_, rfl⟩
  have l4 : o4.length ≤ o3.length + 8 + t.length := by rw [← h4]; exact putText_le _ _
  obtain ⟨o5, h5⟩ : ∃ q, vputS o4 d e = q := ⟨_, rfl⟩
  have hv : layAt [] n s a b t d e true false false = o5 := by rw [← h5, ← h4, ← h3, ← h2, ← h1]; rfl
  rw [hv]
  have HPN := Lib.hid (fun W (h : Below (w.alloc (.cells #[.int .i64 n, .int .i64 s, .int .i64 a, .int .i64 b, .bool false, .string (text t), .int .i64 d, .int .i64 e] 50)).heap.size (w.alloc (.cells #[.int .i64 n, .int .i64 s, .int .i64 a, .int .i64 b, .bool false, .string (text t), .int .i64 d, .int .i64 e] 50)) W) => by have := put_c (show Bys W none 0 0 [] from ⟨rfl, Nat.le_refl _, by omega, .inl rfl⟩) (by omega) 5 (by omega) (by omega) (hTb.below h); rwa [h1] at this)
  have HPS := Lib.hid (fun (W : World) (a1 : Option Addr) (c1 : Nat) (h : Below (w.alloc (.cells #[.int .i64 n, .int .i64 s, .int .i64 a, .int .i64 b, .bool false, .string (text t), .int .i64 d, .int .i64 e] 50)).heap.size (w.alloc (.cells #[.int .i64 n, .int .i64 s, .int .i64 a, .int .i64 b, .bool false, .string (text t), .int .i64 d, .int .i64 e] 50)) W) (hy : Bys W a1 o1.length c1 o1) => by have := sput_c hy (by omega) (hTb.below h) n s; rwa [h2] at this)
  have HPV := Lib.hid (fun (W : World) (a1 : Option Addr) (c1 : Nat) (h : Below (w.alloc (.cells #[.int .i64 n, .int .i64 s, .int .i64 a, .int .i64 b, .bool false, .string (text t), .int .i64 d, .int .i64 e] 50)).heap.size (w.alloc (.cells #[.int .i64 n, .int .i64 s, .int .i64 a, .int .i64 b, .bool false, .string (text t), .int .i64 d, .int .i64 e] 50)) W) (hy : Bys W a1 o2.length c1 o2) => by have := vput_c hy (by omega) (hTb.below h) a b; rwa [h3] at this)
  have HPT := Lib.hid (fun (W : World) (a1 : Option Addr) (c1 : Nat) (h : Below (w.alloc (.cells #[.int .i64 n, .int .i64 s, .int .i64 a, .int .i64 b, .bool false, .string (text t), .int .i64 d, .int .i64 e] 50)).heap.size (w.alloc (.cells #[.int .i64 n, .int .i64 s, .int .i64 a, .int .i64 b, .bool false, .string (text t), .int .i64 d, .int .i64 e] 50)) W) (hy : Bys W a1 o3.length c1 o3) => by have := puttext_c hy (text t) (by omega) (by rw [text_size]; omega) (hTb.below h); rwa [text_back, h4] at this)
  have HPD := Lib.hid (fun (W : World) (a1 : Option Addr) (c1 : Nat) (h : Below (w.alloc (.cells #[.int .i64 n, .int .i64 s, .int .i64 a, .int .i64 b, .bool false, .string (text t), .int .i64 d, .int .i64 e] 50)).heap.size (w.alloc (.cells #[.int .i64 n, .int .i64 s, .int .i64 a, .int .i64 b, .bool false, .string (text t), .int .i64 d, .int .i64 e] 50)) W) (hy : Bys W a1 o4.length c1 o4) => by have := vput_c hy (by omega) (hTb.below h) d e; rwa [h5] at this)
  clear hb hw hz hv hW hS hT hTb
  go_enter Tryd.func109, Tryd.ntmps109
  go_upto_region 1 with (fail)
  generalize (w.alloc (.cells #[.int .i64 n, .int .i64 s, .int .i64 a, .int .i64 b, .bool false, .string (text t), .int .i64 d, .int .i64 e] 50)) = W1 at *
  have hcur := Below.refl W1.heap.size W1
  obtain ⟨c0, c1, c2, c3, c4, c5, c6, c7⟩ := HC.out _ hcur
  have HBs := Lib.hid HB.out.size
  clear hp
  go_upto_region 2 with (first
    | (go_at_call 81; (with_reducible refine (HS.out _).mono ?_); rintro e9 w9 ⟨rfl, hb9⟩; (replace hcur := hcur.trans (hb9.mono hcur.size)); clear hb9; obtain ⟨c0, c1, c2, c3, c4, c5, c6, c7⟩ := HC.out _ hcur)
    | (go_at_call 108; (with_reducible refine (HPN.out _ hcur).mono ?_); rintro e9 w9 ⟨v1, rfl, ho1, hb9⟩; (have ho1 := ho1.mono (Nat.le_trans HBs.out hcur.size)); (replace hcur := hcur.trans (hb9.mono hcur.size)); clear hb9; obtain ⟨c0, c1, c2, c3, c4, c5, c6, c7⟩ := HC.out _ hcur))
  obtain ⟨a1, k1, rfl, hy1⟩ := ho1.bys
  have HO1 := Lib.hid ho1
  have HY1 := Lib.hid hy1
  clear ho1 hy1
  go_upto_region 3 with (go_at_call 63; (with_reducible refine (HW.out _).mono ?_); rintro e9 w8 ⟨rfl, hb8⟩)
  replace hcur := hcur.trans (hb8.mono hcur.size)
  have HY2 := Lib.hid (HY1.out.below hb8)
  have HCU := Lib.hid hcur
  clear hb8 HY1 HO1 c0 c1 c2 c3 c4 c5 c6 c7
  refine wp_region_flow_tail 7 [none, none, none, none, none, none, none, none, none, some 0, some 1, some 2, some 3, some 4, some 5, some 6, none, none, none, none, none, none, none, none, none, none, none, none, none, none, none, none] (fun i => [undef, undef, undef, undef, undef, undef, undef].getD i undef) [(fun v _ => v = .slice a1 o1.length k1), (fun v _ => v = .pointer (some ⟨w.heap.size, 0, none⟩)), (fun v _ => v = .agg #[.int .i64 n, .int .i64 s]), (fun v W => OwnB W w.heap.size 5 v o2), (fun v _ => v = .pointer (some ⟨w.heap.size, 2, none⟩)), (fun v _ => v = .agg #[.int .i64 a, .int .i64 b]), (fun v W => OwnB W w.heap.size 5 v o3)] (fun _ => False) (by kernel_rfl) (by kernel_rfl) (by kernel_rfl) rfl rfl rfl ?_ ?_ ?_
  · intro g hg v X Y hX hY hv
    simp only [List.mem_cons, List.not_mem_nil, or_false] at hg
    rcases hg with rfl | rfl | rfl | rfl | rfl | rfl | rfl
    all_goals first
      | exact hv
      | exact hv.kept hY
  · simp only [flowOpsF, List.take_succ_cons, List.take_zero, and_true]
    refine ⟨?_, ?_, ?_, ?_, ?_, ?_, ?_⟩
    · intro xs W hW hn
      simp only [flowAct, List.zipWith_cons_cons, List.zipWith_nil_left]
      go_wp2_with (fail)
      exact ⟨rfl, _, rfl, Below.refl _ _, rfl, fun h => h.elim⟩
    · intro xs W hW hn
      simp only [flowAct, List.zipWith_cons_cons, List.zipWith_nil_left]
      go_wp2_with (fail)
      exact ⟨rfl, _, rfl, Below.refl _ _, rfl, fun h => h.elim⟩
    · intro xs W hW hn
      obtain ⟨c0, c1, c2, c3, c4, c5, c6, c7⟩ := HC.out _ (HCU.out.trans (hW.mono HCU.out.size))
      simp [flowNeeds, Region.binds] at hn
      simp only [flowAct, List.zipWith_cons_cons, List.zipWith_nil_left]
      try simp only [hn]
      go_wp2_with (fail)
      exact ⟨rfl, _, rfl, Below.refl _ _, rfl, fun h => h.elim⟩
    · intro xs W hW hn
      simp [flowNeeds, Region.binds] at hn
      simp only [flowAct, List.zipWith_cons_cons, List.zipWith_nil_left]
      simp only [hn]
      go_wp2_with (go_at_call 119; (with_reducible refine (HPS.out _ _ _ (HCU.out.trans (hW.mono HCU.out.size)) (HY2.out.below hW)).mono ?_); rintro e9 w9 ⟨v, rfl, ho, hb9⟩)
      exact ⟨rfl, _, rfl, hb9, ho.mono (Nat.le_trans HBs.out (Nat.le_trans HCU.out.size hW.size)), fun h => h.elim⟩
    · intro xs W hW hn
      simp only [flowAct, List.zipWith_cons_cons, List.zipWith_nil_left]
      go_wp2_with (fail)
      exact ⟨rfl, _, rfl, Below.refl _ _, rfl, fun h => h.elim⟩
    · intro xs W hW hn
      obtain ⟨c0, c1, c2, c3, c4, c5, c6, c7⟩ := HC.out _ (HCU.out.trans (hW.mono HCU.out.size))
      simp [flowNeeds, Region.binds] at hn
      simp only [flowAct, List.zipWith_cons_cons, List.zipWith_nil_left]
      try simp only [hn]
      go_wp2_with (fail)
      exact ⟨rfl, _, rfl, Below.refl _ _, rfl, fun h => h.elim⟩
    · intro xs W hW hn
      simp [flowNeeds, Region.binds] at hn
      simp only [flowAct, List.zipWith_cons_cons, List.zipWith_nil_left]
      obtain ⟨ho3, e5⟩ := hn
      obtain ⟨a2, k2, e3, hy3⟩ := ho3.bys
      simp only [e3, e5]
      go_wp2_with (go_at_call 118; (with_reducible refine (HPV.out _ _ _ (HCU.out.trans (hW.mono HCU.out.size)) hy3).mono ?_); rintro e9 w9 ⟨v, rfl, ho, hb9⟩)
      exact ⟨rfl, _, rfl, hb9, ho.mono (Nat.le_trans HBs.out (Nat.le_trans HCU.out.size hW.size)), fun h => h.elim⟩
  · intro xs W hW hall hfr
    clear hfr
    simp only [flowAll, and_true, Nat.zero_add, Nat.reduceAdd] at hall
    obtain ⟨-, -, -, -, -, -, e6⟩ := hall
    simp only [flowAct, List.zipWith_cons_cons, List.zipWith_nil_left, List.drop_succ_cons, List.drop_zero]
    obtain ⟨a3, k3, e3, hy3⟩ := e6.bys
    simp only [e3]
    rw [e3] at e6
    have HO3 := Lib.hid e6
    have HY3 := Lib.hid hy3
    replace hcur := HCU.out.trans (hW.mono HCU.out.size)
    obtain ⟨c0, c1, c2, c3, c4, c5, c6, c7⟩ := HC.out _ hcur
    clear e3 e6 hy3
    go_upto_region 6 with (go_at_call 84; (with_reducible refine (HPT.out _ _ _ hcur HY3.out).mono ?_); rintro e9 w9 ⟨v4, rfl, ho4, hb9⟩; (have ho4 := ho4.mono (Nat.le_trans HBs.out hcur.size)); (replace hcur := hcur.trans (hb9.mono hcur.size)); clear hb9; obtain ⟨c0, c1, c2, c3, c4, c5, c6, c7⟩ := HC.out _ hcur)
    obtain ⟨a4, k4, rfl, hy4⟩ := ho4.bys
    have HO4 := Lib.hid ho4
    have HY4 := Lib.hid hy4
    clear ho4 hy4
    have HY5 := HY4
    go_wp2_with (go_at_call 118; (with_reducible refine (HPD.out _ _ _ hcur HY5.out).mono ?_); rintro e9 w9 ⟨v5, rfl, ho5, hb9⟩)
    go_ret
    exact ⟨_, rfl, ho5.mono (Nat.le_trans HBs.out hcur.size), HB.out.trans ((hcur.trans (hb9.mono hcur.size)).mono HB.out.size)⟩

set_option maxRecDepth 100000 in
set_option maxHeartbeats 6400000 in
theorem lay_7 {w : World} (hT : TabW w) (n s a b : Int) (t : List UInt8) (d e : Int) (ht : t.length ≤ 6000) (hw : wroteS n s a b true t = true) (hz : zeroS d e = false) :
    Calls Tryd.prog 109 #[.agg #[.int .i64 n, .int .i64 s, .int .i64 a, .int .i64 b, .bool true, .string (text t), .int .i64 d, .int .i64 e]] w (BytesPost (layAt [] n s a b t d e true true false) w) := by
  have hp := Cel.new w n s a b true t d e
  have hb := alloc_below w (.cells #[.int .i64 n, .int .i64 s, .int .i64 a, .int .i64 b, .bool true, .string (text t), .int .i64 d, .int .i64 e] 50)
  have HB := Lib.hid hb
  have HC := Lib.hid (fun W (h : Below (w.alloc (.cells #[.int .i64 n, .int .i64 s, .int .i64 a, .int .i64 b, .bool true, .string (text t), .int .i64 d, .int .i64 e] 50)).heap.size (w.alloc (.cells #[.int .i64 n, .int .i64 s, .int .i64 a, .int .i64 b, .bool true, .string (text t), .int .i64 d, .int .i64 e] 50)) W) => (hp.kept h).cs)
  have hTb := hT.below hb
  have hW := fun W => written_c n s a b true t d e W
  rw [hw] at hW
  have hS := fun W => parts_7 n s a b t d e hw hz W
  have hEG := vec_eqg
  have hEQ := vec_neb d e 0 0 false (by rw [← hz]; unfold zeroS; rw [Bool.eq_iff_iff]; simp)
  have HW := Lib.hid hW
  have HS := Lib.hid hS
  obtain ⟨o1, h1⟩ : ∃ q, [] ++ numB 7 = q := ⟨_, rfl⟩
  have l1 : o1.length ≤ 0 + 8 := by rw [← h1, List.length_append]; have := numB_length 7; simp; omega
  obtain ⟨o2, h2⟩ : ∃ q, sputS o1 n s = q := ⟨_, rfl⟩
  obtain ⟨o3, h3⟩ : ∃ q, vputS o2 a b = q := ⟨_, rfl⟩
  have l2 : o2.length ≤ o1.length + 8 := by rw [← h2]; exact sput_le _ _ _
  have l3 : o3.length ≤ o2.length + 16 := by rw [← h3]; exact vput_le _ _ _
  obtain ⟨o5, h5⟩ : ∃ q, vputS o3 d e = q := ⟨_, rfl⟩
  have hv : layAt [] n s a b t d e true true false = o5 := by rw [← h5, ← h3, ← h2, ← h1]; rfl
  rw [hv]
  have HPN := Lib.hid (fun W (h : Below (w.alloc (.cells #[.int .i64 n, .int .i64 s, .int .i64 a, .int .i64 b, .bool true, .string (text t), .int .i64 d, .int .i64 e] 50)).heap.size (w.alloc (.cells #[.int .i64 n, .int .i64 s, .int .i64 a, .int .i64 b, .bool true, .string (text t), .int .i64 d, .int .i64 e] 50)) W) => by have := put_c (show Bys W none 0 0 [] from ⟨rfl, Nat.le_refl _, by omega, .inl rfl⟩) (by omega) 7 (by omega) (by omega) (hTb.below h); rwa [h1] at this)
  have HPS := Lib.hid (fun (W : World) (a1 : Option Addr) (c1 : Nat) (h : Below (w.alloc (.cells #[.int .i64 n, .int .i64 s, .int .i64 a, .int .i64 b, .bool true, .string (text t), .int .i64 d, .int .i64 e] 50)).heap.size (w.alloc (.cells #[.int .i64 n, .int .i64 s, .int .i64 a, .int .i64 b, .bool true, .string (text t), .int .i64 d, .int .i64 e] 50)) W) (hy : Bys W a1 o1.length c1 o1) => by have := sput_c hy (by omega) (hTb.below h) n s; rwa [h2] at this)
  have HPV := Lib.hid (fun (W : World) (a1 : Option Addr) (c1 : Nat) (h : Below (w.alloc (.cells #[.int .i64 n, .int .i64 s, .int .i64 a, .int .i64 b, .bool true, .string (text t), .int .i64 d, .int .i64 e] 50)).heap.size (w.alloc (.cells #[.int .i64 n, .int .i64 s, .int .i64 a, .int .i64 b, .bool true, .string (text t), .int .i64 d, .int .i64 e] 50)) W) (hy : Bys W a1 o2.length c1 o2) => by have := vput_c hy (by omega) (hTb.below h) a b; rwa [h3] at this)
  have HPD := Lib.hid (fun (W : World) (a1 : Option Addr) (c1 : Nat) (h : Below (w.alloc (.cells #[.int .i64 n, .int .i64 s, .int .i64 a, .int .i64 b, .bool true, .string (text t), .int .i64 d, .int .i64 e] 50)).heap.size (w.alloc (.cells #[.int .i64 n, .int .i64 s, .int .i64 a, .int .i64 b, .bool true, .string (text t), .int .i64 d, .int .i64 e] 50)) W) (hy : Bys W a1 o3.length c1 o3) => by have := vput_c hy (by omega) (hTb.below h) d e; rwa [h5] at this)
  clear hb hw hz hv hW hS hT hTb
  go_enter Tryd.func109, Tryd.ntmps109
  go_upto_region 1 with (fail)
  generalize (w.alloc (.cells #[.int .i64 n, .int .i64 s, .int .i64 a, .int .i64 b, .bool true, .string (text t), .int .i64 d, .int .i64 e] 50)) = W1 at *
  have hcur := Below.refl W1.heap.size W1
  obtain ⟨c0, c1, c2, c3, c4, c5, c6, c7⟩ := HC.out _ hcur
  have HBs := Lib.hid HB.out.size
  clear hp
  go_upto_region 2 with (first
    | (go_at_call 81; (with_reducible refine (HS.out _).mono ?_); rintro e9 w9 ⟨rfl, hb9⟩; (replace hcur := hcur.trans (hb9.mono hcur.size)); clear hb9; obtain ⟨c0, c1, c2, c3, c4, c5, c6, c7⟩ := HC.out _ hcur)
    | (go_at_call 108; (with_reducible refine (HPN.out _ hcur).mono ?_); rintro e9 w9 ⟨v1, rfl, ho1, hb9⟩; (have ho1 := ho1.mono (Nat.le_trans HBs.out hcur.size)); (replace hcur := hcur.trans (hb9.mono hcur.size)); clear hb9; obtain ⟨c0, c1, c2, c3, c4, c5, c6, c7⟩ := HC.out _ hcur))
  obtain ⟨a1, k1, rfl, hy1⟩ := ho1.bys
  have HO1 := Lib.hid ho1
  have HY1 := Lib.hid hy1
  clear ho1 hy1
  go_upto_region 3 with (go_at_call 63; (with_reducible refine (HW.out _).mono ?_); rintro e9 w8 ⟨rfl, hb8⟩)
  replace hcur := hcur.trans (hb8.mono hcur.size)
  have HY2 := Lib.hid (HY1.out.below hb8)
  have HCU := Lib.hid hcur
  clear hb8 HY1 HO1 c0 c1 c2 c3 c4 c5 c6 c7
  refine wp_region_flow_tail 7 [none, none, none, none, none, none, none, none, none, some 0, some 1, some 2, some 3, some 4, some 5, some 6, none, none, none, none, none, none, none, none, none, none, none, none, none, none, none, none] (fun i => [undef, undef, undef, undef, undef, undef, undef].getD i undef) [(fun v _ => v = .slice a1 o1.length k1), (fun v _ => v = .pointer (some ⟨w.heap.size, 0, none⟩)), (fun v _ => v = .agg #[.int .i64 n, .int .i64 s]), (fun v W => OwnB W w.heap.size 5 v o2), (fun v _ => v = .pointer (some ⟨w.heap.size, 2, none⟩)), (fun v _ => v = .agg #[.int .i64 a, .int .i64 b]), (fun v W => OwnB W w.heap.size 5 v o3)] (fun _ => False) (by kernel_rfl) (by kernel_rfl) (by kernel_rfl) rfl rfl rfl ?_ ?_ ?_
  · intro g hg v X Y hX hY hv
    simp only [List.mem_cons, List.not_mem_nil, or_false] at hg
    rcases hg with rfl | rfl | rfl | rfl | rfl | rfl | rfl
    all_goals first
      | exact hv
      | exact hv.kept hY
  · simp only [flowOpsF, List.take_succ_cons, List.take_zero, and_true]
    refine ⟨?_, ?_, ?_, ?_, ?_, ?_, ?_⟩
    · intro xs W hW hn
      simp only [flowAct, List.zipWith_cons_cons, List.zipWith_nil_left]
      go_wp2_with (fail)
      exact ⟨rfl, _, rfl, Below.refl _ _, rfl, fun h => h.elim⟩
    · intro xs W hW hn
      simp only [flowAct, List.zipWith_cons_cons, List.zipWith_nil_left]
      go_wp2_with (fail)
      exact ⟨rfl, _, rfl, Below.refl _ _, rfl, fun h => h.elim⟩
    · intro xs W hW hn
      obtain ⟨c0, c1, c2, c3, c4, c5, c6, c7⟩ := HC.out _ (HCU.out.trans (hW.mono HCU.out.size))
      simp [flowNeeds, Region.binds] at hn
      simp only [flowAct, List.zipWith_cons_cons, List.zipWith_nil_left]
      try simp only [hn]
      go_wp2_with (fail)
      exact ⟨rfl, _, rfl, Below.refl _ _, rfl, fun h => h.elim⟩
    · intro xs W hW hn
      simp [flowNeeds, Region.binds] at hn
      simp only [flowAct, List.zipWith_cons_cons, List.zipWith_nil_left]
      simp only [hn]
      go_wp2_with (go_at_call 119; (with_reducible refine (HPS.out _ _ _ (HCU.out.trans (hW.mono HCU.out.size)) (HY2.out.below hW)).mono ?_); rintro e9 w9 ⟨v, rfl, ho, hb9⟩)
      exact ⟨rfl, _, rfl, hb9, ho.mono (Nat.le_trans HBs.out (Nat.le_trans HCU.out.size hW.size)), fun h => h.elim⟩
    · intro xs W hW hn
      simp only [flowAct, List.zipWith_cons_cons, List.zipWith_nil_left]
      go_wp2_with (fail)
      exact ⟨rfl, _, rfl, Below.refl _ _, rfl, fun h => h.elim⟩
    · intro xs W hW hn
      obtain ⟨c0, c1, c2, c3, c4, c5, c6, c7⟩ := HC.out _ (HCU.out.trans (hW.mono HCU.out.size))
      simp [flowNeeds, Region.binds] at hn
      simp only [flowAct, List.zipWith_cons_cons, List.zipWith_nil_left]
      try simp only [hn]
      go_wp2_with (fail)
      exact ⟨rfl, _, rfl, Below.refl _ _, rfl, fun h => h.elim⟩
    · intro xs W hW hn
      simp [flowNeeds, Region.binds] at hn
      simp only [flowAct, List.zipWith_cons_cons, List.zipWith_nil_left]
      obtain ⟨ho3, e5⟩ := hn
      obtain ⟨a2, k2, e3, hy3⟩ := ho3.bys
      simp only [e3, e5]
      go_wp2_with (go_at_call 118; (with_reducible refine (HPV.out _ _ _ (HCU.out.trans (hW.mono HCU.out.size)) hy3).mono ?_); rintro e9 w9 ⟨v, rfl, ho, hb9⟩)
      exact ⟨rfl, _, rfl, hb9, ho.mono (Nat.le_trans HBs.out (Nat.le_trans HCU.out.size hW.size)), fun h => h.elim⟩
  · intro xs W hW hall hfr
    clear hfr
    simp only [flowAll, and_true, Nat.zero_add, Nat.reduceAdd] at hall
    obtain ⟨-, -, -, -, -, -, e6⟩ := hall
    simp only [flowAct, List.zipWith_cons_cons, List.zipWith_nil_left, List.drop_succ_cons, List.drop_zero]
    obtain ⟨a3, k3, e3, hy3⟩ := e6.bys
    simp only [e3]
    rw [e3] at e6
    have HO3 := Lib.hid e6
    have HY3 := Lib.hid hy3
    replace hcur := HCU.out.trans (hW.mono HCU.out.size)
    obtain ⟨c0, c1, c2, c3, c4, c5, c6, c7⟩ := HC.out _ hcur
    clear e3 e6 hy3
    go_upto_region 6 with (fail)
    have HO4 := HO3
    have HY4 := HY3
    have HY5 := HY4
    go_wp2_with (go_at_call 118; (with_reducible refine (HPD.out _ _ _ hcur HY5.out).mono ?_); rintro e9 w9 ⟨v5, rfl, ho5, hb9⟩)
    go_ret
    exact ⟨_, rfl, ho5.mono (Nat.le_trans HBs.out hcur.size), HB.out.trans ((hcur.trans (hb9.mono hcur.size)).mono HB.out.size)⟩

theorem lay_c {w : World} (hT : TabW w) (n s a b : Int) (g : Bool) (t : List UInt8) (d e : Int) (ht : t.length ≤ 6000) :
    Calls Tryd.prog 109 #[.agg #[.int .i64 n, .int .i64 s, .int .i64 a, .int .i64 b, .bool g, .string (text t), .int .i64 d, .int .i64 e]] w (BytesPost (layS [] ⟨n, s, a, b, g, t, d, e⟩) w) := by
  cases hw : wroteS n s a b g t with
  | false =>
    cases g with
    | true => rw [wrote_gone] at hw; cases hw
    | false =>
      cases hz : zeroS d e with
      | false => rw [lay_at [] n s a b false t d e _ _ hw hz]; exact lay_4 hT n s a b t d e ht hw hz
      | true => rw [lay_at [] n s a b false t d e _ _ hw hz]; exact lay_0 hT n s a b t d e ht hw hz
  | true =>
    cases g with
    | true =>
      cases hz : zeroS d e with
      | false => rw [lay_at [] n s a b true t d e _ _ hw hz]; exact lay_7 hT n s a b t d e ht hw hz
      | true => rw [lay_at [] n s a b true t d e _ _ hw hz]; exact lay_3 hT n s a b t d e ht hw hz
    | false =>
      cases hz : zeroS d e with
      | false => rw [lay_at [] n s a b false t d e _ _ hw hz]; exact lay_5 hT n s a b t d e ht hw hz
      | true => rw [lay_at [] n s a b false t d e _ _ hw hz]; exact lay_1 hT n s a b t d e ht hw hz
theorem parts_c (n s a b : Int) (g : Bool) (t : List UInt8) (d e : Int) (w : World) : Calls Tryd.prog 81 #[.agg #[.int .i64 n, .int .i64 s, .int .i64 a, .int .i64 b, .bool g, .string (text t), .int .i64 d, .int .i64 e]] w (Tells (.int .i64 (Cl.sum ⟨n, s, a, b, g, t, d, e⟩)) w) := by
  unfold Cl.sum Cl.wrote
  simp only []
  cases hw : wroteS n s a b g t with
  | false =>
    cases g with
    | true => rw [wrote_gone] at hw; cases hw
    | false =>
      cases hz : zeroS d e with
      | false => exact parts_4 n s a b t d e hw hz w
      | true => exact parts_0 n s a b t d e hw hz w
  | true =>
    cases g with
    | true =>
      cases hz : zeroS d e with
      | false => exact parts_7 n s a b t d e hw hz w
      | true => exact parts_3 n s a b t d e hw hz w
    | false =>
      cases hz : zeroS d e with
      | false => exact parts_5 n s a b t d e hw hz w
      | true => exact parts_1 n s a b t d e hw hz w
end Go.Proofs.YtkjpmdpljdgcjaaDoor
