/-
  Cell: steps of what bytes begin with.
-/
import Derived.Test.YtkjpmdpljdgcjaaDoorKD
namespace Go.Proofs.YtkjpmdpljdgcjaaDoor
open Go.RowKit Go Go.Sort
set_option linter.unusedVariables false
set_option maxRecDepth 20000

theorem Cel.head {W : World} {q : Nat} {n s a b d e : Int} {g : Bool} {t : List UInt8} (h : Cel W q n s a b g t d e) (n' : Int) (s' : Int) (a' : Int) (b' : Int) (g' : Bool) : Cel (((((W.setCell ⟨q, 0, none⟩ (.int .i64 n')).setCell ⟨q, 1, none⟩ (.int .i64 s')).setCell ⟨q, 2, none⟩ (.int .i64 a')).setCell ⟨q, 3, none⟩ (.int .i64 b')).setCell ⟨q, 4, none⟩ (.bool g')) q n' s' a' b' g' t d e := by
  have h0 : (W.setCell ⟨q, 0, none⟩ (.int .i64 n')).heap[q]? = some (.cells #[.int .i64 n', .int .i64 s, .int .i64 a, .int .i64 b, .bool g, .string (text t), .int .i64 d, .int .i64 e] 50 (0, 0)) := (heap_setCell_same _ q 0 _ _ _ h).trans rfl
  have h1 : ((W.setCell ⟨q, 0, none⟩ (.int .i64 n')).setCell ⟨q, 1, none⟩ (.int .i64 s')).heap[q]? = some (.cells #[.int .i64 n', .int .i64 s', .int .i64 a, .int .i64 b, .bool g, .string (text t), .int .i64 d, .int .i64 e] 50 (0, 0)) := (heap_setCell_same _ q 1 _ _ _ h0).trans rfl
  have h2 : (((W.setCell ⟨q, 0, none⟩ (.int .i64 n')).setCell ⟨q, 1, none⟩ (.int .i64 s')).setCell ⟨q, 2, none⟩ (.int .i64 a')).heap[q]? = some (.cells #[.int .i64 n', .int .i64 s', .int .i64 a', .int .i64 b, .bool g, .string (text t), .int .i64 d, .int .i64 e] 50 (0, 0)) := (heap_setCell_same _ q 2 _ _ _ h1).trans rfl
  have h3 : ((((W.setCell ⟨q, 0, none⟩ (.int .i64 n')).setCell ⟨q, 1, none⟩ (.int .i64 s')).setCell ⟨q, 2, none⟩ (.int .i64 a')).setCell ⟨q, 3, none⟩ (.int .i64 b')).heap[q]? = some (.cells #[.int .i64 n', .int .i64 s', .int .i64 a', .int .i64 b', .bool g, .string (text t), .int .i64 d, .int .i64 e] 50 (0, 0)) := (heap_setCell_same _ q 3 _ _ _ h2).trans rfl
  have h4 : (((((W.setCell ⟨q, 0, none⟩ (.int .i64 n')).setCell ⟨q, 1, none⟩ (.int .i64 s')).setCell ⟨q, 2, none⟩ (.int .i64 a')).setCell ⟨q, 3, none⟩ (.int .i64 b')).setCell ⟨q, 4, none⟩ (.bool g')).heap[q]? = some (.cells #[.int .i64 n', .int .i64 s', .int .i64 a', .int .i64 b', .bool g', .string (text t), .int .i64 d, .int .i64 e] 50 (0, 0)) := (heap_setCell_same _ q 4 _ _ _ h3).trans rfl
  exact h4
theorem Cel.head_other {W : World} {q q' : Nat} {n s a b d e : Int} {g : Bool} {t : List UInt8} (h : Cel W q' n s a b g t d e) (hne : q' ≠ q) (n' : Int) (s' : Int) (a' : Int) (b' : Int) (g' : Bool) : Cel (((((W.setCell ⟨q, 0, none⟩ (.int .i64 n')).setCell ⟨q, 1, none⟩ (.int .i64 s')).setCell ⟨q, 2, none⟩ (.int .i64 a')).setCell ⟨q, 3, none⟩ (.int .i64 b')).setCell ⟨q, 4, none⟩ (.bool g')) q' n s a b g t d e := by
  unfold Cel at h ⊢
  rw [heap_setCell_other _ _ _ _ (by exact hne), heap_setCell_other _ _ _ _ (by exact hne), heap_setCell_other _ _ _ _ (by exact hne), heap_setCell_other _ _ _ _ (by exact hne), heap_setCell_other _ _ _ _ (by exact hne)]
  exact h
theorem head_below {B : Nat} {w W : World} (h : Below B w W) {q : Nat} (hq : B ≤ q) (n' : Int) (s' : Int) (a' : Int) (b' : Int) (g' : Bool) : Below B w (((((W.setCell ⟨q, 0, none⟩ (.int .i64 n')).setCell ⟨q, 1, none⟩ (.int .i64 s')).setCell ⟨q, 2, none⟩ (.int .i64 a')).setCell ⟨q, 3, none⟩ (.int .i64 b')).setCell ⟨q, 4, none⟩ (.bool g')) :=
  (((((h.setCell (p := ⟨q, 0, none⟩) hq _).setCell (p := ⟨q, 1, none⟩) hq _).setCell (p := ⟨q, 2, none⟩) hq _).setCell (p := ⟨q, 3, none⟩) hq _).setCell (p := ⟨q, 4, none⟩) hq _)
theorem Cel.txt {W : World} {q : Nat} {n s a b d e : Int} {g : Bool} {t : List UInt8} (h : Cel W q n s a b g t d e) (t' : List UInt8) : Cel (W.setCell ⟨q, 5, none⟩ (.string (text t'))) q n s a b g t' d e := by
  have h0 : (W.setCell ⟨q, 5, none⟩ (.string (text t'))).heap[q]? = some (.cells #[.int .i64 n, .int .i64 s, .int .i64 a, .int .i64 b, .bool g, .string (text t'), .int .i64 d, .int .i64 e] 50 (0, 0)) := (heap_setCell_same _ q 5 _ _ _ h).trans rfl
  exact h0
theorem Cel.txt_other {W : World} {q q' : Nat} {n s a b d e : Int} {g : Bool} {t : List UInt8} (h : Cel W q' n s a b g t d e) (hne : q' ≠ q) (t' : List UInt8) : Cel (W.setCell ⟨q, 5, none⟩ (.string (text t'))) q' n s a b g t d e := by
  unfold Cel at h ⊢
  rw [heap_setCell_other _ _ _ _ (by exact hne)]
  exact h
theorem txt_below {B : Nat} {w W : World} (h : Below B w W) {q : Nat} (hq : B ≤ q) (t' : List UInt8) : Below B w (W.setCell ⟨q, 5, none⟩ (.string (text t'))) :=
  (h.setCell (p := ⟨q, 5, none⟩) hq _)
theorem Cel.dead {W : World} {q : Nat} {n s a b d e : Int} {g : Bool} {t : List UInt8} (h : Cel W q n s a b g t d e) (d' : Int) (e' : Int) : Cel ((W.setCell ⟨q, 6, none⟩ (.int .i64 d')).setCell ⟨q, 7, none⟩ (.int .i64 e')) q n s a b g t d' e' := by
  have h0 : (W.setCell ⟨q, 6, none⟩ (.int .i64 d')).heap[q]? = some (.cells #[.int .i64 n, .int .i64 s, .int .i64 a, .int .i64 b, .bool g, .string (text t), .int .i64 d', .int .i64 e] 50 (0, 0)) := (heap_setCell_same _ q 6 _ _ _ h).trans rfl
  have h1 : ((W.setCell ⟨q, 6, none⟩ (.int .i64 d')).setCell ⟨q, 7, none⟩ (.int .i64 e')).heap[q]? = some (.cells #[.int .i64 n, .int .i64 s, .int .i64 a, .int .i64 b, .bool g, .string (text t), .int .i64 d', .int .i64 e'] 50 (0, 0)) := (heap_setCell_same _ q 7 _ _ _ h0).trans rfl
  exact h1
theorem Cel.dead_other {W : World} {q q' : Nat} {n s a b d e : Int} {g : Bool} {t : List UInt8} (h : Cel W q' n s a b g t d e) (hne : q' ≠ q) (d' : Int) (e' : Int) : Cel ((W.setCell ⟨q, 6, none⟩ (.int .i64 d')).setCell ⟨q, 7, none⟩ (.int .i64 e')) q' n s a b g t d e := by
  unfold Cel at h ⊢
  rw [heap_setCell_other _ _ _ _ (by exact hne), heap_setCell_other _ _ _ _ (by exact hne)]
  exact h
theorem dead_below {B : Nat} {w W : World} (h : Below B w W) {q : Nat} (hq : B ≤ q) (d' : Int) (e' : Int) : Below B w ((W.setCell ⟨q, 6, none⟩ (.int .i64 d')).setCell ⟨q, 7, none⟩ (.int .i64 e')) :=
  ((h.setCell (p := ⟨q, 6, none⟩) hq _).setCell (p := ⟨q, 7, none⟩) hq _)
theorem Cel.stm {W : World} {q : Nat} {n s a b d e : Int} {g : Bool} {t : List UInt8} (h : Cel W q n s a b g t d e) (n' : Int) (s' : Int) : Cel ((W.setCell ⟨q, 0, none⟩ (.int .i64 n')).setCell ⟨q, 1, none⟩ (.int .i64 s')) q n' s' a b g t d e := by
  have h0 : (W.setCell ⟨q, 0, none⟩ (.int .i64 n')).heap[q]? = some (.cells #[.int .i64 n', .int .i64 s, .int .i64 a, .int .i64 b, .bool g, .string (text t), .int .i64 d, .int .i64 e] 50 (0, 0)) := (heap_setCell_same _ q 0 _ _ _ h).trans rfl
  have h1 : ((W.setCell ⟨q, 0, none⟩ (.int .i64 n')).setCell ⟨q, 1, none⟩ (.int .i64 s')).heap[q]? = some (.cells #[.int .i64 n', .int .i64 s', .int .i64 a, .int .i64 b, .bool g, .string (text t), .int .i64 d, .int .i64 e] 50 (0, 0)) := (heap_setCell_same _ q 1 _ _ _ h0).trans rfl
  exact h1
theorem Cel.stm_other {W : World} {q q' : Nat} {n s a b d e : Int} {g : Bool} {t : List UInt8} (h : Cel W q' n s a b g t d e) (hne : q' ≠ q) (n' : Int) (s' : Int) : Cel ((W.setCell ⟨q, 0, none⟩ (.int .i64 n')).setCell ⟨q, 1, none⟩ (.int .i64 s')) q' n s a b g t d e := by
  unfold Cel at h ⊢
  rw [heap_setCell_other _ _ _ _ (by exact hne), heap_setCell_other _ _ _ _ (by exact hne)]
  exact h
theorem stm_below {B : Nat} {w W : World} (h : Below B w W) {q : Nat} (hq : B ≤ q) (n' : Int) (s' : Int) : Below B w ((W.setCell ⟨q, 0, none⟩ (.int .i64 n')).setCell ⟨q, 1, none⟩ (.int .i64 s')) :=
  ((h.setCell (p := ⟨q, 0, none⟩) hq _).setCell (p := ⟨q, 1, none⟩) hq _)
theorem Cel.vc {W : World} {q : Nat} {n s a b d e : Int} {g : Bool} {t : List UInt8} (h : Cel W q n s a b g t d e) (a' : Int) (b' : Int) : Cel ((W.setCell ⟨q, 2, none⟩ (.int .i64 a')).setCell ⟨q, 3, none⟩ (.int .i64 b')) q n s a' b' g t d e := by
  have h0 : (W.setCell ⟨q, 2, none⟩ (.int .i64 a')).heap[q]? = some (.cells #[.int .i64 n, .int .i64 s, .int .i64 a', .int .i64 b, .bool g, .string (text t), .int .i64 d, .int .i64 e] 50 (0, 0)) := (heap_setCell_same _ q 2 _ _ _ h).trans rfl
  have h1 : ((W.setCell ⟨q, 2, none⟩ (.int .i64 a')).setCell ⟨q, 3, none⟩ (.int .i64 b')).heap[q]? = some (.cells #[.int .i64 n, .int .i64 s, .int .i64 a', .int .i64 b', .bool g, .string (text t), .int .i64 d, .int .i64 e] 50 (0, 0)) := (heap_setCell_same _ q 3 _ _ _ h0).trans rfl
  exact h1
theorem Cel.vc_other {W : World} {q q' : Nat} {n s a b d e : Int} {g : Bool} {t : List UInt8} (h : Cel W q' n s a b g t d e) (hne : q' ≠ q) (a' : Int) (b' : Int) : Cel ((W.setCell ⟨q, 2, none⟩ (.int .i64 a')).setCell ⟨q, 3, none⟩ (.int .i64 b')) q' n s a b g t d e := by
  unfold Cel at h ⊢
  rw [heap_setCell_other _ _ _ _ (by exact hne), heap_setCell_other _ _ _ _ (by exact hne)]
  exact h
theorem vc_below {B : Nat} {w W : World} (h : Below B w W) {q : Nat} (hq : B ≤ q) (a' : Int) (b' : Int) : Below B w ((W.setCell ⟨q, 2, none⟩ (.int .i64 a')).setCell ⟨q, 3, none⟩ (.int .i64 b')) :=
  ((h.setCell (p := ⟨q, 2, none⟩) hq _).setCell (p := ⟨q, 3, none⟩) hq _)
theorem Cel.gn {W : World} {q : Nat} {n s a b d e : Int} {g : Bool} {t : List UInt8} (h : Cel W q n s a b g t d e) (g' : Bool) : Cel (W.setCell ⟨q, 4, none⟩ (.bool g')) q n s a b g' t d e := by
  have h0 : (W.setCell ⟨q, 4, none⟩ (.bool g')).heap[q]? = some (.cells #[.int .i64 n, .int .i64 s, .int .i64 a, .int .i64 b, .bool g', .string (text t), .int .i64 d, .int .i64 e] 50 (0, 0)) := (heap_setCell_same _ q 4 _ _ _ h).trans rfl
  exact h0
theorem Cel.gn_other {W : World} {q q' : Nat} {n s a b d e : Int} {g : Bool} {t : List UInt8} (h : Cel W q' n s a b g t d e) (hne : q' ≠ q) (g' : Bool) : Cel (W.setCell ⟨q, 4, none⟩ (.bool g')) q' n s a b g t d e := by
  unfold Cel at h ⊢
  rw [heap_setCell_other _ _ _ _ (by exact hne)]
  exact h
theorem gn_below {B : Nat} {w W : World} (h : Below B w W) {q : Nat} (hq : B ≤ q) (g' : Bool) : Below B w (W.setCell ⟨q, 4, none⟩ (.bool g')) :=
  (h.setCell (p := ⟨q, 4, none⟩) hq _)

theorem sgetS_ok (l : List UInt8) (h : (sgetS l).2.2 = 0) : ∃ q : Nat, (sgetS l).2.1 = (q : Int) ∧ q ≤ l.length := by
  unfold sgetS at h ⊢
  by_cases he : (getS l).2.2 = 0
  · obtain ⟨q, hq, hq1, hq2, hv0, hv1⟩ := getS_ok l he
    rw [if_neg (by simpa using he)] at h ⊢
    split
    · exact ⟨q, hq, hq2⟩
    · rename_i h0
      rw [if_neg h0] at h
      split
      · exact ⟨q, hq, hq2⟩
      · rename_i h1
        rw [if_neg h1] at h
        exact absurd h (by decide)
  · rw [if_pos he] at h
    exact absurd h he
theorem vgetS_ok (l : List UInt8) (h : (vgetS l).2.2 = 0) : ∃ q : Nat, (vgetS l).2.1 = (q : Int) ∧ q ≤ l.length := by
  unfold vgetS at h ⊢
  by_cases he : (getS l).2.2 = 0
  · obtain ⟨q, hq, hq1, hq2, hv0, hv1⟩ := getS_ok l he
    rw [if_neg (by simpa using he)] at h ⊢
    rw [hq, Int.toNat_natCast] at h ⊢
    by_cases he2 : (getS (l.drop q)).2.2 = 0
    · obtain ⟨q2, hq2', hq3, hq4, hw0, hw1⟩ := getS_ok _ he2
      rw [if_neg (by simpa using he2)] at h ⊢
      split
      · refine ⟨q + q2, by rw [hq2']; simp, ?_⟩
        rw [List.length_drop] at hq4
        omega
      · rename_i h1
        rw [if_neg h1] at h
        exact absurd h (by decide)
    · rw [if_pos he2] at h
      exact absurd h he2
  · rw [if_pos he] at h
    exact absurd h he

theorem textS_in (l : List UInt8) (m : Int) (h : (textS l m).2.2 = 0) : ∃ q : Nat, (textS l m).2.1 = (q : Int) ∧ q ≤ l.length ∧ ((textS l m).1.length : Int) ≤ m := by
  unfold textS at h ⊢
  by_cases he : (getS l).2.2 = 0
  · obtain ⟨q, hq, hq1, hq2, hv0, hv1⟩ := getS_ok l he
    rw [if_neg (by omega)] at h ⊢
    by_cases c1 : m < (getS l).1
    · rw [if_pos c1] at h; cases h
    · rw [if_neg c1] at h ⊢
      by_cases c2 : (l.length : Int) - (getS l).2.1 < (getS l).1
      · rw [if_pos c2] at h; cases h
      · rw [if_neg c2]
        refine ⟨q + (getS l).1.toNat, ?_, by omega, ?_⟩
        · simp only []; omega
        · simp only [List.length_take]; omega
  · rw [if_pos he] at h; exact absurd h he
theorem bit1 (x : Int) : bit x 1 = (x % 2 == 1) := by unfold bit; rw [Int.ediv_one]
theorem bit4 {x : Int} (h0 : 0 ≤ x) (h7 : x ≤ 7) : bit x 4 = (x / 4 == 1) := by
  unfold bit
  rw [Bool.eq_iff_iff]
  simp
  omega
theorem parts_none {l : List UInt8} {x : Int} {k : Nat} {g : Bool} (h : bit x 1 = true) (hm : midR l k g = none) : partsR l x k g = none := by
  unfold partsR
  rw [if_pos h, hm]
  rfl
theorem parts_some {l : List UInt8} {x : Int} {k : Nat} {g : Bool} {c : Cl} {q : Nat} (h : bit x 1 = true) (hm : midR l k g = some (c, q)) : partsR l x k g = endR l x c q := by
  unfold partsR
  rw [if_pos h, hm]
  rfl
theorem parts_bare {l : List UInt8} {x : Int} {k : Nat} {g : Bool} (h : bit x 1 = false) : partsR l x k g = endR l x (Cl.gone g) k := by
  unfold partsR
  rw [if_neg (by simp [h])]
  rfl
theorem mid_stamp {l : List UInt8} {k : Nat} {g : Bool} (h : (sgetS (l.drop k)).2.2 ≠ 0) : midR l k g = none := by
  unfold midR stampR
  rw [if_neg h]
  rfl
theorem mid_vec {l : List UInt8} {k q : Nat} {g : Bool} {n s : Int} (h : sgetS (l.drop k) = ((n, s), (q : Int), 0)) (h2 : (vgetS (l.drop (k + q))).2.2 ≠ 0) : midR l k g = none := by
  unfold midR stampR
  rw [h]
  simp only [if_true, Option.bind_some, Int.toNat_natCast]
  unfold vecR
  rw [if_neg h2]
  rfl
theorem mid_gone {l : List UInt8} {k q q2 : Nat} {n s a b : Int} (h : sgetS (l.drop k) = ((n, s), (q : Int), 0)) (h2 : vgetS (l.drop (k + q)) = ((a, b), (q2 : Int), 0)) : midR l k true = some (⟨n, s, a, b, true, [], 0, 0⟩, k + q + q2) := by
  unfold midR stampR
  rw [h]
  simp only [if_true, Option.bind_some, Int.toNat_natCast]
  unfold vecR
  rw [h2]
  simp only [if_true, Option.bind_some, Int.toNat_natCast]
  rfl
theorem mid_text {l : List UInt8} {k q q2 : Nat} {n s a b : Int} (h : sgetS (l.drop k) = ((n, s), (q : Int), 0)) (h2 : vgetS (l.drop (k + q)) = ((a, b), (q2 : Int), 0)) (h3 : (textS (l.drop (k + q + q2)) 64).2.2 ≠ 0) : midR l k false = none := by
  unfold midR stampR
  rw [h]
  simp only [if_true, Option.bind_some, Int.toNat_natCast]
  unfold vecR
  rw [h2]
  simp only [if_true, Option.bind_some, Int.toNat_natCast]
  unfold textR
  rw [if_neg (by simp), if_neg h3]
theorem mid_all {l t : List UInt8} {k q q2 q3 : Nat} {n s a b : Int} (h : sgetS (l.drop k) = ((n, s), (q : Int), 0)) (h2 : vgetS (l.drop (k + q)) = ((a, b), (q2 : Int), 0)) (h3 : textS (l.drop (k + q + q2)) 64 = (t, (q3 : Int), 0)) :
    midR l k false = some (⟨n, s, a, b, false, t, 0, 0⟩, k + q + q2 + q3) := by
  unfold midR stampR
  rw [h]
  simp only [if_true, Option.bind_some, Int.toNat_natCast]
  unfold vecR
  rw [h2]
  simp only [if_true, Option.bind_some, Int.toNat_natCast]
  unfold textR
  rw [if_neg (by simp), h3]
  simp only [if_true, Int.toNat_natCast]
  rfl
theorem end_no {l : List UInt8} {x : Int} {c : Cl} {k : Nat} (h : bit x 4 = false) : endR l x c k = some (c, k) := by unfold endR; rw [if_neg (by simp [h])]
theorem end_bad {l : List UInt8} {x : Int} {c : Cl} {k : Nat} (h : bit x 4 = true) (h2 : (vgetS (l.drop k)).2.2 ≠ 0) : endR l x c k = none := by unfold endR deadR; rw [if_pos h, if_neg h2]
theorem end_yes {l : List UInt8} {x : Int} {c : Cl} {k q : Nat} {d e : Int} (h : bit x 4 = true) (h2 : vgetS (l.drop k) = ((d, e), (q : Int), 0)) : endR l x c k = some ({ c with d := d, e := e }, k + q) := by
  unfold endR deadR; rw [if_pos h, h2]; rfl
theorem readS_err {l : List UInt8} (h : (getS l).2.2 ≠ 0) : readS l = none := by unfold readS; rw [if_neg (fun x => h x.1)]
theorem readS_big {l : List UInt8} (h : 7 < (getS l).1) : readS l = none := by unfold readS; rw [if_neg (fun x => by omega)]
theorem readS_at {l : List UInt8} {x : Int} {q : Nat} (h : getS l = (x, (q : Int), 0)) (h7 : x ≤ 7) : readS l = partsR l x q (bit x 1 && bit x 2) := by
  unfold readS; rw [h, if_pos ⟨rfl, h7⟩]; rfl
theorem readP_err {l : List UInt8} (h : (getS l).2.2 ≠ 0) : readP l = none := by unfold readP; rw [if_neg h]
theorem readP_at {l : List UInt8} {x : Int} {q : Nat} (h : getS l = (x, (q : Int), 0)) : readP l = partsR l x q (bit x 2) := by
  unfold readP; rw [h, if_pos rfl]; rfl
end Go.Proofs.YtkjpmdpljdgcjaaDoor
