/-
  Cell: cells in memory; the reference's Zero, Written, Two, Known.
-/
import Derived.Test.YtkjpmdpljdgcjaaDoorCS
namespace Go.Proofs.YtkjpmdpljdgcjaaDoor
open Go.RowKit Go Go.Sort
set_option linter.unusedVariables false
set_option maxRecDepth 20000

/-- A cell that lies at a block's head. -/
def Cel (W : World) (q : Nat) (n s a b : Int) (g : Bool) (t : List UInt8) (d e : Int) : Prop := W.heap[q]? = some (.cells #[.int .i64 n, .int .i64 s, .int .i64 a, .int .i64 b, .bool g, .string (text t), .int .i64 d, .int .i64 e] 50 (0, 0))
theorem Cel.lt {W : World} {q : Nat} {n s a b d e : Int} {g : Bool} {t : List UInt8} (h : Cel W q n s a b g t d e) : q < W.heap.size := (Array.getElem?_eq_some_iff.1 h).1
theorem Cel.kept {W W' : World} {q : Nat} {n s a b d e : Int} {g : Bool} {t : List UInt8} (h : Cel W q n s a b g t d e) (hb : Below W.heap.size W W') : Cel W' q n s a b g t d e := (hb.block q h.lt).trans h
theorem Cel.new (W : World) (n s a b : Int) (g : Bool) (t : List UInt8) (d e : Int) : Cel (W.alloc (.cells #[.int .i64 n, .int .i64 s, .int .i64 a, .int .i64 b, .bool g, .string (text t), .int .i64 d, .int .i64 e] 50)) W.heap.size n s a b g t d e := heap_alloc_new W _
theorem Cel.cs {W : World} {q : Nat} {n s a b d e : Int} {g : Bool} {t : List UInt8} (h : Cel W q n s a b g t d e) :
    W.cell? ⟨q, 0, none⟩ = some (.int .i64 n) ∧ W.cell? ⟨q, 1, none⟩ = some (.int .i64 s) ∧ W.cell? ⟨q, 2, none⟩ = some (.int .i64 a) ∧ W.cell? ⟨q, 3, none⟩ = some (.int .i64 b) ∧
    W.cell? ⟨q, 4, none⟩ = some (.bool g) ∧ W.cell? ⟨q, 5, none⟩ = some (.string (text t)) ∧ W.cell? ⟨q, 6, none⟩ = some (.int .i64 d) ∧ W.cell? ⟨q, 7, none⟩ = some (.int .i64 e) := by
  refine ⟨?_, ?_, ?_, ?_, ?_, ?_, ?_, ?_⟩ <;> (rw [cell_of_row W q _ _ _ (0, 0) h]; rfl)
theorem Cel.fz {W : World} {q : Nat} {n s a b d e : Int} {g : Bool} {t : List UInt8} (h : Cel W q n s a b g t d e) (i : Nat) : W.frozen? ⟨q, i, none⟩ = false := frozen_of_row W q i _ _ h
theorem Cel.alloc {W : World} {q : Nat} {n s a b d e : Int} {g : Bool} {t : List UInt8} (h : Cel W q n s a b g t d e) (o : Obj) : Cel (W.alloc o) q n s a b g t d e := (Below.heap_alloc W o q h.lt).trans h

def zeroS (d e : Int) : Bool := decide (d = 0) && decide (e = 0)
set_option maxHeartbeats 1600000 in
theorem rzero_c (a b : Int) (w : World) : Calls Tryd.prog 72 #[.agg #[.int .i64 a, .int .i64 b]] w (Tells (.bool (zeroS a b)) w) := by
  have hp := Pair.new w 44 a b
  have hb := alloc_below w (.cells #[.int .i64 a, .int .i64 b] 44)
  have h0 := hp.c0
  have h1 := hp.c1
  have HB := Lib.hid hb
  have HV := Lib.hid (show zeroS a b = (decide (a = 0) && decide (b = 0)) from rfl)
  clear hp hb
  by_cases g0 : a = 0
  · by_cases g1 : b = 0
    · have k0 : (a == 0) = true := by simpa using g0
      have k1 : (b == 0) = true := by simpa using g1
      have HR := Lib.hid (show zeroS a b = true by rw [HV.out]; simp [g0, g1])
      clear g0 g1 HV
      go_enter Tryd.func72, Tryd.ntmps72
      go_wp2
      go_ret
      exact ⟨by rw [HR.out]; rfl, HB.out⟩
    · have k0 : (a == 0) = true := by simpa using g0
      have k1 : (b == 0) = false := by simpa using g1
      have HR := Lib.hid (show zeroS a b = false by rw [HV.out]; simp [g1])
      clear g0 g1 HV
      go_enter Tryd.func72, Tryd.ntmps72
      go_wp2
      go_ret
      exact ⟨by rw [HR.out]; rfl, HB.out⟩
  · have k0 : (a == 0) = false := by simpa using g0
    have HR := Lib.hid (show zeroS a b = false by rw [HV.out]; simp [g0])
    clear g0 HV
    go_enter Tryd.func72, Tryd.ntmps72
    go_wp2
    go_ret
    exact ⟨by rw [HR.out]; rfl, HB.out⟩

def wroteS (n s a b : Int) (g : Bool) (t : List UInt8) : Bool := n != 0 || (s != 0 || (a != 0 || (b != 0 || (g || t != []))))
set_option maxHeartbeats 1600000 in
theorem rwritten_c (n s a b : Int) (g : Bool) (t : List UInt8) (d e : Int) (w : World) : Calls Tryd.prog 65 #[.agg #[.int .i64 n, .int .i64 s, .int .i64 a, .int .i64 b, .bool g, .string (text t), .int .i64 d, .int .i64 e]] w (Tells (.bool (wroteS n s a b g t)) w) := by
  have hp := Cel.new w n s a b g t d e
  have hb := alloc_below w (.cells #[.int .i64 n, .int .i64 s, .int .i64 a, .int .i64 b, .bool g, .string (text t), .int .i64 d, .int .i64 e] 50)
  obtain ⟨c0, c1, c2, c3, c4, c5, c6, c7⟩ := hp.cs
  have hts : ((text t).toList == []) = (t == []) := by rw [text_toList]
  have HB := Lib.hid hb
  have HV := Lib.hid (show wroteS n s a b g t = (n != 0 || (s != 0 || (a != 0 || (b != 0 || (g || t != []))))) from rfl)
  obtain ⟨r, hr⟩ : ∃ r, wroteS n s a b g t = r := ⟨_, rfl⟩
  rw [hr] at HV ⊢
  clear hp hb hr
  cases k0 : n != 0 with
  | true =>
    rw [k0] at HV
    go_enter Tryd.func65, Tryd.ntmps65
    go_wp2
    go_ret
    exact ⟨by rw [HV.out]; rfl, HB.out⟩
  | false =>
  cases k1 : s != 0 with
  | true =>
    rw [k0, k1] at HV
    go_enter Tryd.func65, Tryd.ntmps65
    go_wp2
    go_ret
    exact ⟨by rw [HV.out]; rfl, HB.out⟩
  | false =>
  cases k2 : a != 0 with
  | true =>
    rw [k0, k1, k2] at HV
    go_enter Tryd.func65, Tryd.ntmps65
    go_wp2
    go_ret
    exact ⟨by rw [HV.out]; rfl, HB.out⟩
  | false =>
  cases k3 : b != 0 with
  | true =>
    rw [k0, k1, k2, k3] at HV
    go_enter Tryd.func65, Tryd.ntmps65
    go_wp2
    go_ret
    exact ⟨by rw [HV.out]; rfl, HB.out⟩
  | false =>
  cases g with
  | true =>
    rw [k0, k1, k2, k3] at HV
    go_enter Tryd.func65, Tryd.ntmps65
    go_wp2
    go_ret
    exact ⟨by rw [HV.out]; rfl, HB.out⟩
  | false =>
    have k5 : (t != []) = !(t == []) := rfl
    rw [k0, k1, k2, k3, k5] at HV
    cases k4 : t == [] with
    | true =>
      rw [k4] at HV hts
      clear k4 k5
      go_enter Tryd.func65, Tryd.ntmps65
      go_wp2
      go_ret
      exact ⟨by rw [HV.out]; rfl, HB.out⟩
    | false =>
      rw [k4] at HV hts
      clear k4 k5
      go_enter Tryd.func65, Tryd.ntmps65
      go_wp2
      go_ret
      exact ⟨by rw [HV.out]; rfl, HB.out⟩
end Go.Proofs.YtkjpmdpljdgcjaaDoor
