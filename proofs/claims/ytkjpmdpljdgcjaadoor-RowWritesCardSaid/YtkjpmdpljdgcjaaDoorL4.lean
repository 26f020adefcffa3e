/-
  Cells that are put; sizes (cut of K4).
-/
import Derived.Test.YtkjpmdpljdgcjaaDoorK3
namespace Go.Proofs.YtkjpmdpljdgcjaaDoor
open Go.RowKit Go Go.Sort
set_option linter.unusedVariables false
set_option maxRecDepth 20000

/-- A whole cell is stored. -/
theorem Cel.put {W : World} {q : Nat} {n s a b d e : Int} {g : Bool} {t : List UInt8} (h : Cel W q n s a b g t d e) (n' s' a' b' : Int) (g' : Bool) (t' : List UInt8) (d' e' : Int) :
    Cel ((((((((W.setCell ⟨q, 0, none⟩ (.int .i64 n')).setCell ⟨q, 1, none⟩ (.int .i64 s')).setCell ⟨q, 2, none⟩ (.int .i64 a')).setCell ⟨q, 3, none⟩ (.int .i64 b')).setCell ⟨q, 4, none⟩ (.bool g')).setCell ⟨q, 5, none⟩ (.string (text t'))).setCell ⟨q, 6, none⟩ (.int .i64 d')).setCell ⟨q, 7, none⟩ (.int .i64 e')) q n' s' a' b' g' t' d' e' := by
  have h0 : (W.setCell ⟨q, 0, none⟩ (.int .i64 n')).heap[q]? = some (.cells #[.int .i64 n', .int .i64 s, .int .i64 a, .int .i64 b, .bool g, .string (text t), .int .i64 d, .int .i64 e] 50 (0, 0)) := (heap_setCell_same _ q 0 _ _ _ h).trans rfl
  have h1 : ((W.setCell ⟨q, 0, none⟩ (.int .i64 n')).setCell ⟨q, 1, none⟩ (.int .i64 s')).heap[q]? = some (.cells #[.int .i64 n', .int .i64 s', .int .i64 a, .int .i64 b, .bool g, .string (text t), .int .i64 d, .int .i64 e] 50 (0, 0)) := (heap_setCell_same _ q 1 _ _ _ h0).trans rfl
  have h2 : (((W.setCell ⟨q, 0, none⟩ (.int .i64 n')).setCell ⟨q, 1, none⟩ (.int .i64 s')).setCell ⟨q, 2, none⟩ (.int .i64 a')).heap[q]? = some (.cells #[.int .i64 n', .int .i64 s', .int .i64 a', .int .i64 b, .bool g, .string (text t), .int .i64 d, .int .i64 e] 50 (0, 0)) := (heap_setCell_same _ q 2 _ _ _ h1).trans rfl
  have h3 : ((((W.setCell ⟨q, 0, none⟩ (.int .i64 n')).setCell ⟨q, 1, none⟩ (.int .i64 s')).setCell ⟨q, 2, none⟩ (.int .i64 a')).setCell ⟨q, 3, none⟩ (.int .i64 b')).heap[q]? = some (.cells #[.int .i64 n', .int .i64 s', .int .i64 a', .int .i64 b', .bool g, .string (text t), .int .i64 d, .int .i64 e] 50 (0, 0)) := (heap_setCell_same _ q 3 _ _ _ h2).trans rfl
  have h4 : (((((W.setCell ⟨q, 0, none⟩ (.int .i64 n')).setCell ⟨q, 1, none⟩ (.int .i64 s')).setCell ⟨q, 2, none⟩ (.int .i64 a')).setCell ⟨q, 3, none⟩ (.int .i64 b')).setCell ⟨q, 4, none⟩ (.bool g')).heap[q]? = some (.cells #[.int .i64 n', .int .i64 s', .int .i64 a', .int .i64 b', .bool g', .string (text t), .int .i64 d, .int .i64 e] 50 (0, 0)) := (heap_setCell_same _ q 4 _ _ _ h3).trans rfl
  have h5 : ((((((W.setCell ⟨q, 0, none⟩ (.int .i64 n')).setCell ⟨q, 1, none⟩ (.int .i64 s')).setCell ⟨q, 2, none⟩ (.int .i64 a')).setCell ⟨q, 3, none⟩ (.int .i64 b')).setCell ⟨q, 4, none⟩ (.bool g')).setCell ⟨q, 5, none⟩ (.string (text t'))).heap[q]? = some (.cells #[.int .i64 n', .int .i64 s', .int .i64 a', .int .i64 b', .bool g', .string (text t'), .int .i64 d, .int .i64 e] 50 (0, 0)) := (heap_setCell_same _ q 5 _ _ _ h4).trans rfl
  have h6 : (((((((W.setCell ⟨q, 0, none⟩ (.int .i64 n')).setCell ⟨q, 1, none⟩ (.int .i64 s')).setCell ⟨q, 2, none⟩ (.int .i64 a')).setCell ⟨q, 3, none⟩ (.int .i64 b')).setCell ⟨q, 4, none⟩ (.bool g')).setCell ⟨q, 5, none⟩ (.string (text t'))).setCell ⟨q, 6, none⟩ (.int .i64 d')).heap[q]? = some (.cells #[.int .i64 n', .int .i64 s', .int .i64 a', .int .i64 b', .bool g', .string (text t'), .int .i64 d', .int .i64 e] 50 (0, 0)) := (heap_setCell_same _ q 6 _ _ _ h5).trans rfl
  have h7 : ((((((((W.setCell ⟨q, 0, none⟩ (.int .i64 n')).setCell ⟨q, 1, none⟩ (.int .i64 s')).setCell ⟨q, 2, none⟩ (.int .i64 a')).setCell ⟨q, 3, none⟩ (.int .i64 b')).setCell ⟨q, 4, none⟩ (.bool g')).setCell ⟨q, 5, none⟩ (.string (text t'))).setCell ⟨q, 6, none⟩ (.int .i64 d')).setCell ⟨q, 7, none⟩ (.int .i64 e')).heap[q]? = some (.cells #[.int .i64 n', .int .i64 s', .int .i64 a', .int .i64 b', .bool g', .string (text t'), .int .i64 d', .int .i64 e'] 50 (0, 0)) := (heap_setCell_same _ q 7 _ _ _ h6).trans rfl
  exact h7
theorem put_below {B : Nat} {w W : World} (h : Below B w W) {q : Nat} (hq : B ≤ q) (n' s' a' b' : Int) (g' : Bool) (t' : List UInt8) (d' e' : Int) : Below B w ((((((((W.setCell ⟨q, 0, none⟩ (.int .i64 n')).setCell ⟨q, 1, none⟩ (.int .i64 s')).setCell ⟨q, 2, none⟩ (.int .i64 a')).setCell ⟨q, 3, none⟩ (.int .i64 b')).setCell ⟨q, 4, none⟩ (.bool g')).setCell ⟨q, 5, none⟩ (.string (text t'))).setCell ⟨q, 6, none⟩ (.int .i64 d')).setCell ⟨q, 7, none⟩ (.int .i64 e')) :=
  (((((((h.setCell (p := ⟨q, 0, none⟩) hq _).setCell (p := ⟨q, 1, none⟩) hq _).setCell (p := ⟨q, 2, none⟩) hq _).setCell (p := ⟨q, 3, none⟩) hq _).setCell (p := ⟨q, 4, none⟩) hq _).setCell (p := ⟨q, 5, none⟩) hq _).setCell (p := ⟨q, 6, none⟩) hq _).setCell (p := ⟨q, 7, none⟩) hq _
theorem sizeC (n s a b : Int) (g : Bool) (t : List UInt8) (d e : Int) : (Tryd.prog.info? 50).map (·.size) = some (#[.int .i64 n, .int .i64 s, .int .i64 a, .int .i64 b, .bool g, .string (text t), .int .i64 d, .int .i64 e] : Array Value).size := by kernel_rfl
theorem Cel.third (W : World) (o1 o2 : Obj) (n s a b : Int) (g : Bool) (t : List UInt8) (d e : Int) : Cel (((W.alloc o1).alloc o2).alloc (.cells #[.int .i64 n, .int .i64 s, .int .i64 a, .int .i64 b, .bool g, .string (text t), .int .i64 d, .int .i64 e] 50)) (W.heap.size + 1 + 1) n s a b g t d e := by
  have h := Cel.new ((W.alloc o1).alloc o2) n s a b g t d e
  rwa [World.size_alloc, World.size_alloc] at h
end Go.Proofs.YtkjpmdpljdgcjaaDoor
