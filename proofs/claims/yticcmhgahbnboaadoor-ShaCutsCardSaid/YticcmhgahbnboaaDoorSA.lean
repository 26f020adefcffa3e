/-
  ARRAYS that are handed about: what the walks over sha read of them.
-/
import Derived.Test.YticcmhgahbnboaaDoorSW
import Derived.Test.YticcmhgahbnboaaDoorCo
import Derived.Laws.Rows
namespace Go.Proofs.YticcmhgahbnboaaDoor
open Go.RowKit Go
set_option linter.unusedVariables false

theorem run_index_agg {P : Program} {w : World} {t e : TypeId} {n : Nat} {kk : IntKind} {i : TypeInfo} (h : P.underlying t = some (.array n e)) (he : P.underlying e = some (.int kk)) (hi : P.info? e = some i) (hs : i.size = 1)
    (cs : Array Value) (k : Nat) (hk : k < n) {v : Value} (hv : cs[k]? = some v) : (Instr.index t (.agg cs) (.int .i64 (k : Int))).run P w = .ok v w := by
  have hb : (0 : Int) ≤ (k : Int) ∧ (k : Int) < (n : Int) := by omega
  have hag : (isAgg e).run P w = .ok false w := by
    unfold isAgg
    rw [Sem.run_bind, run_underlying he w]
    rfl
  simp [Instr.index, run_underlying h, asIntOf, hb, hk, part, hag, sizeOf, typeInfo, hi, hs, hv, go_sem]
  try (intro h; omega)

theorem Tryd.info43 : (Tryd.prog.info? 43).map (fun i => (i.zero, i.size, i.bytes)) = some (some (.int .u32 0), 1, 4) := by kernel_rfl

/-- A row of words, laid whole. -/
def RowW (W : World) (g : Nat) (t : TypeId) (l : List W32) : Prop := W.heap[g]? = some (.cells (u32v l).toArray t (0, 0))
theorem RowW.cell {W : World} {g : Nat} {t : TypeId} {l : List W32} (h : RowW W g t l) (i : Nat) (hi : i < l.length) : W.cell? ⟨g, i, none⟩ = some (.int .u32 (I (wAt l i))) := by
  rw [cell_of_row W g i _ t (0, 0) h]
  rw [List.getElem?_toArray]
  exact u32v_get l i hi
theorem RowW.frozen {W : World} {g : Nat} {t : TypeId} {l : List W32} (h : RowW W g t l) (i : Nat) : W.frozen? ⟨g, i, none⟩ = false := frozen_of_row W g i _ t h
theorem RowW.set {W : World} {g : Nat} {t : TypeId} {l : List W32} (h : RowW W g t l) (i : Nat) (x : W32) : RowW (W.setCell ⟨g, i, none⟩ (.int .u32 (I x))) g t (l.set i x) := by
  unfold RowW
  rw [heap_setCell_same W g i _ t _ h, ← u32v_set]
  simp
theorem RowW.kept {W W' : World} {g : Nat} {t : TypeId} {l : List W32} (h : RowW W g t l) (hb : Below W.heap.size W W') : RowW W' g t l :=
  (hb.block g (Array.getElem?_eq_some_iff.1 h).1).trans h
theorem RowW.lt {W : World} {g : Nat} {t : TypeId} {l : List W32} (h : RowW W g t l) : g < W.heap.size := (Array.getElem?_eq_some_iff.1 h).1
theorem RowW.other {W : World} {g : Nat} {t : TypeId} {l : List W32} (h : RowW W g t l) (a : Addr) (v : Value) (hne : g ≠ a.block) : RowW (W.setCell a v) g t l :=
  (heap_setCell_other W a g v hne).trans h
theorem RowW.alloc {W : World} {g : Nat} {t : TypeId} {l : List W32} (h : RowW W g t l) (o : Obj) : RowW (W.alloc o) g t l :=
  (Below.heap_alloc W o g h.lt).trans h

theorem RowW.setRow {W : World} {g : Nat} {t : TypeId} {l : List W32} (h : RowW W g t l) (m : List W32) : RowW (W.setRow g (u32v m).toArray) g t m := setRow_heap W g _ _ t _ h
theorem u32v_one (l : List W32) : (u32v l).toArray.all (·.oneCell') = true := by
  rw [Array.all_eq_true_iff_forall_mem]
  intro v hv
  simp [u32v] at hv
  obtain ⟨x, _, rfl⟩ := hv
  rfl
theorem RowW.store {W : World} {g : Nat} {t : TypeId} {l : List W32} (h : RowW W g t l) (m : List W32) (hm : m.length = l.length) : (storeCells ⟨g, 0, none⟩ (u32v m)).run Tryd.prog W = .ok () (W.setRow g (u32v m).toArray) := by
  have := run_storeCells_from (P := Tryd.prog) g t (u32v m) 0 (u32v l).toArray W h (by simp [u32v, hm]) (fun v hv => (Array.all_eq_true_iff_forall_mem.1 (u32v_one m)) v (by simpa using hv))
  simpa using this
theorem Tryd.size8w : (Tryd.prog.info? 61).map (·.size) = some 8 := by kernel_rfl
theorem Tryd.size64w : (Tryd.prog.info? 78).map (·.size) = some 64 := by kernel_rfl
theorem size_u32 (l : List W32) (n : Nat) (h : l.length = n) : (u32v l).toArray.size = n := by simp [u32v, h]

/-- Words handed about. -/
def aggW (l : List W32) : Value := .agg (u32v l).toArray

/-- A state comes back. -/
def AggPost (l : List W32) (w : World) (e : Ending) (w' : World) : Prop := e = .returned (aggW l) ∧ Below w.heap.size w w'

/-- The constants' table. -/
structure TabS (W : World) : Prop where
  start : ∃ t fr, W.heap[0]? = some (.cells (u32v startS.list).toArray t fr)
  cons : ∃ t fr, W.heap[1]? = some (.cells (u32v kS).toArray t fr)
theorem TabS.below {w w' : World} (h : TabS w) (hb : Below w.heap.size w w') : TabS w' := by
  obtain ⟨⟨t1, f1, h1⟩, t2, f2, h2⟩ := h
  exact ⟨⟨t1, f1, (hb.block _ (Array.getElem?_eq_some_iff.1 h1).1).trans h1⟩, t2, f2, (hb.block _ (Array.getElem?_eq_some_iff.1 h2).1).trans h2⟩
end Go.Proofs.YticcmhgahbnboaaDoor
