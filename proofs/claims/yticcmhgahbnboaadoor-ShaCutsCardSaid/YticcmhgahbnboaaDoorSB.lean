/-
  ROWS OF BYTES, laid whole; a message's tail in plain mathematics.
-/
import Derived.Test.YticcmhgahbnboaaDoorSA
import Derived.Test.YticcmhgahbnboaaDoorCF
namespace Go.Proofs.YticcmhgahbnboaaDoor
open Go.RowKit Go
set_option linter.unusedVariables false

/-- A row of bytes, laid whole. -/
def RowB (W : World) (g : Nat) (t : TypeId) (l : List UInt8) : Prop := W.heap[g]? = some (.cells (u8v l).toArray t (0, 0))
theorem RowB.cell {W : World} {g : Nat} {t : TypeId} {l : List UInt8} (h : RowB W g t l) (i : Nat) (hi : i < l.length) : W.cell? ⟨g, i, none⟩ = some (.int .u8 (by8 l i)) := by
  rw [cell_of_row W g i _ t (0, 0) h, List.getElem?_toArray]
  exact u8v_get l i hi
theorem RowB.frozen {W : World} {g : Nat} {t : TypeId} {l : List UInt8} (h : RowB W g t l) (i : Nat) : W.frozen? ⟨g, i, none⟩ = false := frozen_of_row W g i _ t h
theorem RowB.set {W : World} {g : Nat} {t : TypeId} {l : List UInt8} (h : RowB W g t l) (i : Nat) (x : UInt8) : RowB (W.setCell ⟨g, i, none⟩ (.int .u8 (x.toNat : Int))) g t (l.set i x) := by
  unfold RowB
  rw [heap_setCell_same W g i _ t _ h, ← u8v_set]
  simp
theorem RowB.kept {W W' : World} {g : Nat} {t : TypeId} {l : List UInt8} (h : RowB W g t l) (hb : Below W.heap.size W W') : RowB W' g t l :=
  (hb.block g (Array.getElem?_eq_some_iff.1 h).1).trans h
theorem RowB.lt {W : World} {g : Nat} {t : TypeId} {l : List UInt8} (h : RowB W g t l) : g < W.heap.size := (Array.getElem?_eq_some_iff.1 h).1
theorem RowB.other {W : World} {g : Nat} {t : TypeId} {l : List UInt8} (h : RowB W g t l) (a : Addr) (v : Value) (hne : g ≠ a.block) : RowB (W.setCell a v) g t l :=
  (heap_setCell_other W a g v hne).trans h
theorem RowB.alloc {W : World} {g : Nat} {t : TypeId} {l : List UInt8} (h : RowB W g t l) (o : Obj) : RowB (W.alloc o) g t l :=
  (Below.heap_alloc W o g h.lt).trans h
theorem RowB.setRow {W : World} {g : Nat} {t : TypeId} {l : List UInt8} (h : RowB W g t l) (m : List UInt8) : RowB (W.setRow g (u8v m).toArray) g t m := setRow_heap W g _ _ t _ h
theorem u8v_ones (l : List UInt8) : (u8v l).toArray.all (·.oneCell') = true := by
  rw [Array.all_eq_true_iff_forall_mem]
  intro v hv
  exact u8v_one l v (by simpa using hv)
theorem RowB.store {W : World} {g : Nat} {t : TypeId} {l : List UInt8} (h : RowB W g t l) (m : List UInt8) (hm : m.length = l.length) : (storeCells ⟨g, 0, none⟩ (u8v m)).run Tryd.prog W = .ok () (W.setRow g (u8v m).toArray) := by
  have := run_storeCells_from (P := Tryd.prog) g t (u8v m) 0 (u8v l).toArray W h (by simp [u8v, hm]) (fun v hv => u8v_one m v hv)
  simpa using this
theorem RowB.bys {W : World} {g : Nat} {t : TypeId} {l : List UInt8} (h : RowB W g t l) (hm : l.length ≤ 9223372036854775807) : Bys W (some ⟨g, 0, none⟩) l.length l.length l :=
  ⟨rfl, Nat.le_refl _, hm, .inr ⟨g, 0, rfl, fun i hi => by rw [Nat.zero_add]; exact h.cell i hi⟩⟩

/-- Byte j, from the lower end, of a number. -/
def nByte (n j : Nat) : UInt8 := UInt8.ofNat (n / 256 ^ j % 256)
theorem nByte_nat (n j : Nat) : ((nByte n j).toNat : Int) = ((n / 256 ^ j % 256 : Nat) : Int) := by
  unfold nByte; simp
/-- How many noughts stand in a tail. -/
def nilS (n : Nat) : Nat := (128 - (n % 64 + 1 + 8)) % 64
/-- What a message of n bytes has behind it. -/
def tailS (n : Nat) : List UInt8 := 0x80 :: List.replicate (nilS n) 0 ++ [nByte (8 * n) 7, nByte (8 * n) 6, nByte (8 * n) 5, nByte (8 * n) 4, nByte (8 * n) 3, nByte (8 * n) 2, nByte (8 * n) 1, nByte (8 * n) 0]
/-- A tail of which k bytes of the length are laid. -/
def tailK (n : Nat) : Nat → List UInt8
  | 0 => 0x80 :: List.replicate (nilS n + 8) 0
  | k + 1 => (tailK n k).set (nilS n + 8 - k) (nByte (8 * n) k)
theorem tailK_length (n k : Nat) : (tailK n k).length = nilS n + 9 := by
  induction k with
  | zero => simp [tailK]
  | succ k ih => simp [tailK, ih]
theorem tailS_length (n : Nat) : (tailS n).length = nilS n + 9 := by simp [tailS]
theorem set_far (l r : List UInt8) (x : UInt8) (i j : Nat) (h : i = l.length + j) : (l ++ r).set i x = l ++ r.set j x := by
  subst h; rw [List.set_append_right _ _ (by omega)]; simp
theorem tailK_all (n : Nat) : tailK n 8 = tailS n := by
  have h0 : tailK n 0 = (0x80 :: List.replicate (nilS n) 0) ++ [0, 0, 0, 0, 0, 0, 0, 0] := by
    show 0x80 :: List.replicate (nilS n + 8) 0 = _
    rw [← List.replicate_append_replicate]; rfl
  have hl : (0x80 :: List.replicate (nilS n) (0 : UInt8)).length = nilS n + 1 := by simp
  show ((((((((tailK n 0).set (nilS n + 8 - 0) _).set (nilS n + 8 - 1) _).set (nilS n + 8 - 2) _).set (nilS n + 8 - 3) _).set (nilS n + 8 - 4) _).set (nilS n + 8 - 5) _).set (nilS n + 8 - 6) _).set (nilS n + 8 - 7) _ = _
  rw [h0, set_far _ _ _ _ 7 (by rw [hl]; omega), set_far _ _ _ _ 6 (by rw [hl]; omega), set_far _ _ _ _ 5 (by rw [hl]; omega), set_far _ _ _ _ 4 (by rw [hl]; omega), set_far _ _ _ _ 3 (by rw [hl]; omega), set_far _ _ _ _ 2 (by rw [hl]; omega), set_far _ _ _ _ 1 (by rw [hl]; omega), set_far _ _ _ _ 0 (by rw [hl]; omega)]
  rfl
/-- A message with its tail is whole blocks. -/
theorem tail_whole (n : Nat) : (n + (tailS n).length) % 64 = 0 := by
  rw [tailS_length]; unfold nilS; omega
end Go.Proofs.YticcmhgahbnboaaDoor
