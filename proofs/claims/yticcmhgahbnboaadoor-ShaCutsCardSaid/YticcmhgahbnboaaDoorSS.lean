/-
  sha.State: one block of 74 cells; New, good, Len.
-/
import Derived.Test.YticcmhgahbnboaaDoorSB
import Derived.Deep.QuietTactic
import Derived.BigQuiet
import Derived.Deep.MidRow
import Derived.Outline
namespace Go.Proofs.YticcmhgahbnboaaDoor
open Go.RowKit Go
set_option linter.unusedVariables false

/-- The cells of a state. -/
def stv (r : Rd) (wt : List UInt8) (n : Nat) : List Value := .bool true :: (u32v r.list ++ (u8v wt ++ [.int .i64 (n : Int)]))
theorem r8 (r : Rd) : (u32v r.list).length = 8 := rfl
theorem stv_length (r : Rd) (wt : List UInt8) (n : Nat) (h : wt.length = 64) : (stv r wt n).length = 74 := by simp [stv, r8, u8v_length, h]
/-- A state of the world. -/
structure St (W : World) (g : Nat) (r : Rd) (wt : List UInt8) (n : Nat) : Prop where
  len : wt.length = 64
  row : W.heap[g]? = some (.cells (stv r wt n).toArray 64 (0, 0))
theorem St.lt {W : World} {g : Nat} {r : Rd} {wt : List UInt8} {n : Nat} (h : St W g r wt n) : g < W.heap.size := (Array.getElem?_eq_some_iff.1 h.row).1
theorem St.kept {W W' : World} {g : Nat} {r : Rd} {wt : List UInt8} {n : Nat} (h : St W g r wt n) (hb : Below W.heap.size W W') : St W' g r wt n :=
  ⟨h.len, (hb.block g h.lt).trans h.row⟩
theorem St.made {W : World} {g : Nat} {r : Rd} {wt : List UInt8} {n : Nat} (h : St W g r wt n) : W.cell? ⟨g, 0, none⟩ = some (.bool true) := by
  rw [cell_of_row W g 0 _ _ (0, 0) h.row]; rfl
theorem stv_words (r : Rd) (wt : List UInt8) (n j : Nat) (v : Value) (hv : (u32v r.list)[j]? = some v) : (stv r wt n)[1 + j]? = some v := by
  have hj : j < 8 := by have := (List.getElem?_eq_some_iff.1 hv).1; rwa [r8] at this
  unfold stv
  rw [Nat.add_comm, List.getElem?_cons_succ, List.getElem?_append_left (by rw [r8]; exact hj)]
  exact hv
theorem stv_bytes (r : Rd) (wt : List UInt8) (n j : Nat) (v : Value) (hv : (u8v wt)[j]? = some v) : (stv r wt n)[9 + j]? = some v := by
  have hj := (List.getElem?_eq_some_iff.1 hv).1
  unfold stv
  rw [show 9 + j = (8 + j) + 1 by omega, List.getElem?_cons_succ, List.getElem?_append_right (by rw [r8]; omega), r8, Nat.add_sub_cancel_left, List.getElem?_append_left hj]
  exact hv
theorem stv_count (r : Rd) (wt : List UInt8) (n : Nat) (h : wt.length = 64) : (stv r wt n)[73]? = some (.int .i64 (n : Int)) := by
  unfold stv
  rw [List.getElem?_cons_succ, List.getElem?_append_right (by rw [r8]; omega), r8, List.getElem?_append_right (by rw [u8v_length]; omega), u8v_length, h]
  rfl
theorem St.words {W : World} {g : Nat} {r : Rd} {wt : List UInt8} {n : Nat} (h : St W g r wt n) : W.rangeAt g 1 (u32v r.list) := fun j v hv => by
  rw [cell_of_row W g _ _ _ (0, 0) h.row, List.getElem?_toArray]
  exact stv_words r wt n j v hv
theorem St.bytes {W : World} {g : Nat} {r : Rd} {wt : List UInt8} {n : Nat} (h : St W g r wt n) : W.rangeAt g 9 (u8v wt) := fun j v hv => by
  rw [cell_of_row W g _ _ _ (0, 0) h.row, List.getElem?_toArray]
  exact stv_bytes r wt n j v hv
theorem St.count {W : World} {g : Nat} {r : Rd} {wt : List UInt8} {n : Nat} (h : St W g r wt n) : W.cell? ⟨g, 73, none⟩ = some (.int .i64 (n : Int)) := by
  rw [cell_of_row W g _ _ _ (0, 0) h.row, List.getElem?_toArray]
  exact stv_count r wt n h.len
theorem St.frozen {W : World} {g : Nat} {r : Rd} {wt : List UInt8} {n : Nat} (h : St W g r wt n) (i : Nat) : W.frozen? ⟨g, i, none⟩ = false := frozen_of_row W g i _ _ h.row
/-- The count is set. -/
theorem St.setCount {W : World} {g : Nat} {r : Rd} {wt : List UInt8} {n : Nat} (h : St W g r wt n) (m : Nat) : St (W.setCell ⟨g, 73, none⟩ (.int .i64 (m : Int))) g r wt m := by
  refine ⟨h.len, ?_⟩
  rw [heap_setCell_same W g 73 _ _ _ h.row]
  have : (stv r wt n).set 73 (.int .i64 (m : Int)) = stv r wt m := by
    unfold stv
    rw [List.set_cons_succ, List.set_append_right _ _ (by rw [r8]; omega), r8, List.set_append_right _ _ (by rw [u8v_length, h.len]; omega), u8v_length, h.len]
    rfl
  rw [← this]
  simp
/-- The words are set. -/
theorem St.setWords {W : World} {g : Nat} {r : Rd} {wt : List UInt8} {n : Nat} (h : St W g r wt n) (r' : Rd) :
    (storeCells ⟨g, 1, none⟩ (u32v r'.list)).run Tryd.prog W = .ok () (W.setRow g (stv r' wt n).toArray) := by
  have := run_storeCells_at Tryd.prog g 1 64 (u32v r'.list) 0 (stv r wt n).toArray W h.row (by rw [r8]; simp [stv_length r wt n h.len]) (fun v hv => (Array.all_eq_true_iff_forall_mem.1 (u32v_one r'.list)) v (by simpa using hv))
  rw [this, r8]
  have e : (stv r wt n).toArray.toList.take (1 + 0) ++ u32v r'.list ++ (stv r wt n).toArray.toList.drop (1 + 0 + 8) = stv r' wt n := by
    rw [List.toList_toArray]
    unfold stv
    rw [show 1 + 0 + 8 = 8 + 1 from rfl, List.drop_succ_cons, List.drop_left' (r8 r)]
    rfl
  rw [e]
theorem St.row' {W : World} {g : Nat} {r : Rd} {wt : List UInt8} {n : Nat} (h : St W g r wt n) (r' : Rd) : St (W.setRow g (stv r' wt n).toArray) g r' wt n :=
  ⟨h.len, setRow_heap W g _ _ _ _ h.row⟩

/-- Sixty-four noughts. -/
def nil64 : List UInt8 := List.replicate 64 0
def NewPost (w : World) (e : Ending) (w' : World) : Prop := e = .returned (.pointer (some ⟨w.heap.size, 0, none⟩)) ∧ St w' w.heap.size startS nil64 0 ∧ Below w.heap.size w w'

theorem build_start : List.foldl (fun cs x => cs.setIfInBounds (1 + x.snd) x.fst) (Tryd.zeroCells64.setIfInBounds 0 (Value.bool true)) (u32v startS.list).zipIdx = (stv startS nil64 0).toArray := by kernel_rfl

set_option maxRecDepth 100000 in
set_option maxHeartbeats 1600000 in
theorem new_c {w : World} (hT : TabS w) : Calls Tryd.prog 26 #[] w (NewPost w) := by
  obtain ⟨tc, fr, hst⟩ := hT.start
  have hrow := heap_alloc_new w (.cells (stv startS nil64 0).toArray 64)
  have HB := Lib.hid ((Below.refl w.heap.size w).alloc (Nat.le_refl _) (.cells (stv startS nil64 0).toArray 64))
  have HR := Lib.hid hrow
  have HS := Lib.hid hst
  clear hst hrow
  go_enter Tryd.func26, Tryd.ntmps26
  go_wp2_with (first
    | (refine wpList_load_row rfl 61 (.global 0) rfl 0 rfl tc (u32v startS.list).toArray fr (.array 8 43) HS.out Tryd.underlying61 rfl Tryd.size8w ?_))
  rw [build_start]
  go_ret
  exact ⟨rfl, ⟨rfl, HR.out⟩, HB.out⟩

set_option maxHeartbeats 800000 in
theorem good_c {w : World} {g : Nat} {r : Rd} {wt : List UInt8} {n : Nat} (h : St w g r wt n) : Calls Tryd.prog 44 #[.pointer (some ⟨g, 0, none⟩)] w (RetBool true w) := by
  have hc := h.made
  go_enter Tryd.func44, Tryd.ntmps44
  go_wp2
  go_ret
  exact RetBool.mk rfl
set_option maxHeartbeats 800000 in
theorem good_nil {w : World} : Calls Tryd.prog 44 #[.pointer none] w (RetBool false w) := by
  go_enter Tryd.func44, Tryd.ntmps44
  go_wp2
  go_ret
  exact RetBool.mk rfl
set_option maxHeartbeats 800000 in
theorem good_no {w : World} {g : Nat} (hc : w.cell? ⟨g, 0, none⟩ = some (.bool false)) : Calls Tryd.prog 44 #[.pointer (some ⟨g, 0, none⟩)] w (RetBool false w) := by
  go_enter Tryd.func44, Tryd.ntmps44
  go_wp2
  go_ret
  exact RetBool.mk rfl

def RetInt (x : Int) (w : World) (e : Ending) (w' : World) : Prop := e = .returned (.int .i64 x) ∧ w = w'
set_option maxHeartbeats 800000 in
theorem len_c {w : World} {g : Nat} {r : Rd} {wt : List UInt8} {n : Nat} (h : St w g r wt n) : Calls Tryd.prog 28 #[.pointer (some ⟨g, 0, none⟩)] w (RetInt n w) := by
  have hc := h.count
  go_enter Tryd.func28, Tryd.ntmps28
  go_wp2_with (go_at_call 44; refine (good_c h).mono ?_; rintro e w' ⟨rfl, rfl⟩)
  go_ret
  exact ⟨rfl, rfl⟩
set_option maxHeartbeats 800000 in
theorem len_nil {w : World} : Calls Tryd.prog 28 #[.pointer none] w (RetInt 0 w) := by
  go_enter Tryd.func28, Tryd.ntmps28
  go_wp2_with (go_at_call 44; refine good_nil.mono ?_; rintro e w' ⟨rfl, rfl⟩)
  go_ret
  exact ⟨rfl, rfl⟩
set_option maxHeartbeats 800000 in
theorem len_no {w : World} {g : Nat} (hc : w.cell? ⟨g, 0, none⟩ = some (.bool false)) : Calls Tryd.prog 28 #[.pointer (some ⟨g, 0, none⟩)] w (RetInt 0 w) := by
  go_enter Tryd.func28, Tryd.ntmps28
  go_wp2_with (go_at_call 44; refine (good_no hc).mono ?_; rintro e w' ⟨rfl, rfl⟩)
  go_ret
  exact ⟨rfl, rfl⟩

set_option maxHeartbeats 800000 in
theorem add_nil {w : World} {v : Value} : Calls Tryd.prog 27 #[.pointer none, v] w (RetInt 1 w) := by
  go_enter Tryd.func27, Tryd.ntmps27
  go_wp2_with (go_at_call 44; refine good_nil.mono ?_; rintro e w' ⟨rfl, rfl⟩)
  go_ret
  exact ⟨rfl, rfl⟩
set_option maxHeartbeats 800000 in
theorem add_no {w : World} {g : Nat} {v : Value} (hc : w.cell? ⟨g, 0, none⟩ = some (.bool false)) : Calls Tryd.prog 27 #[.pointer (some ⟨g, 0, none⟩), v] w (RetInt 1 w) := by
  go_enter Tryd.func27, Tryd.ntmps27
  go_wp2_with (go_at_call 44; refine (good_no hc).mono ?_; rintro e w' ⟨rfl, rfl⟩)
  go_ret
  exact ⟨rfl, rfl⟩
end Go.Proofs.YticcmhgahbnboaaDoor
