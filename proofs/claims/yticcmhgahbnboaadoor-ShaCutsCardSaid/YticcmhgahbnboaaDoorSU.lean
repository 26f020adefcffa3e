/-
  (*sha.State).Sum.
-/
import Derived.Test.YticcmhgahbnboaaDoorSD
import Derived.Test.YticcmhgahbnboaaDoorST
import Derived.Deep.Cut
namespace Go.Proofs.YticcmhgahbnboaaDoor
open Go.RowKit Go
set_option linter.unusedVariables false

/-- A state's numbers as bytes. -/
def digS (r : Rd) : List UInt8 := r.list.flatMap four
theorem digS_length (r : Rd) : (digS r).length = 32 := rfl
theorem digS_at (r : Rd) (j c : Nat) (hj : j < 8) (hc : c < 4) : by8 (digS r) (4 * j + c) = by8 (four (wAt r.list j)) c := by
  rcases (by omega : j = 0 ∨ j = 1 ∨ j = 2 ∨ j = 3 ∨ j = 4 ∨ j = 5 ∨ j = 6 ∨ j = 7) with rfl | rfl | rfl | rfl | rfl | rfl | rfl | rfl <;>
    rcases (by omega : c = 0 ∨ c = 1 ∨ c = 2 ∨ c = 3) with rfl | rfl | rfl | rfl <;> rfl
/-- A digest of which k bytes are laid. -/
def digK (r : Rd) (k : Nat) : List UInt8 := (digS r).take k ++ List.replicate (32 - k) 0
theorem digK_length (r : Rd) (k : Nat) (h : k ≤ 32) : (digK r k).length = 32 := by simp [digK, digS_length]; omega
theorem digK_set (r : Rd) (k : Nat) (h : k < 32) : (digK r k).set k ((digS r).getD k 0) = digK r (k + 1) := by
  unfold digK
  have hl : ((digS r).take k).length = k := by simp [digS_length]; omega
  rw [List.set_append_right _ _ (by omega), hl, Nat.sub_self, show 32 - k = (32 - (k + 1)) + 1 by omega, List.replicate_succ, List.set_cons_zero, List.take_add_one, List.append_assoc]
  congr 1
  rw [List.getD_eq_getElem?_getD, List.getElem?_eq_getElem (by rw [digS_length]; exact h)]
  rfl
theorem digK_all (r : Rd) : digK r 32 = digS r := by unfold digK; rw [List.take_of_length_le (by rw [digS_length]; exact Nat.le_refl _)]; simp
theorem stv_ones (r : Rd) (wt : List UInt8) (n : Nat) : ∀ v ∈ stv r wt n, v.oneCell' = true := by
  intro v hv
  unfold stv at hv
  rcases List.mem_cons.1 hv with rfl | hv
  · rfl
  rcases List.mem_append.1 hv with hv | hv
  · exact (Array.all_eq_true_iff_forall_mem.1 (u32v_one r.list)) v (by simpa using hv)
  rcases List.mem_append.1 hv with hv | hv
  · exact u8v_one wt v hv
  · obtain rfl := List.mem_singleton.1 hv
    rfl
theorem size_st (r : Rd) (wt : List UInt8) (n : Nat) (h : wt.length = 64) : (Tryd.prog.info? 64).map (·.size) = some (stv r wt n).toArray.size := by
  rw [show (stv r wt n).toArray.size = 74 from by simp [stv_length r wt n h]]; kernel_rfl
theorem size_dig (l : List UInt8) (h : l.length = 32) : (Tryd.prog.info? 46).map (·.size) = some (u8v l).toArray.size := by
  rw [show (u8v l).toArray.size = 32 from by simp [u8v, h]]; kernel_rfl

theorem St.other {W : World} {g : Nat} {r : Rd} {wt : List UInt8} {n : Nat} (h : St W g r wt n) (a : Addr) (v : Value) (hne : g ≠ a.block) : St (W.setCell a v) g r wt n :=
  ⟨h.len, (heap_setCell_other W a g v hne).trans h.row⟩
set_option maxRecDepth 100000 in
set_option maxHeartbeats 3200000 in
theorem ssum_c {w : World} {g : Nat} {r : Rd} {wt l : List UInt8} (hT : TabS w) (hS : St w g r wt l.length) (hC : Came r wt l) (hlim : l.length ≤ 900000) :
    Calls Tryd.prog 29 #[.pointer (some ⟨g, 0, none⟩)] w (ValPost (.agg (u8v (digS (lastS l))).toArray) w) := by
  obtain ⟨n, hn⟩ : ∃ n, l.length = n := ⟨_, rfl⟩
  rw [hn] at hS hlim
  have hwl := hS.len
  have hb0 : Below w.heap.size w (w.alloc (.cells #[.int .u8 0, .int .u8 0, .int .u8 0, .int .u8 0, .int .u8 0, .int .u8 0, .int .u8 0, .int .u8 0, .int .u8 0, .int .u8 0, .int .u8 0, .int .u8 0, .int .u8 0, .int .u8 0, .int .u8 0, .int .u8 0, .int .u8 0, .int .u8 0, .int .u8 0, .int .u8 0, .int .u8 0, .int .u8 0, .int .u8 0, .int .u8 0, .int .u8 0, .int .u8 0, .int .u8 0, .int .u8 0, .int .u8 0, .int .u8 0, .int .u8 0, .int .u8 0] 46)) := (Below.refl w.heap.size w).alloc (Nat.le_refl _) _
  have hS1 : St (w.alloc (.cells #[.int .u8 0, .int .u8 0, .int .u8 0, .int .u8 0, .int .u8 0, .int .u8 0, .int .u8 0, .int .u8 0, .int .u8 0, .int .u8 0, .int .u8 0, .int .u8 0, .int .u8 0, .int .u8 0, .int .u8 0, .int .u8 0, .int .u8 0, .int .u8 0, .int .u8 0, .int .u8 0, .int .u8 0, .int .u8 0, .int .u8 0, .int .u8 0, .int .u8 0, .int .u8 0, .int .u8 0, .int .u8 0, .int .u8 0, .int .u8 0, .int .u8 0, .int .u8 0] 46)) g r wt n := hS.kept hb0
  have HRW := Lib.hid hS1.row
  have hsz := size_st r wt n hwl
  have hgd := good_c hS1
  have hz1 : ((w.alloc (.cells #[.int .u8 0, .int .u8 0, .int .u8 0, .int .u8 0, .int .u8 0, .int .u8 0, .int .u8 0, .int .u8 0, .int .u8 0, .int .u8 0, .int .u8 0, .int .u8 0, .int .u8 0, .int .u8 0, .int .u8 0, .int .u8 0, .int .u8 0, .int .u8 0, .int .u8 0, .int .u8 0, .int .u8 0, .int .u8 0, .int .u8 0, .int .u8 0, .int .u8 0, .int .u8 0, .int .u8 0, .int .u8 0, .int .u8 0, .int .u8 0, .int .u8 0, .int .u8 0] 46)).alloc (.cells Tryd.zeroCells64 64)).heap[w.heap.size + 1]? = some (.cells Tryd.zeroCells64 64 (0, 0)) := by
    have := heap_alloc_new (w.alloc (.cells #[.int .u8 0, .int .u8 0, .int .u8 0, .int .u8 0, .int .u8 0, .int .u8 0, .int .u8 0, .int .u8 0, .int .u8 0, .int .u8 0, .int .u8 0, .int .u8 0, .int .u8 0, .int .u8 0, .int .u8 0, .int .u8 0, .int .u8 0, .int .u8 0, .int .u8 0, .int .u8 0, .int .u8 0, .int .u8 0, .int .u8 0, .int .u8 0, .int .u8 0, .int .u8 0, .int .u8 0, .int .u8 0, .int .u8 0, .int .u8 0, .int .u8 0, .int .u8 0] 46)) (.cells Tryd.zeroCells64 64)
    rw [World.size_alloc] at this
    exact this
  have hst : (storeCells ⟨w.heap.size + 1, 0, none⟩ (stv r wt n)).run Tryd.prog ((w.alloc (.cells #[.int .u8 0, .int .u8 0, .int .u8 0, .int .u8 0, .int .u8 0, .int .u8 0, .int .u8 0, .int .u8 0, .int .u8 0, .int .u8 0, .int .u8 0, .int .u8 0, .int .u8 0, .int .u8 0, .int .u8 0, .int .u8 0, .int .u8 0, .int .u8 0, .int .u8 0, .int .u8 0, .int .u8 0, .int .u8 0, .int .u8 0, .int .u8 0, .int .u8 0, .int .u8 0, .int .u8 0, .int .u8 0, .int .u8 0, .int .u8 0, .int .u8 0, .int .u8 0] 46)).alloc (.cells Tryd.zeroCells64 64)) = .ok () (((w.alloc (.cells #[.int .u8 0, .int .u8 0, .int .u8 0, .int .u8 0, .int .u8 0, .int .u8 0, .int .u8 0, .int .u8 0, .int .u8 0, .int .u8 0, .int .u8 0, .int .u8 0, .int .u8 0, .int .u8 0, .int .u8 0, .int .u8 0, .int .u8 0, .int .u8 0, .int .u8 0, .int .u8 0, .int .u8 0, .int .u8 0, .int .u8 0, .int .u8 0, .int .u8 0, .int .u8 0, .int .u8 0, .int .u8 0, .int .u8 0, .int .u8 0, .int .u8 0, .int .u8 0] 46)).alloc (.cells Tryd.zeroCells64 64)).setRow (w.heap.size + 1) (stv r wt n).toArray) := by
    have := run_storeCells_from (P := Tryd.prog) (w.heap.size + 1) 64 (stv r wt n) 0 Tryd.zeroCells64 _ hz1 (by rw [stv_length r wt n hwl]; kernel_rfl) (stv_ones r wt n)
    simpa using this
  have hl74 : (stv r wt n).length = 74 := stv_length r wt n hwl
  have HG2 := Lib.hid (show Below w.heap.size w (((w.alloc (.cells #[.int .u8 0, .int .u8 0, .int .u8 0, .int .u8 0, .int .u8 0, .int .u8 0, .int .u8 0, .int .u8 0, .int .u8 0, .int .u8 0, .int .u8 0, .int .u8 0, .int .u8 0, .int .u8 0, .int .u8 0, .int .u8 0, .int .u8 0, .int .u8 0, .int .u8 0, .int .u8 0, .int .u8 0, .int .u8 0, .int .u8 0, .int .u8 0, .int .u8 0, .int .u8 0, .int .u8 0, .int .u8 0, .int .u8 0, .int .u8 0, .int .u8 0, .int .u8 0] 46)).alloc (.cells Tryd.zeroCells64 64)).setRow (w.heap.size + 1) (stv r wt n).toArray) from below_setRow (hb0.trans ((Below.refl _ _).alloc (by simp) _)) (by omega) _)
  have HS2 := Lib.hid (show St (((w.alloc (.cells #[.int .u8 0, .int .u8 0, .int .u8 0, .int .u8 0, .int .u8 0, .int .u8 0, .int .u8 0, .int .u8 0, .int .u8 0, .int .u8 0, .int .u8 0, .int .u8 0, .int .u8 0, .int .u8 0, .int .u8 0, .int .u8 0, .int .u8 0, .int .u8 0, .int .u8 0, .int .u8 0, .int .u8 0, .int .u8 0, .int .u8 0, .int .u8 0, .int .u8 0, .int .u8 0, .int .u8 0, .int .u8 0, .int .u8 0, .int .u8 0, .int .u8 0, .int .u8 0] 46)).alloc (.cells Tryd.zeroCells64 64)).setRow (w.heap.size + 1) (stv r wt n).toArray) (w.heap.size + 1) r wt n from ⟨hwl, setRow_heap _ _ _ _ _ _ hz1⟩)
  have HO2 := Lib.hid (show (((w.alloc (.cells #[.int .u8 0, .int .u8 0, .int .u8 0, .int .u8 0, .int .u8 0, .int .u8 0, .int .u8 0, .int .u8 0, .int .u8 0, .int .u8 0, .int .u8 0, .int .u8 0, .int .u8 0, .int .u8 0, .int .u8 0, .int .u8 0, .int .u8 0, .int .u8 0, .int .u8 0, .int .u8 0, .int .u8 0, .int .u8 0, .int .u8 0, .int .u8 0, .int .u8 0, .int .u8 0, .int .u8 0, .int .u8 0, .int .u8 0, .int .u8 0, .int .u8 0, .int .u8 0] 46)).alloc (.cells Tryd.zeroCells64 64)).setRow (w.heap.size + 1) (stv r wt n).toArray).heap[w.heap.size]? = some (.cells #[.int .u8 0, .int .u8 0, .int .u8 0, .int .u8 0, .int .u8 0, .int .u8 0, .int .u8 0, .int .u8 0, .int .u8 0, .int .u8 0, .int .u8 0, .int .u8 0, .int .u8 0, .int .u8 0, .int .u8 0, .int .u8 0, .int .u8 0, .int .u8 0, .int .u8 0, .int .u8 0, .int .u8 0, .int .u8 0, .int .u8 0, .int .u8 0, .int .u8 0, .int .u8 0, .int .u8 0, .int .u8 0, .int .u8 0, .int .u8 0, .int .u8 0, .int .u8 0] 46 (0, 0)) from (setRow_other _ _ _ _ (by omega)).trans ((Below.heap_alloc _ _ _ (by simp)).trans (heap_alloc_new w _)))
  have HE2 := Lib.hid (show (((w.alloc (.cells #[.int .u8 0, .int .u8 0, .int .u8 0, .int .u8 0, .int .u8 0, .int .u8 0, .int .u8 0, .int .u8 0, .int .u8 0, .int .u8 0, .int .u8 0, .int .u8 0, .int .u8 0, .int .u8 0, .int .u8 0, .int .u8 0, .int .u8 0, .int .u8 0, .int .u8 0, .int .u8 0, .int .u8 0, .int .u8 0, .int .u8 0, .int .u8 0, .int .u8 0, .int .u8 0, .int .u8 0, .int .u8 0, .int .u8 0, .int .u8 0, .int .u8 0, .int .u8 0] 46)).alloc (.cells Tryd.zeroCells64 64)).setRow (w.heap.size + 1) (stv r wt n).toArray).heap.size = w.heap.size + 2 by simp [World.setRow])
  clear hz1 hS1 hb0
  go_enter Tryd.func29, Tryd.ntmps29
  go_upto_region 4 with (first
    | (go_at_call 44; (with_reducible refine hgd.mono ?_); rintro e w' ⟨rfl, rfl⟩)
    | (refine wpList_load_row rfl 64 (.tmp 11) rfl g rfl 64 (stv r wt n).toArray (0, 0) _ HRW.out Tryd.underlying64 rfl hsz ?_))
  have HSW := Lib.hid (hS.kept HG2.out)
  clear hst hsz hl74 hgd HRW hS
  generalize (((w.alloc (.cells #[.int .u8 0, .int .u8 0, .int .u8 0, .int .u8 0, .int .u8 0, .int .u8 0, .int .u8 0, .int .u8 0, .int .u8 0, .int .u8 0, .int .u8 0, .int .u8 0, .int .u8 0, .int .u8 0, .int .u8 0, .int .u8 0, .int .u8 0, .int .u8 0, .int .u8 0, .int .u8 0, .int .u8 0, .int .u8 0, .int .u8 0, .int .u8 0, .int .u8 0, .int .u8 0, .int .u8 0, .int .u8 0, .int .u8 0, .int .u8 0, .int .u8 0, .int .u8 0] 46)).alloc (.cells Tryd.zeroCells64 64)).setRow (w.heap.size + 1) (stv r wt n).toArray) = W2 at *
  have hcnt := HSW.out.count
  have hTW := hT.below HG2.out
  go_upto_region 5 with (first
    | (go_at_call 47; (with_reducible refine (tail_c n (by omega)).mono ?_); rintro e w3 ⟨rfl, hrb, hb3⟩)
    | (go_at_call 27; (with_reducible refine (add_c (hTW.below hb3) (by rw [hn]; exact HS2.out.kept hb3) hC (hrb.bys (by rw [tailS_length]; have : nilS n < 64 := (by unfold nilS; omega); omega)) (by intro _ b off e; cases e; rw [HE2.out]; omega) (by rw [tailS_length, hn]; have : nilS n < 64 := (by unfold nilS; omega); omega)).mono ?_); rintro e w4 ⟨rfl, ⟨r', wt', hS4, hC4⟩, hG4⟩))
  rw [← hn] at hC4
  have HRR := Lib.hid hC4.last
  have hW2s := hb3.size
  have hO4 : RowB w4 w.heap.size 46 (List.replicate 32 0) := by
    have h1 : W2.heap[w.heap.size]? = some (.cells (u8v (List.replicate 32 0)).toArray 46 (0, 0)) := HO2.out
    exact (hG4.block _ (by rw [HE2.out] at hW2s; omega) (by simp)).trans ((hb3.block _ (by rw [HE2.out]; omega)).trans h1)
  have hB4 : Below w.heap.size w w4 := HG2.out.trans ((hb3.mono (by rw [HE2.out]; omega)).trans ⟨hG4.os, hG4.tape, hG4.output, hG4.size, fun i hi => hG4.block i (by rw [HE2.out] at hW2s; omega) (by simp; omega)⟩)
  have hd : RowB (w4.alloc (.cells #[.int .u8 0, .int .u8 0, .int .u8 0, .int .u8 0, .int .u8 0, .int .u8 0, .int .u8 0, .int .u8 0, .int .u8 0, .int .u8 0, .int .u8 0, .int .u8 0, .int .u8 0, .int .u8 0, .int .u8 0, .int .u8 0, .int .u8 0, .int .u8 0, .int .u8 0, .int .u8 0, .int .u8 0, .int .u8 0, .int .u8 0, .int .u8 0, .int .u8 0, .int .u8 0, .int .u8 0, .int .u8 0, .int .u8 0, .int .u8 0, .int .u8 0, .int .u8 0] 46)) w4.heap.size 46 (digK r' 0) := heap_alloc_new w4 _
  have hO5 := hO4.alloc (.cells #[.int .u8 0, .int .u8 0, .int .u8 0, .int .u8 0, .int .u8 0, .int .u8 0, .int .u8 0, .int .u8 0, .int .u8 0, .int .u8 0, .int .u8 0, .int .u8 0, .int .u8 0, .int .u8 0, .int .u8 0, .int .u8 0, .int .u8 0, .int .u8 0, .int .u8 0, .int .u8 0, .int .u8 0, .int .u8 0, .int .u8 0, .int .u8 0, .int .u8 0, .int .u8 0, .int .u8 0, .int .u8 0, .int .u8 0, .int .u8 0, .int .u8 0, .int .u8 0] 46)
  have hB5 := hB4.alloc (by have := hB4.size; omega) (.cells #[.int .u8 0, .int .u8 0, .int .u8 0, .int .u8 0, .int .u8 0, .int .u8 0, .int .u8 0, .int .u8 0, .int .u8 0, .int .u8 0, .int .u8 0, .int .u8 0, .int .u8 0, .int .u8 0, .int .u8 0, .int .u8 0, .int .u8 0, .int .u8 0, .int .u8 0, .int .u8 0, .int .u8 0, .int .u8 0, .int .u8 0, .int .u8 0, .int .u8 0, .int .u8 0, .int .u8 0, .int .u8 0, .int .u8 0, .int .u8 0, .int .u8 0, .int .u8 0] 46)
  have hS5 := hS4.kept ((Below.refl w4.heap.size w4).alloc (Nat.le_refl _) (.cells #[.int .u8 0, .int .u8 0, .int .u8 0, .int .u8 0, .int .u8 0, .int .u8 0, .int .u8 0, .int .u8 0, .int .u8 0, .int .u8 0, .int .u8 0, .int .u8 0, .int .u8 0, .int .u8 0, .int .u8 0, .int .u8 0, .int .u8 0, .int .u8 0, .int .u8 0, .int .u8 0, .int .u8 0, .int .u8 0, .int .u8 0, .int .u8 0, .int .u8 0, .int .u8 0, .int .u8 0, .int .u8 0, .int .u8 0, .int .u8 0, .int .u8 0, .int .u8 0] 46))
  have hne : w.heap.size + 1 < w4.heap.size := by rw [HE2.out] at hW2s; have := hG4.size; omega
  clear hO4 hB4 hS4 hG4 hb3 hcnt hTW hrb HO2 HS2 HG2 HE2 HSW hW2s
  go_upto_region 7 with (fail)
  generalize w4.alloc (.cells #[.int .u8 0, .int .u8 0, .int .u8 0, .int .u8 0, .int .u8 0, .int .u8 0, .int .u8 0, .int .u8 0, .int .u8 0, .int .u8 0, .int .u8 0, .int .u8 0, .int .u8 0, .int .u8 0, .int .u8 0, .int .u8 0, .int .u8 0, .int .u8 0, .int .u8 0, .int .u8 0, .int .u8 0, .int .u8 0, .int .u8 0, .int .u8 0, .int .u8 0, .int .u8 0, .int .u8 0, .int .u8 0, .int .u8 0, .int .u8 0, .int .u8 0, .int .u8 0] 46) = W5 at *
  obtain ⟨gd, hgd⟩ : ∃ x, w4.heap.size = x := ⟨_, rfl⟩
  rw [hgd] at hd hne ⊢
  obtain ⟨n4, hn4⟩ : ∃ x, (l ++ tailS n).length = x := ⟨_, rfl⟩
  rw [hn4] at hS5
  clear hn4 hC4
  go_loopw [19] (fun i wr => ∃ k : Nat, k ≤ 32 ∧ i = .int .i64 k ∧ RowB wr gd 46 (digK r' k) ∧ RowB wr w.heap.size 46 (List.replicate 32 0) ∧ St wr (w.heap.size + 1) r' wt' n4 ∧ Below w.heap.size w wr) (fun i _ => 32 - (intOf i).toNat)
  case atStart => exact ⟨0, by omega, rfl, hd, hO5, hS5, hB5⟩
  case round =>
    clear hd hO5 hS5 hB5
    obtain ⟨k, hk, rfl, hD, hO, hW, hB⟩ := hrel
    by_cases hlt : k < 32
    · have hki : (k : Int) < 32 := by omega
      obtain ⟨j, hj⟩ : ∃ j, k / 4 = j := ⟨_, rfl⟩
      have hj8 : j < 8 := by omega
      have hdv : Int.tdiv (k : Int) 4 = (j : Int) := by rw [Int.tdiv_eq_ediv_of_nonneg (by omega)]; omega
      obtain ⟨x, hx⟩ : ∃ x, wAt r'.list j = x := ⟨_, rfl⟩
      have hxb := I_bd x
      have hcw := hW.words j _ (u32v_get r'.list j hj8)
      rw [hx] at hcw
      have hc := hD.cell k (by rw [digK_length _ _ hk]; omega)
      have hf := hD.frozen k
      have hs := hD.set k ((digS r').getD k 0)
      rw [digK_set r' k hlt] at hs
      have HO := Lib.hid hO
      have HW := Lib.hid hW
      have HB := Lib.hid hB
      obtain ⟨c, hkc⟩ : ∃ c, k = 4 * j + c := ⟨k - 4 * j, by omega⟩
      clear hD hO hW hB
      rcases (by omega : c = 0 ∨ c = 1 ∨ c = 2 ∨ c = 3) with rfl | rfl | rfl | rfl
      · have hmd : Int.tmod (k : Int) 4 = 0 := by rw [Int.tmod_eq_emod_of_nonneg (by omega)]; omega
        have hv : I x / 16777216 = (((digS r').getD k 0).toNat : Int) := by
          have h1 := digS_at r' j 0 hj8 (by omega)
          rw [← hkc, hx, four_val _ _ (by omega)] at h1
          unfold by8 at h1
          rw [h1]
          try simp
          try omega
        rw [← hv] at hs
        have HS := Lib.hid hs
        clear hs hv hkc hj
        go_wp2
        go_roundw
        case rel => exact ⟨k + 1, by omega, rfl, HS.out, HO.out.other _ _ (by simp; omega), HW.out.other _ _ (by simp; omega), HB.out.setCell (by simp; omega) _⟩
        case measure => simp [intOf]; omega
      · have hmd : Int.tmod (k : Int) 4 = 1 := by rw [Int.tmod_eq_emod_of_nonneg (by omega)]; omega
        have hv : I x / 65536 % 256 = (((digS r').getD k 0).toNat : Int) := by
          have h1 := digS_at r' j 1 hj8 (by omega)
          rw [← hkc, hx, four_val _ _ (by omega)] at h1
          unfold by8 at h1
          rw [h1]
          try simp
          try omega
        rw [← hv] at hs
        have HS := Lib.hid hs
        clear hs hv hkc hj
        go_wp2
        go_roundw
        case rel => exact ⟨k + 1, by omega, rfl, HS.out, HO.out.other _ _ (by simp; omega), HW.out.other _ _ (by simp; omega), HB.out.setCell (by simp; omega) _⟩
        case measure => simp [intOf]; omega
      · have hmd : Int.tmod (k : Int) 4 = 2 := by rw [Int.tmod_eq_emod_of_nonneg (by omega)]; omega
        have hv : I x / 256 % 256 = (((digS r').getD k 0).toNat : Int) := by
          have h1 := digS_at r' j 2 hj8 (by omega)
          rw [← hkc, hx, four_val _ _ (by omega)] at h1
          unfold by8 at h1
          rw [h1]
          try simp
          try omega
        rw [← hv] at hs
        have HS := Lib.hid hs
        clear hs hv hkc hj
        go_wp2
        go_roundw
        case rel => exact ⟨k + 1, by omega, rfl, HS.out, HO.out.other _ _ (by simp; omega), HW.out.other _ _ (by simp; omega), HB.out.setCell (by simp; omega) _⟩
        case measure => simp [intOf]; omega
      · have hmd : Int.tmod (k : Int) 4 = 3 := by rw [Int.tmod_eq_emod_of_nonneg (by omega)]; omega
        have hv : I x % 256 = (((digS r').getD k 0).toNat : Int) := by
          have h1 := digS_at r' j 3 hj8 (by omega)
          rw [← hkc, hx, four_val _ _ (by omega)] at h1
          unfold by8 at h1
          rw [h1]
          try simp
          try omega
        rw [← hv] at hs
        have HS := Lib.hid hs
        clear hs hv hkc hj
        go_wp2
        go_roundw
        case rel => exact ⟨k + 1, by omega, rfl, HS.out, HO.out.other _ _ (by simp; omega), HW.out.other _ _ (by simp; omega), HB.out.setCell (by simp; omega) _⟩
        case measure => simp [intOf]; omega
    · obtain rfl : k = 32 := by omega
      rw [digK_all] at hD
      have hlen := digS_length r'
      have HRL := Lib.hid (show digS r' = digS (lastS l) by rw [HRR.out])
      obtain ⟨L, hL⟩ : ∃ L, digS r' = L := ⟨_, rfl⟩
      rw [hL] at hD hlen HRL
      clear hL
      have hm := size_dig L hlen
      have hsz : (u8v L).length = 32 := by rw [u8v_length]; exact hlen
      have hst := hO.store L (by rw [hlen]; simp)
      have HCL := Lib.hid (show RowB _ w.heap.size 46 L from hO.setRow L)
      have HBN := Lib.hid (show Below w.heap.size w (wr.setRow w.heap.size (u8v L).toArray) from below_setRow hB (Nat.le_refl _) _)
      have HA := Lib.hid hD
      clear hD hO hW hB
      go_wp2_with (first
        | (refine wpList_load_row rfl 46 (.tmp 4) rfl gd rfl 46 (u8v L).toArray (0, 0) _ HA.out Tryd.underlying46 rfl hm ?_))
      refine bodyPost_ret (results_cell_row rfl _ _ w.heap.size 46 (u8v L).toArray (0, 0) _ rfl HCL.out Tryd.underlying46 rfl hm) rfl ⟨?_, HBN.out⟩
      rw [← HRL.out]
end Go.Proofs.YticcmhgahbnboaaDoor
