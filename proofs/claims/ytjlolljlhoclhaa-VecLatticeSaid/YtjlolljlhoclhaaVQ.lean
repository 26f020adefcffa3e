/-
  Vec: the program's functions tell what they are to tell.
-/
import Derived.Test.YtjlolljlhoclhaaVP
import Derived.Test.YtjlolljlhoclhaaV3
namespace Go.Proofs.Ytjlolljlhoclhaa
open Go.RowKit Go Go.Sort
set_option linter.unusedVariables false

theorem Wrote.flag {g : Nat} {v : Value} {t : TypeId} {w w' : World} (h : Wrote g #[v] t w w') : w'.cell? ⟨g, 0, none⟩ = some v := by
  rw [cell_of_row w' g 0 _ t (0, 0) h.cell]; rfl
theorem flag_new (W : World) (v : Value) (t : TypeId) : (W.alloc (.cells #[v] t)).heap[W.heap.size]? = some (.cells #[v] t (0, 0)) := heap_alloc_new W _
theorem mkf (fn : Fn) (first cap : Array Value) (w : World) : (Instr.makeFunc fn first cap).run Try.prog w = .ok (.func fn first cap) w := rfl

set_option maxHeartbeats 1600000 in
theorem vcov_c (a b c d : Int) (w : World) : Calls Try.prog 10 #[.agg #[.int .i64 a, .int .i64 b], .agg #[.int .i64 c, .int .i64 d]] w (Tells (.bool (vcov a b c d)) w) := by
  have hp := (Pair.new w 23 a b).alloc (.cells #[.int .i64 c, .int .i64 d] 23)
  have hq := Pair.second w (.cells #[.int .i64 a, .int .i64 b] 23) 23 c d
  have hb := second_below w (.cells #[.int .i64 a, .int .i64 b] 23) (.cells #[.int .i64 c, .int .i64 d] 23)
  have hs : ((w.alloc (.cells #[.int .i64 a, .int .i64 b] 23)).alloc (.cells #[.int .i64 c, .int .i64 d] 23)).heap.size = w.heap.size + 1 + 1 := by simp
  have HE := Lib.hid (fun (W : World) (g : Nat) (h : W.heap[g]? = _) => each_cov a b c d true g h)
  have HS := Lib.hid (step_cov true a b c d)
  have hmf := mkf
  go_enter Try.func10, Try.ntmps10
  go_upto_region 1 with (fail)
  generalize (w.alloc (.cells #[.int .i64 a, .int .i64 b] 23)).alloc (.cells #[.int .i64 c, .int .i64 d] 23) = W1 at *
  have HP := Lib.hid hp
  have HQ := Lib.hid hq
  have HB := Lib.hid hb
  have HZ := Lib.hid hs
  clear hp hq hb hs
  go_upto_region 2 with (fail)
  have hp2 := HP.out.alloc (.cells #[.bool true] 4)
  have hq2 := HQ.out.alloc (.cells #[.bool true] 4)
  have hb2 := HB.out.alloc HB.out.size (.cells #[.bool true] 4)
  have hf2 := flag_new W1 (.bool true) 4
  obtain ⟨g, hg⟩ : ∃ g, W1.heap.size = g := ⟨_, rfl⟩
  have hs2 : g ≤ (W1.alloc (.cells #[.bool true] 4)).heap.size := by simp [World.size_alloc]; omega
  have hwg : w.heap.size ≤ g := by rw [← hg]; exact HB.out.size
  rw [hg] at hf2 ⊢
  generalize W1.alloc (.cells #[.bool true] 4) = W2 at *
  have p0 := hp2.c0
  have p1 := hp2.c1
  have q0 := hq2.c0
  have q1 := hq2.c1
  have HF := Lib.hid hf2
  have HB2 := Lib.hid hb2
  have HS2 := Lib.hid hs2
  clear hp2 hq2 hf2 hb2 hs2 HP HQ HB HZ hg
  go_upto_region 3 with (go_at_call 23; (with_reducible refine (HE.out _ g HF.out).mono ?_); rintro e w3 ⟨rfl, hw3⟩)
  have hv := hw3.flag
  rw [HS.out] at hv
  have HW := Lib.hid (HB2.out.trans (hw3.below hwg HS2.out))
  clear hw3 p0 p1 q0 q1
  go_wp2
  go_ret
  exact ⟨by simp, HW.out⟩

theorem each_start {W1 w : World} {g : Nat} (hB : Below w.heap.size w W1) (hg : W1.heap.size = g) (o : Obj) : w.heap.size ≤ g ∧ g ≤ (W1.alloc o).heap.size ∧ Below w.heap.size w (W1.alloc o) :=
  ⟨by rw [← hg]; exact hB.size, by simp [World.size_alloc]; omega, hB.alloc hB.size o⟩

end Go.Proofs.Ytjlolljlhoclhaa
