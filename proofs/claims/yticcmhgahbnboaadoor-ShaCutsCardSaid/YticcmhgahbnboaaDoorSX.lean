/-
  sha.mix: the state behind a block's words.
-/
import Derived.Test.YticcmhgahbnboaaDoorSA
import Derived.Deep.QuietTactic
import Derived.BigQuiet
import Derived.Outline
namespace Go.Proofs.YticcmhgahbnboaaDoor
open Go.RowKit Go
set_option linter.unusedVariables false
attribute [local go_sem] I_xor I_and I_or I_not' I_add

/-- The state of which the first k numbers have come to it. -/
def addK (r t : Rd) (k : Nat) : List W32 := (addR r t).list.take k ++ r.list.drop k

set_option maxRecDepth 100000 in
set_option maxHeartbeats 3200000 in
theorem mix_c (r : Rd) (ws : List W32) (hl : ws.length = 64) {w : World} (hT : TabS w) : Calls Tryd.prog 45 #[aggW r.list, aggW ws] w (AggPost (mixS r ws).list w) := by
  unfold aggW
  have hb0 : Below w.heap.size w (((w.alloc (.cells (u32v r.list).toArray 61)).alloc (.cells (u32v ws).toArray 78)).alloc (.cells (u32v [0#32, 0#32, 0#32, 0#32, 0#32, 0#32, 0#32, 0#32]).toArray 61)) :=
    (((Below.refl _ w).alloc (Nat.le_refl _) _).alloc (by simp) _).alloc (by simp; omega) _
  have hT0 := hT.below hb0
  have hR : RowW (((w.alloc (.cells (u32v r.list).toArray 61)).alloc (.cells (u32v ws).toArray 78)).alloc (.cells (u32v [0#32, 0#32, 0#32, 0#32, 0#32, 0#32, 0#32, 0#32]).toArray 61)) w.heap.size 61 r.list :=
    RowW.alloc (RowW.alloc (heap_alloc_new w _) _) _
  have hW : RowW (((w.alloc (.cells (u32v r.list).toArray 61)).alloc (.cells (u32v ws).toArray 78)).alloc (.cells (u32v [0#32, 0#32, 0#32, 0#32, 0#32, 0#32, 0#32, 0#32]).toArray 61)) (w.heap.size + 1) 78 ws := by
    refine RowW.alloc ?_ _
    have := heap_alloc_new (w.alloc (.cells (u32v r.list).toArray 61)) (.cells (u32v ws).toArray 78)
    rw [World.size_alloc] at this
    exact this
  have hO : RowW (((w.alloc (.cells (u32v r.list).toArray 61)).alloc (.cells (u32v ws).toArray 78)).alloc (.cells (u32v [0#32, 0#32, 0#32, 0#32, 0#32, 0#32, 0#32, 0#32]).toArray 61)) (w.heap.size + 1 + 1) 61 [0#32, 0#32, 0#32, 0#32, 0#32, 0#32, 0#32, 0#32] := by
    have := heap_alloc_new ((w.alloc (.cells (u32v r.list).toArray 61)).alloc (.cells (u32v ws).toArray 78)) (.cells (u32v [0#32, 0#32, 0#32, 0#32, 0#32, 0#32, 0#32, 0#32]).toArray 61)
    rw [World.size_alloc, World.size_alloc] at this
    exact this
  have hwd : (((w.alloc (.cells (u32v r.list).toArray 61)).alloc (.cells (u32v ws).toArray 78)).alloc (.cells (u32v [0#32, 0#32, 0#32, 0#32, 0#32, 0#32, 0#32, 0#32]).toArray 61)) = (((w.alloc (.cells (u32v r.list).toArray 61)).alloc (.cells (u32v ws).toArray 78)).alloc (.cells #[.int .u32 0, .int .u32 0, .int .u32 0, .int .u32 0, .int .u32 0, .int .u32 0, .int .u32 0, .int .u32 0] 61)) := rfl
  rw [hwd] at hb0 hT0 hR hW hO
  clear hwd
  go_enter Tryd.func45, Tryd.ntmps45
  go_wp2
  generalize (((w.alloc (.cells (u32v r.list).toArray 61)).alloc (.cells (u32v ws).toArray 78)).alloc (.cells #[.int .u32 0, .int .u32 0, .int .u32 0, .int .u32 0, .int .u32 0, .int .u32 0, .int .u32 0, .int .u32 0] 61)) = W0 at *
  have c0 := hR.cell 0 (by show 0 < 8; decide)
  have c1 := hR.cell 1 (by show 1 < 8; decide)
  have c2 := hR.cell 2 (by show 2 < 8; decide)
  have c3 := hR.cell 3 (by show 3 < 8; decide)
  have c4 := hR.cell 4 (by show 4 < 8; decide)
  have c5 := hR.cell 5 (by show 5 < 8; decide)
  have c6 := hR.cell 6 (by show 6 < 8; decide)
  have c7 := hR.cell 7 (by show 7 < 8; decide)
  rw [show wAt r.list 0 = r.a from rfl] at c0
  rw [show wAt r.list 1 = r.b from rfl] at c1
  rw [show wAt r.list 2 = r.c from rfl] at c2
  rw [show wAt r.list 3 = r.d from rfl] at c3
  rw [show wAt r.list 4 = r.e from rfl] at c4
  rw [show wAt r.list 5 = r.f from rfl] at c5
  rw [show wAt r.list 6 = r.g from rfl] at c6
  rw [show wAt r.list 7 = r.h from rfl] at c7
  go_quiet (fail)
  clear c0 c1 c2 c3 c4 c5 c6 c7
  obtain ⟨tc, fr, hcons⟩ := hT0.cons
  have hcd : (W0.drewN nq).heap[1]? = some (.cells (u32v kS).toArray tc fr) := hcons
  have HCD := Lib.hid hcd
  clear hcd hcons
  go_wp2_with (refine wpList_load_row rfl 78 (.global 1) rfl 1 rfl tc (u32v kS).toArray fr (.array 64 43) HCD.out Tryd.underlying78 rfl (by kernel_rfl) ?_)
  have hik : ∀ k : Nat, k < 64 → ∀ W, (Instr.index 78 (.agg (u32v kS).toArray) (.int .i64 (k : Int))).run Tryd.prog W = .ok (.int .u32 (I (wAt kS k))) W := by
    intro k hk W
    obtain ⟨i4, g1, _, g3, _⟩ := info_parts Tryd.info43
    exact run_index_agg Tryd.underlying78 Tryd.underlying43 g1 g3 _ k hk (by rw [List.getElem?_toArray]; exact u32v_get kS k (by show k < 64; exact hk))
  have HIK := Lib.hid hik
  clear hik HCD
  obtain ⟨W1, hW1⟩ : ∃ W1, W0.drewN nq = W1 := ⟨_, rfl⟩
  have hb1 : Below w.heap.size w W1 := by rw [← hW1]; exact below_drewN hb0 nq
  have hR1 : RowW W1 w.heap.size 61 r.list := by rw [← hW1]; exact hR
  have hV1 : RowW W1 (w.heap.size + 1) 78 ws := by rw [← hW1]; exact hW
  have hO1 : RowW W1 (w.heap.size + 1 + 1) 61 [0#32, 0#32, 0#32, 0#32, 0#32, 0#32, 0#32, 0#32] := by rw [← hW1]; exact hO
  rw [hW1]
  clear hW1 hb0 hR hW hO hT0
  go_loopw [5, 6, 7, 8, 9, 10, 11, 12, 36] (fun a b c d e f g h i wr => ∃ k : Nat, k ≤ 64 ∧ i = .int .i64 k ∧ a = .int .u32 (I (rndsS r ws k).a) ∧ b = .int .u32 (I (rndsS r ws k).b) ∧ c = .int .u32 (I (rndsS r ws k).c) ∧ d = .int .u32 (I (rndsS r ws k).d) ∧ e = .int .u32 (I (rndsS r ws k).e) ∧ f = .int .u32 (I (rndsS r ws k).f) ∧ g = .int .u32 (I (rndsS r ws k).g) ∧ h = .int .u32 (I (rndsS r ws k).h) ∧ ∃ m, wr = W1.drewN m) (fun _ _ _ _ _ _ _ _ i _ => 64 - (intOf i).toNat)
  case atStart => exact ⟨0, by omega, rfl, rfl, rfl, rfl, rfl, rfl, rfl, rfl, rfl, 0, rfl⟩
  case round =>
    obtain ⟨k, hk, rfl, rfl, rfl, rfl, rfl, rfl, rfl, rfl, rfl, m, hwr⟩ := hrel
    have hVr : RowW wr (w.heap.size + 1) 78 ws := by rw [hwr]; exact hV1
    have HWR := Lib.hid hwr
    clear hwr
    by_cases hlt : k < 64
    · have hcw := hVr.cell k (by omega)
      have hix := HIK.out k hlt
      have HRS := Lib.hid (show rndsS r ws (k + 1) = rndS (rndsS r ws k) (wAt kS k) (wAt ws k) from rfl)
      obtain ⟨t, ht⟩ : ∃ t, rndsS r ws k = t := ⟨_, rfl⟩
      obtain ⟨kw, hkw⟩ : ∃ x, wAt kS k = x := ⟨_, rfl⟩
      obtain ⟨ww, hww⟩ : ∃ x, wAt ws k = x := ⟨_, rfl⟩
      rw [hww] at hcw
      simp only [hkw] at hix
      rw [ht, hkw, hww] at HRS
      simp only [ht]
      clear ht hkw hww
      have hsg : IntKind.u32.signed = false := rfl
      have hki : (k : Int) < 64 := by omega
      go_wp2
      go_quiet (first | with_reducible exact turn_q6 _ _ _ | with_reducible exact turn_q11 _ _ _ | with_reducible exact turn_q25 _ _ _)
      go_wp2_with (first
        | (go_at_call 62; (with_reducible refine (turn_c2 _ _).mono ?_); rintro e w' ⟨rfl, rfl⟩)
        | (go_at_call 62; (with_reducible refine (turn_c13 _ _).mono ?_); rintro e w' ⟨rfl, rfl⟩)
        | (go_at_call 62; (with_reducible refine (turn_c22 _ _).mono ?_); rintro e w' ⟨rfl, rfl⟩))
      go_roundw
      case rel =>
        refine ⟨k + 1, by omega, by go_num, ?_, ?_, ?_, ?_, ?_, ?_, ?_, ?_, m + nq, by rw [HWR.out, World.drewN_drewN]⟩
        all_goals (rw [HRS.out]; rfl)
      case measure => simp [intOf]; omega
    · obtain rfl : k = 64 := by omega
      have hRr : RowW wr w.heap.size 61 r.list := by rw [HWR.out]; exact hR1
      have hOr : RowW wr (w.heap.size + 1 + 1) 61 [0#32, 0#32, 0#32, 0#32, 0#32, 0#32, 0#32, 0#32] := by rw [HWR.out]; exact hO1
      have hbr : Below w.heap.size w wr := by rw [HWR.out]; exact below_drewN hb1 m
      have HMX := Lib.hid (show mixS r ws = addR r (rndsS r ws 64) from rfl)
      obtain ⟨t, ht⟩ : ∃ t, rndsS r ws 64 = t := ⟨_, rfl⟩
      rw [ht] at HMX
      simp only [ht]
      clear ht hVr hV1 hO1 hR1 hb1 HIK
      go_wp2
      go_loopw [107] (fun i wx => ∃ k : Nat, k ≤ 8 ∧ i = .int .i64 k ∧ RowW wx w.heap.size 61 (addK r t k) ∧ RowW wx (w.heap.size + 1 + 1) 61 [0#32, 0#32, 0#32, 0#32, 0#32, 0#32, 0#32, 0#32] ∧ Below w.heap.size w wx) (fun i _ => 8 - (intOf i).toNat)
      case atStart => exact ⟨0, by omega, rfl, hRr, hOr, hbr⟩
      case round =>
        clear hRr hOr hbr
        obtain ⟨k, hk, rfl, hA, hOw, hbw⟩ := hrel
        rcases (by omega : k = 0 ∨ k = 1 ∨ k = 2 ∨ k = 3 ∨ k = 4 ∨ k = 5 ∨ k = 6 ∨ k = 7 ∨ k = 8) with rfl | rfl | rfl | rfl | rfl | rfl | rfl | rfl | rfl
        · have hc := hA.cell 0 (by show 0 < 8; decide)
          rw [show wAt (addK r t 0) 0 = r.a from rfl] at hc
          have hz := hA.frozen 0
          have hi : ∀ W, (Instr.index 61 (.agg #[.int .u32 (I t.a), .int .u32 (I t.b), .int .u32 (I t.c), .int .u32 (I t.d), .int .u32 (I t.e), .int .u32 (I t.f), .int .u32 (I t.g), .int .u32 (I t.h)]) (.int .i64 0)).run Tryd.prog W = .ok (.int .u32 (I t.a)) W := fun _ => by kernel_rfl
          have hS := Lib.hid (show RowW _ w.heap.size 61 (addK r t (0 + 1)) from hA.set 0 (r.a + t.a))
          go_wp2
          go_roundw
          case rel => exact ⟨0 + 1, by omega, rfl, hS.out, hOw.other _ _ (by simp; omega), hbw.setCell (by simp) _⟩
          case measure => simp [intOf]
        · have hc := hA.cell 1 (by show 1 < 8; decide)
          rw [show wAt (addK r t 1) 1 = r.b from rfl] at hc
          have hz := hA.frozen 1
          have hi : ∀ W, (Instr.index 61 (.agg #[.int .u32 (I t.a), .int .u32 (I t.b), .int .u32 (I t.c), .int .u32 (I t.d), .int .u32 (I t.e), .int .u32 (I t.f), .int .u32 (I t.g), .int .u32 (I t.h)]) (.int .i64 1)).run Tryd.prog W = .ok (.int .u32 (I t.b)) W := fun _ => by kernel_rfl
          have hS := Lib.hid (show RowW _ w.heap.size 61 (addK r t (1 + 1)) from hA.set 1 (r.b + t.b))
          go_wp2
          go_roundw
          case rel => exact ⟨1 + 1, by omega, rfl, hS.out, hOw.other _ _ (by simp; omega), hbw.setCell (by simp) _⟩
          case measure => simp [intOf]
        · have hc := hA.cell 2 (by show 2 < 8; decide)
          rw [show wAt (addK r t 2) 2 = r.c from rfl] at hc
          have hz := hA.frozen 2
          have hi : ∀ W, (Instr.index 61 (.agg #[.int .u32 (I t.a), .int .u32 (I t.b), .int .u32 (I t.c), .int .u32 (I t.d), .int .u32 (I t.e), .int .u32 (I t.f), .int .u32 (I t.g), .int .u32 (I t.h)]) (.int .i64 2)).run Tryd.prog W = .ok (.int .u32 (I t.c)) W := fun _ => by kernel_rfl
          have hS := Lib.hid (show RowW _ w.heap.size 61 (addK r t (2 + 1)) from hA.set 2 (r.c + t.c))
          go_wp2
          go_roundw
          case rel => exact ⟨2 + 1, by omega, rfl, hS.out, hOw.other _ _ (by simp; omega), hbw.setCell (by simp) _⟩
          case measure => simp [intOf]
        · have hc := hA.cell 3 (by show 3 < 8; decide)
          rw [show wAt (addK r t 3) 3 = r.d from rfl] at hc
          have hz := hA.frozen 3
          have hi : ∀ W, (Instr.index 61 (.agg #[.int .u32 (I t.a), .int .u32 (I t.b), .int .u32 (I t.c), .int .u32 (I t.d), .int .u32 (I t.e), .int .u32 (I t.f), .int .u32 (I t.g), .int .u32 (I t.h)]) (.int .i64 3)).run Tryd.prog W = .ok (.int .u32 (I t.d)) W := fun _ => by kernel_rfl
          have hS := Lib.hid (show RowW _ w.heap.size 61 (addK r t (3 + 1)) from hA.set 3 (r.d + t.d))
          go_wp2
          go_roundw
          case rel => exact ⟨3 + 1, by omega, rfl, hS.out, hOw.other _ _ (by simp; omega), hbw.setCell (by simp) _⟩
          case measure => simp [intOf]
        · have hc := hA.cell 4 (by show 4 < 8; decide)
          rw [show wAt (addK r t 4) 4 = r.e from rfl] at hc
          have hz := hA.frozen 4
          have hi : ∀ W, (Instr.index 61 (.agg #[.int .u32 (I t.a), .int .u32 (I t.b), .int .u32 (I t.c), .int .u32 (I t.d), .int .u32 (I t.e), .int .u32 (I t.f), .int .u32 (I t.g), .int .u32 (I t.h)]) (.int .i64 4)).run Tryd.prog W = .ok (.int .u32 (I t.e)) W := fun _ => by kernel_rfl
          have hS := Lib.hid (show RowW _ w.heap.size 61 (addK r t (4 + 1)) from hA.set 4 (r.e + t.e))
          go_wp2
          go_roundw
          case rel => exact ⟨4 + 1, by omega, rfl, hS.out, hOw.other _ _ (by simp; omega), hbw.setCell (by simp) _⟩
          case measure => simp [intOf]
        · have hc := hA.cell 5 (by show 5 < 8; decide)
          rw [show wAt (addK r t 5) 5 = r.f from rfl] at hc
          have hz := hA.frozen 5
          have hi : ∀ W, (Instr.index 61 (.agg #[.int .u32 (I t.a), .int .u32 (I t.b), .int .u32 (I t.c), .int .u32 (I t.d), .int .u32 (I t.e), .int .u32 (I t.f), .int .u32 (I t.g), .int .u32 (I t.h)]) (.int .i64 5)).run Tryd.prog W = .ok (.int .u32 (I t.f)) W := fun _ => by kernel_rfl
          have hS := Lib.hid (show RowW _ w.heap.size 61 (addK r t (5 + 1)) from hA.set 5 (r.f + t.f))
          go_wp2
          go_roundw
          case rel => exact ⟨5 + 1, by omega, rfl, hS.out, hOw.other _ _ (by simp; omega), hbw.setCell (by simp) _⟩
          case measure => simp [intOf]
        · have hc := hA.cell 6 (by show 6 < 8; decide)
          rw [show wAt (addK r t 6) 6 = r.g from rfl] at hc
          have hz := hA.frozen 6
          have hi : ∀ W, (Instr.index 61 (.agg #[.int .u32 (I t.a), .int .u32 (I t.b), .int .u32 (I t.c), .int .u32 (I t.d), .int .u32 (I t.e), .int .u32 (I t.f), .int .u32 (I t.g), .int .u32 (I t.h)]) (.int .i64 6)).run Tryd.prog W = .ok (.int .u32 (I t.g)) W := fun _ => by kernel_rfl
          have hS := Lib.hid (show RowW _ w.heap.size 61 (addK r t (6 + 1)) from hA.set 6 (r.g + t.g))
          go_wp2
          go_roundw
          case rel => exact ⟨6 + 1, by omega, rfl, hS.out, hOw.other _ _ (by simp; omega), hbw.setCell (by simp) _⟩
          case measure => simp [intOf]
        · have hc := hA.cell 7 (by show 7 < 8; decide)
          rw [show wAt (addK r t 7) 7 = r.h from rfl] at hc
          have hz := hA.frozen 7
          have hi : ∀ W, (Instr.index 61 (.agg #[.int .u32 (I t.a), .int .u32 (I t.b), .int .u32 (I t.c), .int .u32 (I t.d), .int .u32 (I t.e), .int .u32 (I t.f), .int .u32 (I t.g), .int .u32 (I t.h)]) (.int .i64 7)).run Tryd.prog W = .ok (.int .u32 (I t.h)) W := fun _ => by kernel_rfl
          have hS := Lib.hid (show RowW _ w.heap.size 61 (addK r t (7 + 1)) from hA.set 7 (r.h + t.h))
          go_wp2
          go_roundw
          case rel => exact ⟨7 + 1, by omega, rfl, hS.out, hOw.other _ _ (by simp; omega), hbw.setCell (by simp) _⟩
          case measure => simp [intOf]
        · have hm8 : (Tryd.prog.info? 61).map (·.size) = some (u32v (addR r t).list).toArray.size := Tryd.size8w
          have hA8 : RowW _ w.heap.size 61 (addR r t).list := hA
          have HA := Lib.hid hA8
          have hst := hOw.store (addR r t).list rfl
          have hcell : RowW _ (w.heap.size + 1 + 1) 61 (addR r t).list := hOw.setRow _
          have HCL := Lib.hid hcell
          have hbn : Below w.heap.size w (wr.setRow (w.heap.size + 1 + 1) (u32v (addR r t).list).toArray) := below_setRow hbw (by omega) _
          have HBN := Lib.hid hbn
          clear hA hA8 hOw hcell hbn hbw
          go_wp2_with (first
            | (refine wpList_load_row rfl 61 (.tmp 2) rfl w.heap.size rfl 61 (u32v (addR r t).list).toArray (0, 0) (.array 8 43) HA.out Tryd.underlying61 rfl hm8 ?_))
          refine bodyPost_ret (results_cell_row rfl _ _ (w.heap.size + 1 + 1) 61 (u32v (addR r t).list).toArray (0, 0) (.array 8 43) rfl HCL.out Tryd.underlying61 rfl hm8) rfl ⟨?_, HBN.out⟩
          rw [HMX.out]; rfl
end Go.Proofs.YticcmhgahbnboaaDoor
