/-
  The reference's block: the state behind a block.
-/
import Derived.Test.YticcmhgahbnboaaDoorSG
import Derived.Test.YticcmhgahbnboaaDoorSX
import Derived.Deep.Cut
namespace Go.Proofs.YticcmhgahbnboaaDoor
open Go.RowKit Go Go.Sort
set_option linter.unusedVariables false

/-- A callee that leaves the world as it is, met in a world of the class. -/
theorem regrown_same {f : FuncId} {args : Array Value} {w : World} {d : Nat} {os : Array Obj} {x : W32}
    (h : Calls Tryd.prog f args (grow (redrawn w d) os) (RetW x (grow (redrawn w d) os))) : Calls Tryd.prog f args (grow (redrawn w d) os) fun e w'' => e = .returned (.int .u32 (I x)) ∧ ∃ p : Regrown, w'' = grow (redrawn w p.d) p.os :=
  h.mono fun _ _ ⟨he, hb⟩ => ⟨he, ⟨d, os⟩, hb.symm⟩
theorem rturn_g6 (x : W32) (w : World) (d : Nat) (os : Array Obj) : Calls Tryd.prog 60 #[.int .u32 (I x), .int .i64 6] (grow (redrawn w d) os) fun e w'' => e = .returned (.int .u32 (I (rotS x 6))) ∧ ∃ p : Regrown, w'' = grow (redrawn w p.d) p.os := regrown_same (rturn_c6 x _)
theorem rturn_g11 (x : W32) (w : World) (d : Nat) (os : Array Obj) : Calls Tryd.prog 60 #[.int .u32 (I x), .int .i64 11] (grow (redrawn w d) os) fun e w'' => e = .returned (.int .u32 (I (rotS x 11))) ∧ ∃ p : Regrown, w'' = grow (redrawn w p.d) p.os := regrown_same (rturn_c11 x _)
theorem rturn_g25 (x : W32) (w : World) (d : Nat) (os : Array Obj) : Calls Tryd.prog 60 #[.int .u32 (I x), .int .i64 25] (grow (redrawn w d) os) fun e w'' => e = .returned (.int .u32 (I (rotS x 25))) ∧ ∃ p : Regrown, w'' = grow (redrawn w p.d) p.os := regrown_same (rturn_c25 x _)
theorem addK_set (r t : Rd) (k : Nat) (h : k < 8) : (addK r t k).set k (wAt r.list k + wAt t.list k) = addK r t (k + 1) := by
  rcases (by omega : k = 0 ∨ k = 1 ∨ k = 2 ∨ k = 3 ∨ k = 4 ∨ k = 5 ∨ k = 6 ∨ k = 7) with rfl | rfl | rfl | rfl | rfl | rfl | rfl | rfl <;> rfl
theorem addK_at (r t : Rd) (k : Nat) (h : k < 8) : wAt (addK r t k) k = wAt r.list k := by
  rcases (by omega : k = 0 ∨ k = 1 ∨ k = 2 ∨ k = 3 ∨ k = 4 ∨ k = 5 ∨ k = 6 ∨ k = 7) with rfl | rfl | rfl | rfl | rfl | rfl | rfl | rfl <;> rfl
theorem addK_length (r t : Rd) (k : Nat) (h : k ≤ 8) : (addK r t k).length = 8 := by
  simp only [addK, List.length_append, List.length_take, List.length_drop, Rd.list, List.length_cons, List.length_nil]; omega

attribute [local go_sem] I_xor I_and I_or I_not' I_add

/-- A state laid over an old one, word by word. -/
def st8 (W : World) (g : Nat) (r : Rd) : World :=
  (((((((W.setCell ⟨g, 0, none⟩ (.int .u32 (I r.a))).setCell ⟨g, 1, none⟩ (.int .u32 (I r.b))).setCell ⟨g, 2, none⟩ (.int .u32 (I r.c))).setCell ⟨g, 3, none⟩ (.int .u32 (I r.d))).setCell ⟨g, 4, none⟩ (.int .u32 (I r.e))).setCell ⟨g, 5, none⟩ (.int .u32 (I r.f))).setCell ⟨g, 6, none⟩ (.int .u32 (I r.g))).setCell ⟨g, 7, none⟩ (.int .u32 (I r.h))
theorem st8_row {W : World} {g : Nat} {t : TypeId} {q : Rd} (h : RowW W g t q.list) (r : Rd) : RowW (st8 W g r) g t r.list :=
  (((((((h.set 0 r.a).set 1 r.b).set 2 r.c).set 3 r.d).set 4 r.e).set 5 r.f).set 6 r.g).set 7 r.h
theorem st8_other (W : World) (g : Nat) (r : Rd) (g' : Nat) (hne : g' ≠ g) : (st8 W g r).heap[g']? = W.heap[g']? := by
  unfold st8
  rw [heap_setCell_other _ _ _ _ hne, heap_setCell_other _ _ _ _ hne, heap_setCell_other _ _ _ _ hne, heap_setCell_other _ _ _ _ hne, heap_setCell_other _ _ _ _ hne, heap_setCell_other _ _ _ _ hne, heap_setCell_other _ _ _ _ hne, heap_setCell_other _ _ _ _ hne]
theorem st8_below {W w : World} {B g : Nat} (h : Below B w W) (hB : B ≤ g) (r : Rd) : Below B w (st8 W g r) :=
  (((((((h.setCell hB _).setCell hB _).setCell hB _).setCell hB _).setCell hB _).setCell hB _).setCell hB _).setCell hB _

/-- What is known in the rounds: g is the rounds' own state, gv the words' row, w1 the world in which they were told. -/
structure BlkInv (w w1 : World) (g gv : Nat) (r t : Rd) (wr : World) : Prop where
  s : RowW wr w.heap.size 61 r.list
  o : RowW wr (w.heap.size + 1) 61 [0#32, 0#32, 0#32, 0#32, 0#32, 0#32, 0#32, 0#32]
  t : RowW wr g 61 t.list
  own : wr.heap[gv]? = w1.heap[gv]?
  lt : gv < wr.heap.size
  below : Below w.heap.size w wr
theorem BlkInv.kept {w w1 wr wr' : World} {g gv : Nat} {r t : Rd} (h : BlkInv w w1 g gv r t wr) (hb : Below wr.heap.size wr wr') : BlkInv w w1 g gv r t wr' :=
  ⟨h.s.kept hb, h.o.kept hb, h.t.kept hb, (hb.block gv h.lt).trans h.own, Nat.lt_of_lt_of_le h.lt hb.size, h.below.trans (hb.mono h.below.size)⟩
theorem BlkInv.stored {w w1 wr : World} {g gv : Nat} {r t : Rd} (h : BlkInv w w1 g gv r t wr) (t' : Rd) (hg : w.heap.size + 1 < g) (hgv : gv ≠ g) : BlkInv w w1 g gv r t' (st8 wr g t') :=
  ⟨(st8_other wr g t' _ (by omega)).trans h.s, (st8_other wr g t' _ (by omega)).trans h.o, st8_row h.t t', (st8_other wr g t' _ hgv).trans h.own,
    by have := st8_below (Below.refl 0 wr) (Nat.zero_le g) t'; exact Nat.lt_of_lt_of_le h.lt this.size, st8_below h.below (by omega) t'⟩

set_option maxRecDepth 100000 in
set_option maxHeartbeats 3200000 in
theorem rblock_c (r : Rd) (b : List UInt8) (hl : b.length = 64) {w : World} {a : Option Addr} {n cap : Nat} (hb : Bys w a n cap b) : Calls Tryd.prog 43 #[aggW r.list, .slice a n cap] w (AggPost (blockS r b).list w) := by
  unfold aggW
  have hb0 : Below w.heap.size w ((w.alloc (.cells (u32v r.list).toArray 61)).alloc (.cells (u32v [0#32, 0#32, 0#32, 0#32, 0#32, 0#32, 0#32, 0#32]).toArray 61)) :=
    ((Below.refl _ w).alloc (Nat.le_refl _) _).alloc (by simp) _
  have hR : RowW ((w.alloc (.cells (u32v r.list).toArray 61)).alloc (.cells (u32v [0#32, 0#32, 0#32, 0#32, 0#32, 0#32, 0#32, 0#32]).toArray 61)) w.heap.size 61 r.list :=
    RowW.alloc (heap_alloc_new w _) _
  have hO : RowW ((w.alloc (.cells (u32v r.list).toArray 61)).alloc (.cells (u32v [0#32, 0#32, 0#32, 0#32, 0#32, 0#32, 0#32, 0#32]).toArray 61)) (w.heap.size + 1) 61 [0#32, 0#32, 0#32, 0#32, 0#32, 0#32, 0#32, 0#32] := by
    have := heap_alloc_new (w.alloc (.cells (u32v r.list).toArray 61)) (.cells (u32v [0#32, 0#32, 0#32, 0#32, 0#32, 0#32, 0#32, 0#32]).toArray 61)
    rw [World.size_alloc] at this
    exact this
  have hE : ((w.alloc (.cells (u32v r.list).toArray 61)).alloc (.cells (u32v [0#32, 0#32, 0#32, 0#32, 0#32, 0#32, 0#32, 0#32]).toArray 61)).heap.size = w.heap.size + 2 := by
    rw [World.size_alloc, World.size_alloc]
  have hwd : ((w.alloc (.cells (u32v r.list).toArray 61)).alloc (.cells (u32v [0#32, 0#32, 0#32, 0#32, 0#32, 0#32, 0#32, 0#32]).toArray 61)) = ((w.alloc (.cells (u32v r.list).toArray 61)).alloc (.cells #[.int .u32 0, .int .u32 0, .int .u32 0, .int .u32 0, .int .u32 0, .int .u32 0, .int .u32 0, .int .u32 0] 61)) := rfl
  rw [hwd] at hb0 hR hO hE
  clear hwd
  have hbb := hb.below hb0
  clear hb
  go_enter Tryd.func43, Tryd.ntmps43
  go_upto_region 1 with (fail)
  generalize ((w.alloc (.cells (u32v r.list).toArray 61)).alloc (.cells #[.int .u32 0, .int .u32 0, .int .u32 0, .int .u32 0, .int .u32 0, .int .u32 0, .int .u32 0, .int .u32 0] 61)) = W0 at *
  have HWC := Lib.hid (rwords_c b hl hbb)
  clear hbb
  go_upto_region 2 with (go_at_call 59; (with_reducible refine (HWC.out).mono ?_); rintro e w1 ⟨v, rfl, hown, hb1⟩)
  rw [hE] at hown
  obtain ⟨av, capv, rfl, hcl, hcm, hadr⟩ := hown.adr
  obtain ⟨gv, rfl, hcv⟩ := hadr (by rw [wordsS_length]; omega)
  rw [wordsS_length] at hcl hcv hown
  rw [wordsS_length]
  obtain ⟨ws, hws⟩ : ∃ ws, wordsS b 64 = ws := ⟨_, rfl⟩
  have HRES := Lib.hid (show blockS r b = addR r (rndsS r ws 64) by rw [← hws]; rfl)
  rw [hws] at hcv hown
  have hgvl : gv < w1.heap.size := (hown.lt gv rfl).2
  have hcm2 : capv ≤ 9223372036854775807 := by unfold maxLen at hcm; omega
  obtain ⟨g, hg⟩ : ∃ g, w1.heap.size = g := ⟨_, rfl⟩
  have hgw : w.heap.size + 1 < g := by have := hb1.size; omega
  have hgvg : gv ≠ g := by omega
  have hNew : RowW (w1.alloc (.cells #[.int .u32 0, .int .u32 0, .int .u32 0, .int .u32 0, .int .u32 0, .int .u32 0, .int .u32 0, .int .u32 0] 61)) w1.heap.size 61 [0#32, 0#32, 0#32, 0#32, 0#32, 0#32, 0#32, 0#32] := heap_alloc_new w1 _
  have hst := hNew.store r.list rfl
  have hR1 := hR.kept hb1
  have hbA : Below w1.heap.size w1 ((w1.alloc (.cells #[.int .u32 0, .int .u32 0, .int .u32 0, .int .u32 0, .int .u32 0, .int .u32 0, .int .u32 0, .int .u32 0] 61)).setRow w1.heap.size (u32v r.list).toArray) :=
    below_setRow ((Below.refl _ w1).alloc (Nat.le_refl _) _) (Nat.le_refl _) _
  have hI : BlkInv w w1 g gv r (rndsS r ws 0) ((w1.alloc (.cells #[.int .u32 0, .int .u32 0, .int .u32 0, .int .u32 0, .int .u32 0, .int .u32 0, .int .u32 0, .int .u32 0] 61)).setRow w1.heap.size (u32v r.list).toArray) :=
    ⟨hR1.kept hbA, (hO.kept hb1).kept hbA, by rw [← hg]; exact hNew.setRow r.list, hbA.block gv hgvl, Nat.lt_of_lt_of_le hgvl hbA.size, (hb0.trans (hb1.mono hb0.size)).trans (hbA.mono (by omega))⟩
  have hm8 : (Tryd.prog.info? 61).map (·.size) = some (u32v r.list).toArray.size := Tryd.size8w
  have HI := Lib.hid hI
  have HR1 := Lib.hid hR1
  have HCV := Lib.hid hcv
  clear hcl hcm hadr hcv hown hR hO hb0 hb1 hR1 hbA hI hNew hE HWC hws hl hgvl
  have HG := Lib.hid hg
  rw [hg] at HI
  clear hg
  go_upto_region 3 with (refine wpList_load_row rfl 61 (.tmp 2) rfl w.heap.size rfl 61 (u32v r.list).toArray (0, 0) (.array 8 43) HR1.out Tryd.underlying61 rfl hm8 ?_)
  rw [HG.out]
  obtain ⟨W2, hW2⟩ : ∃ W2, (w1.alloc (.cells #[.int .u32 0, .int .u32 0, .int .u32 0, .int .u32 0, .int .u32 0, .int .u32 0, .int .u32 0, .int .u32 0] 61)).setRow g (u32v r.list).toArray = W2 := ⟨_, rfl⟩
  rw [hW2] at HI ⊢
  clear hW2 hst hm8 HR1
  have hsg : IntKind.u32.signed = false := rfl
  go_wp2
  go_loopw [7] (fun i wr => ∃ k : Nat, k ≤ 64 ∧ i = .int .i64 k ∧ BlkInv w w1 g gv r (rndsS r ws k) wr) (fun i _ => 64 - (intOf i).toNat)
  case atStart => exact ⟨0, by omega, rfl, HI.out⟩
  case round =>
    clear HI
    obtain ⟨k, hk, rfl, hI⟩ := hrel
    by_cases hlt : k < 64
    · have hki : (k : Int) < 64 := by omega
      have HRS := Lib.hid (show rndsS r ws (k + 1) = rndS (rndsS r ws k) (wAt kS k) (wAt ws k) from rfl)
      obtain ⟨t, ht⟩ : ∃ t, rndsS r ws k = t := ⟨_, rfl⟩
      obtain ⟨ww, hww⟩ : ∃ x, wAt ws k = x := ⟨_, rfl⟩
      have hcw : wr.cell? ⟨gv, k, none⟩ = some (.int .u32 (I ww)) := by
        rw [← hww, World.cell?_of_block (w := w1) hI.own]; exact HCV.out k hlt
      have ck := fun d os => Calls.regrown_of (rk_c k hlt (w := grow (redrawn wr d) os))
      obtain ⟨kw, hkw⟩ : ∃ x, wAt kS k = x := ⟨_, rfl⟩
      rw [ht] at hI HRS
      rw [hww] at HRS
      rw [hkw] at ck HRS
      have c4 := hI.t.cell 4 (by show 4 < 8; decide)
      have c5 := hI.t.cell 5 (by show 5 < 8; decide)
      have c6 := hI.t.cell 6 (by show 6 < 8; decide)
      have c7 := hI.t.cell 7 (by show 7 < 8; decide)
      rw [show wAt t.list 4 = t.e from rfl] at c4
      rw [show wAt t.list 5 = t.f from rfl] at c5
      rw [show wAt t.list 6 = t.g from rfl] at c6
      rw [show wAt t.list 7 = t.h from rfl] at c7
      have k4 := cell_regrown c4
      have k5 := cell_regrown c5
      have k6 := cell_regrown c6
      have k7 := cell_regrown c7
      have kww := cell_regrown hcw
      have HIV := Lib.hid hI
      have CK := Lib.hid ck
      clear hI ht hww hkw c4 c5 c6 c7 hcw ck
      go_wp2
      refine wp_region_quiet_below (by kernel_rfl) (by kernel_rfl) ?_
      repeat (go_big_quiet_step (first | with_reducible exact rturn_g6 _ _ _ _ | with_reducible exact rturn_g11 _ _ _ _ | with_reducible exact rturn_g25 _ _ _ _ | with_reducible exact CK.out _ _))
      refine wpQuiet_nil ?_
      intro _ hw'
      obtain ⟨⟨dq, osq⟩, hw''⟩ := hw'
      subst hw''
      have hI6 := HIV.out.kept (below_regrown wr dq osq)
      clear k4 k5 k6 k7 kww CK
      generalize grow (redrawn wr dq) osq = W6 at *
      have c0 := hI6.t.cell 0 (by show 0 < 8; decide)
      have c1 := hI6.t.cell 1 (by show 1 < 8; decide)
      have c2 := hI6.t.cell 2 (by show 2 < 8; decide)
      rw [show wAt t.list 0 = t.a from rfl] at c0
      rw [show wAt t.list 1 = t.b from rfl] at c1
      rw [show wAt t.list 2 = t.c from rfl] at c2
      have HI6 := Lib.hid hI6
      clear hI6
      go_wp2
      go_quiet (first | with_reducible exact rturn_q2 _ _ _ | with_reducible exact rturn_q13 _ _ _ | with_reducible exact rturn_q22 _ _ _)
      have hI7 := HI6.out.kept (below_drewN (Below.refl _ W6) nq)
      clear c0 c1 c2
      generalize W6.drewN nq = W7 at *
      have c0 := hI7.t.cell 0 (by show 0 < 8; decide)
      have c1 := hI7.t.cell 1 (by show 1 < 8; decide)
      have c2 := hI7.t.cell 2 (by show 2 < 8; decide)
      have c3 := hI7.t.cell 3 (by show 3 < 8; decide)
      have c4 := hI7.t.cell 4 (by show 4 < 8; decide)
      have c5 := hI7.t.cell 5 (by show 5 < 8; decide)
      have c6 := hI7.t.cell 6 (by show 6 < 8; decide)
      rw [show wAt t.list 0 = t.a from rfl] at c0
      rw [show wAt t.list 1 = t.b from rfl] at c1
      rw [show wAt t.list 2 = t.c from rfl] at c2
      rw [show wAt t.list 3 = t.d from rfl] at c3
      rw [show wAt t.list 4 = t.e from rfl] at c4
      rw [show wAt t.list 5 = t.f from rfl] at c5
      rw [show wAt t.list 6 = t.g from rfl] at c6
      have z0 := hI7.t.frozen 0
      have z1 := hI7.t.frozen 1
      have z2 := hI7.t.frozen 2
      have z3 := hI7.t.frozen 3
      have z4 := hI7.t.frozen 4
      have z5 := hI7.t.frozen 5
      have z6 := hI7.t.frozen 6
      have z7 := hI7.t.frozen 7
      have c7 := hI7.t.cell 7 (by show 7 < 8; decide)
      rw [show wAt t.list 7 = t.h from rfl] at c7
      have HI7 := Lib.hid hI7
      clear hI7
      go_wp2
      go_roundw
      case rel =>
        refine ⟨k + 1, by omega, rfl, ?_⟩
        rw [HRS.out]
        exact HI7.out.stored (rndS t kw ww) hgw hgvg
      case measure => simp [intOf]; omega
    · obtain rfl : k = 64 := by omega
      obtain ⟨t, ht⟩ : ∃ t, rndsS r ws 64 = t := ⟨_, rfl⟩
      rw [ht] at hI HRES
      have hA0 := hI.s
      have hT0 := hI.t
      have hO0 := hI.o
      have hB0 := hI.below
      clear hI ht HCV hgvg hlt
      rw [show ((64 : Nat) : Int) = 64 from rfl]
      go_wp2
      go_loopw [10] (fun i wx => ∃ k : Nat, k ≤ 8 ∧ i = .int .i64 k ∧ RowW wx w.heap.size 61 (addK r t k) ∧ RowW wx g 61 t.list ∧ RowW wx (w.heap.size + 1) 61 [0#32, 0#32, 0#32, 0#32, 0#32, 0#32, 0#32, 0#32] ∧ Below w.heap.size w wx) (fun i _ => 8 - (intOf i).toNat)
      case atStart => exact ⟨0, by omega, rfl, hA0, hT0, hO0, hB0⟩
      case round =>
        clear hA0 hT0 hO0 hB0
        obtain ⟨k, hk, rfl, hA, hT, hO, hB⟩ := hrel
        by_cases hlt : k < 8
        · have hki : (k : Int) < 8 := by omega
          have hc := hA.cell k (by rw [addK_length r t k hk]; exact hlt)
          rw [addK_at r t k hlt] at hc
          have hd := hT.cell k (by show k < 8; exact hlt)
          have hS0 : ∀ W, RowW W w.heap.size 61 (addK r t k) → RowW (W.setCell ⟨w.heap.size, k, none⟩ (.int .u32 (I (wAt r.list k + wAt t.list k)))) w.heap.size 61 (addK r t (k + 1)) := by
            intro W h
            have := h.set k (wAt r.list k + wAt t.list k)
            rw [addK_set r t k hlt] at this
            exact this
          obtain ⟨x, hx⟩ : ∃ x, wAt r.list k = x := ⟨_, rfl⟩
          obtain ⟨y, hy⟩ : ∃ y, wAt t.list k = y := ⟨_, rfl⟩
          rw [hx] at hc hS0
          rw [hy] at hd hS0
          have HS := Lib.hid hS0
          have HA := Lib.hid hA
          have HT := Lib.hid hT
          have HO := Lib.hid hO
          have HB := Lib.hid hB
          clear hA hT hO hB hS0 hx hy
          go_wp2
          refine wp_region_any (by kernel_rfl) ?_
          refine any_head_tail (C := fun w' => ∃ n, w' = wr.drewN n) 0 9 (by decide) (by rfl) (by kernel_rfl) ⟨1, rfl⟩ ?_
          simp only [List.drop_succ_cons, List.drop_zero, List.take_succ_cons, List.take_zero]
          repeat (go_big_quiet_step (fail))
          refine wpQuiet_nil ?_
          intro _ hw'
          obtain ⟨nq, hw''⟩ := hw'
          subst hw''
          have hbq := below_drewN (Below.refl wr.heap.size wr) nq
          have HA2 := Lib.hid (HA.out.kept hbq)
          have HT2 := Lib.hid (HT.out.kept hbq)
          have HO2 := Lib.hid (HO.out.kept hbq)
          have HB2 := Lib.hid (HB.out.trans (hbq.mono HB.out.size))
          have hz := HA2.out.frozen k
          have hc2 := HA2.out.cell k (by rw [addK_length r t k hk]; exact hlt)
          clear hbq HA HT HO HB hc hd
          generalize wr.drewN nq = W9 at *
          go_wp2
          go_roundw
          case rel => exact ⟨k + 1, by omega, rfl, HS.out _ HA2.out, HT2.out.other _ _ (by simp; omega), HO2.out.other _ _ (by simp), HB2.out.setCell (by simp) _⟩
          case measure => simp [intOf]; omega
        · obtain rfl : k = 8 := by omega
          have hm8 : (Tryd.prog.info? 61).map (·.size) = some (u32v (addR r t).list).toArray.size := Tryd.size8w
          have hA8 : RowW _ w.heap.size 61 (addR r t).list := hA
          have HA := Lib.hid hA8
          have hst := hO.store (addR r t).list rfl
          have hcell : RowW _ (w.heap.size + 1) 61 (addR r t).list := hO.setRow _
          have HCL := Lib.hid hcell
          have HBN := Lib.hid (below_setRow hB (Nat.le_succ _) (u32v (addR r t).list).toArray)
          clear hA hT hO hB hA8 hcell
          go_wp2_with (first
            | (refine wpList_load_row rfl 61 (.tmp 2) rfl w.heap.size rfl 61 (u32v (addR r t).list).toArray (0, 0) (.array 8 43) HA.out Tryd.underlying61 rfl hm8 ?_))
          refine bodyPost_ret (results_cell_row rfl _ _ (w.heap.size + 1) 61 (u32v (addR r t).list).toArray (0, 0) (.array 8 43) rfl HCL.out Tryd.underlying61 rfl hm8) rfl ⟨?_, HBN.out⟩
          rw [HRES.out]; rfl
end Go.Proofs.YticcmhgahbnboaaDoor
