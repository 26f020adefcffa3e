/-
  Stamps, counts and cells of a seat without bytes.
-/
import Derived.Test.YtkjpmdpljdgcjaaV0
import Derived.Test.YtkjpmdpljdgcjaaOM
import Derived.Test.YtkjpmdpljdgcjaaDF
import Derived.Test.YtkjpmdpljdgcjaaDT
import Derived.Lib.MinMax
import Derived.Laws.StructEq
import Derived.ChangeKeysEq
import Derived.WideShapes
import Derived.ChangeSame
import Derived.OpenShut
import Derived.Deep.Slices
import Derived.ChangeArms
namespace Go.Proofs.Ytkjpmdpljdgcjaa
open Go.RowKit Go Go.Sort Go.Deep
set_option linter.unusedVariables false
set_option maxRecDepth 20000

def sgood (n s : Int) : Bool := decide ((n = 0 ∧ s = 0) ∨ (1 ≤ n ∧ n ≤ 281474976710656 ∧ (s = 1 ∨ s = 2)))
def sless (n s m t : Int) : Bool := decide (n < m ∨ (n = m ∧ s < t))
set_option maxHeartbeats 1600000 in
theorem rsless_c (n s m t : Int) (w : World) : Calls Try.prog 24 #[.agg #[.int .i64 n, .int .i64 s], .agg #[.int .i64 m, .int .i64 t]] w (Tells (.bool (sless n s m t)) w) := by
  have hp := (Pair.new w 23 n s).alloc (.cells #[.int .i64 m, .int .i64 t] 23)
  have hq := Pair.second w (.cells #[.int .i64 n, .int .i64 s] 23) 23 m t
  have hb := second_below w (.cells #[.int .i64 n, .int .i64 s] 23) (.cells #[.int .i64 m, .int .i64 t] 23)
  have h0 := hp.c0
  have h1 := hp.c1
  have k0 := hq.c0
  have k1 := hq.c1
  have HB := Lib.hid hb
  have HV := Lib.hid (show sless n s m t = decide (n < m ∨ (n = m ∧ s < t)) from rfl)
  clear hp hq hb
  by_cases e : n = m
  · subst e
    by_cases l : s < t
    all_goals
      go_enter Try.func24, Try.ntmps24
      go_wp2
      go_ret
      exact ⟨by rw [HV.out]; simp; try omega, HB.out⟩
  · have e0 : (n != m) = true := by simpa using e
    by_cases l : n < m
    all_goals
      go_enter Try.func24, Try.ntmps24
      go_wp2
      go_ret
      exact ⟨by rw [HV.out]; simp; try omega, HB.out⟩
theorem size2s (a b : Int) : (Try.prog.info? 23).map (·.size) = some (#[Value.int .i64 a, Value.int .i64 b] : Array Value).size := by
  show _ = some 2
  kernel_rfl
def vgood (a b : Int) : Bool := decide (0 ≤ a) && (decide (a ≤ 1099511627776) && (decide (0 ≤ b) && decide (b ≤ 1099511627776)))
def vcov (a b c d : Int) : Bool := decide (c ≤ a) && decide (d ≤ b)
/-- Both pairs' cells, in every world in which nothing of the old is turned. -/
theorem two_cells {W W' : World} {g1 g2 : Nat} {t1 t2 : TypeId} {a b c d : Int} (h : Pair W g1 t1 a b) (k : Pair W g2 t2 c d) (hb : Below W.heap.size W W') :
    W'.cell? ⟨g1, 0, none⟩ = some (.int .i64 a) ∧ W'.cell? ⟨g1, 1, none⟩ = some (.int .i64 b) ∧ W'.cell? ⟨g2, 0, none⟩ = some (.int .i64 c) ∧ W'.cell? ⟨g2, 1, none⟩ = some (.int .i64 d) :=
  ⟨(h.kept hb).c0, (h.kept hb).c1, (k.kept hb).c0, (k.kept hb).c1⟩
theorem size2 (a b : Int) : (Try.prog.info? 25).map (·.size) = some (#[Value.int .i64 a, Value.int .i64 b] : Array Value).size := by
  show _ = some 2
  kernel_rfl
theorem pair_eq {x y x' y' : Int} (h1 : x = x') (h2 : y = y') : Ending.returned (.agg #[.int .i64 x, .int .i64 y]) = .returned (.agg #[.int .i64 x', .int .i64 y']) := by rw [h1, h2]
/-- The greatest counts of a list. -/
def joinS (l : List (Int × Int)) : Int × Int := l.foldl (fun r p => (Max.max r.1 p.1, Max.max r.2 p.2)) (0, 0)
theorem joinS_take (l : List (Int × Int)) (k : Nat) (h : k < l.length) : joinS (l.take (k + 1)) = (Max.max (joinS (l.take k)).1 (l.getD k (0, 0)).1, Max.max (joinS (l.take k)).2 (l.getD k (0, 0)).2) := by
  unfold joinS
  rw [List.take_succ_eq_append_getElem h, List.foldl_append, List.getD_eq_getElem?_getD, List.getElem?_eq_getElem h]
  rfl
set_option maxHeartbeats 1600000 in
theorem rvjoin_c {w : World} {a : Option Addr} {n cap : Nat} {l : List (Int × Int)} (hl : Prs w a n cap l) : Calls Try.prog 43 #[.slice a n cap] w (Tells (.agg #[.int .i64 (joinS l).1, .int .i64 (joinS l).2]) w) := by
  have hln := hl.len
  have hnle := hl.le
  have hnm := hl.max
  have hq := (Pair.second w (.cells #[.int .i64 0, .int .i64 0] 25) 25 0 0)
  have ho := (Pair.new w 25 0 0).alloc (.cells #[.int .i64 0, .int .i64 0] 25)
  have hb := second_below w (.cells #[.int .i64 0, .int .i64 0] 25) (.cells #[.int .i64 0, .int .i64 0] 25)
  have HL := Lib.hid hl
  clear hl
  go_enter Try.func43, Try.ntmps43
  go_upto_region 2 with (fail)
  generalize (w.alloc (.cells #[.int .i64 0, .int .i64 0] 25)).alloc (.cells #[.int .i64 0, .int .i64 0] 25) = W1 at *
  have HQ := Lib.hid hq
  have HO := Lib.hid ho
  have HB := Lib.hid hb
  clear hq ho hb
  go_wp2
  go_loopw [4] (fun i wr => ∃ k : Nat, k ≤ n ∧ i = .int .i64 k ∧ Pair wr (w.heap.size + 1) 25 (joinS (l.take k)).1 (joinS (l.take k)).2 ∧ Pair wr w.heap.size 25 0 0 ∧ Below w.heap.size w wr) (fun i _ => n - (intOf i).toNat)
  case atStart => exact ⟨0, by omega, rfl, HQ.out, HO.out, HB.out⟩
  case round =>
    clear HQ HO HB
    obtain ⟨k, hk, rfl, hq, ho, hB⟩ := hrel
    by_cases hlt : k < n
    · have hki : (k : Int) < (n : Int) := by omega
      have hki2 : (k : Int) < (cap : Int) := by omega
      obtain ⟨b, off, rfl, hcell⟩ : ∃ b off, a = some ⟨b, off, none⟩ ∧ ∀ i, i < n → w.cell? ⟨b, off + i * 2, none⟩ = some (.int .i64 (l.getD i (0, 0)).1) ∧ w.cell? ⟨b, off + i * 2 + 1, none⟩ = some (.int .i64 (l.getD i (0, 0)).2) := by
        rcases HL.out.adr with h0 | h
        · omega
        · exact h
      have HCW := Lib.hid (fun W (h : Below w.heap.size w W) => (show W.cell? ⟨b, off + k * 2, none⟩ = some (.int .i64 (l.getD k (0, 0)).1) ∧ W.cell? ⟨b, off + k * 2 + 1, none⟩ = some (.int .i64 (l.getD k (0, 0)).2) from
        ⟨(h.cell (World.block_lt_of_cell? w _ (hcell k hlt).1)).trans (hcell k hlt).1, (h.cell (World.block_lt_of_cell? w _ (hcell k hlt).2)).trans (hcell k hlt).2⟩))
      have HJ := Lib.hid (joinS_take l k (by omega))
      obtain ⟨x, hx⟩ : ∃ x, l.getD k (0, 0) = x := ⟨_, rfl⟩
      obtain ⟨j, hj⟩ : ∃ j, joinS (l.take k) = j := ⟨_, rfl⟩
      simp only [hx] at HCW
      rw [hx] at HJ
      rw [hj] at hq HJ
      obtain ⟨x0, x1⟩ := x
      obtain ⟨j0, j1⟩ := j
      simp only at HCW HJ hq
      obtain ⟨p0, p1⟩ := HCW.out wr hB
      have q0 := hq.c0
      have q1 := hq.c1
      have z0 := hq.fz 0
      have z1 := hq.fz 1
      have HQ := Lib.hid hq
      have HO := Lib.hid ho
      have HB := Lib.hid hB
      clear hcell hx hj hq ho hB
      go_wp2
      refine wp_region_any (by kernel_rfl) ?_
      refine any_head_tail (C := fun w' => ∃ n, w' = wr.drewN n) 0 9 (by decide) (by rfl) (by kernel_rfl) ⟨1, rfl⟩ ?_
      simp only [List.drop_succ_cons, List.drop_zero, List.take_succ_cons, List.take_zero]
      repeat (go_big_quiet_step (fail))
      refine wpQuiet_nil ?_
      intro _ hw'
      obtain ⟨nq, hw''⟩ := hw'
      subst hw''
      have hbq := drewN_below (Below.refl wr.heap.size wr) nq
      have HQ2 := Lib.hid (HQ.out.kept hbq)
      have HO2 := Lib.hid (HO.out.kept hbq)
      have HB2 := Lib.hid (HB.out.trans (hbq.mono HB.out.size))
      clear hbq q0 q1 z0 z1 p0 p1 HQ HO HB
      generalize wr.drewN nq = W2 at *
      have q0 := HQ2.out.c0
      have z0 := HQ2.out.fz 0
      go_upto_region 6 with (fail)
      have HQ3 := Lib.hid (HQ2.out.set0 (Max.max j0 x0))
      have HO3 := Lib.hid (HO2.out.other ⟨w.heap.size + 1, 0, none⟩ (.int .i64 (Max.max j0 x0)) (by simp))
      have HB3 := Lib.hid (HB2.out.setCell (p := ⟨w.heap.size + 1, 0, none⟩) (by simp) (.int .i64 (Max.max j0 x0)))
      clear q0 z0 HQ2 HO2 HB2
      generalize W2.setCell ⟨w.heap.size + 1, 0, none⟩ (.int .i64 (Max.max j0 x0)) = W3 at *
      have q1 := HQ3.out.c1
      obtain ⟨p0, p1⟩ := HCW.out W3 HB3.out
      refine wp_region_any (by kernel_rfl) ?_
      refine any_head_tail (C := fun w' => ∃ n, w' = W3.drewN n) 0 9 (by decide) (by rfl) (by kernel_rfl) ⟨1, rfl⟩ ?_
      simp only [List.drop_succ_cons, List.drop_zero, List.take_succ_cons, List.take_zero]
      repeat (go_big_quiet_step (fail))
      refine wpQuiet_nil ?_
      intro _ hw'
      obtain ⟨nq, hw''⟩ := hw'
      subst hw''
      have hbq := drewN_below (Below.refl W3.heap.size W3) nq
      have HQ4 := Lib.hid (HQ3.out.kept hbq)
      have HO4 := Lib.hid (HO3.out.kept hbq)
      have HB4 := Lib.hid (HB3.out.trans (hbq.mono HB3.out.size))
      clear hbq q1 p0 p1 HQ3 HO3 HB3
      generalize W3.drewN nq = W4 at *
      have q1 := HQ4.out.c1
      have z1 := HQ4.out.fz 1
      go_wp2
      go_roundw
      case rel => exact ⟨k + 1, by omega, rfl, by rw [HJ.out]; exact HQ4.out.set1 _, HO4.out.other _ _ (by simp), HB4.out.setCell (by simp) _⟩
      case measure => simp [intOf]; omega
    · obtain rfl : k = n := by omega
      rw [List.take_of_length_le (by omega)] at hq
      have q0 := hq.c0
      have q1 := hq.c1
      have o0 := ho.c0
      have o1 := ho.c1
      have z0 := ho.fz 0
      have z1 := ho.fz 1
      have HO := Lib.hid ho
      have HB := Lib.hid hB
      clear hq ho hB
      go_wp2
      refine bodyPost_ret (results_cell_row rfl _ _ w.heap.size 25 _ (0, 0) _ rfl ((HO.out.set0 _).set1 _) Try.underlying25 rfl (size2 _ _)) rfl ⟨rfl, (HB.out.setCell (Nat.le_refl _) _).setCell (Nat.le_refl _) _⟩
theorem prs2 (W : World) (a b c d : Int) : Prs (W.alloc (.cells #[.int .i64 a, .int .i64 b, .int .i64 c, .int .i64 d] 25)) (some ⟨W.heap.size, 0, none⟩) 2 2 [(a, b), (c, d)] := by
  have h : (W.alloc (.cells #[.int .i64 a, .int .i64 b, .int .i64 c, .int .i64 d] 25)).heap[W.heap.size]? = some (.cells #[.int .i64 a, .int .i64 b, .int .i64 c, .int .i64 d] 25 (0, 0)) := heap_alloc_new W _
  refine ⟨rfl, Nat.le_refl _, by omega, .inr ⟨W.heap.size, 0, rfl, fun i hi => ?_⟩⟩
  rcases (by omega : i = 0 ∨ i = 1) with rfl | rfl
  · exact ⟨by rw [cell_of_row _ _ _ _ _ _ h]; rfl, by rw [cell_of_row _ _ _ _ _ _ h]; rfl⟩
  · exact ⟨by rw [cell_of_row _ _ _ _ _ _ h]; rfl, by rw [cell_of_row _ _ _ _ _ _ h]; rfl⟩
/-- A cell that lies at a block's head. -/
def Cel (W : World) (q : Nat) (n s a b : Int) (g : Bool) (t : List UInt8) (d e : Int) : Prop := W.heap[q]? = some (.cells #[.int .i64 n, .int .i64 s, .int .i64 a, .int .i64 b, .bool g, .string (text t), .int .i64 d, .int .i64 e] 27 (0, 0))
theorem Cel.lt {W : World} {q : Nat} {n s a b d e : Int} {g : Bool} {t : List UInt8} (h : Cel W q n s a b g t d e) : q < W.heap.size := (Array.getElem?_eq_some_iff.1 h).1
theorem Cel.kept {W W' : World} {q : Nat} {n s a b d e : Int} {g : Bool} {t : List UInt8} (h : Cel W q n s a b g t d e) (hb : Below W.heap.size W W') : Cel W' q n s a b g t d e := (hb.block q h.lt).trans h
theorem Cel.new (W : World) (n s a b : Int) (g : Bool) (t : List UInt8) (d e : Int) : Cel (W.alloc (.cells #[.int .i64 n, .int .i64 s, .int .i64 a, .int .i64 b, .bool g, .string (text t), .int .i64 d, .int .i64 e] 27)) W.heap.size n s a b g t d e := heap_alloc_new W _
theorem Cel.cs {W : World} {q : Nat} {n s a b d e : Int} {g : Bool} {t : List UInt8} (h : Cel W q n s a b g t d e) :
    W.cell? ⟨q, 0, none⟩ = some (.int .i64 n) ∧ W.cell? ⟨q, 1, none⟩ = some (.int .i64 s) ∧ W.cell? ⟨q, 2, none⟩ = some (.int .i64 a) ∧ W.cell? ⟨q, 3, none⟩ = some (.int .i64 b) ∧
    W.cell? ⟨q, 4, none⟩ = some (.bool g) ∧ W.cell? ⟨q, 5, none⟩ = some (.string (text t)) ∧ W.cell? ⟨q, 6, none⟩ = some (.int .i64 d) ∧ W.cell? ⟨q, 7, none⟩ = some (.int .i64 e) := by
  refine ⟨?_, ?_, ?_, ?_, ?_, ?_, ?_, ?_⟩ <;> (rw [cell_of_row W q _ _ _ (0, 0) h]; rfl)
theorem Cel.fz {W : World} {q : Nat} {n s a b d e : Int} {g : Bool} {t : List UInt8} (h : Cel W q n s a b g t d e) (i : Nat) : W.frozen? ⟨q, i, none⟩ = false := frozen_of_row W q i _ _ h
theorem Cel.alloc {W : World} {q : Nat} {n s a b d e : Int} {g : Bool} {t : List UInt8} (h : Cel W q n s a b g t d e) (o : Obj) : Cel (W.alloc o) q n s a b g t d e := (Below.heap_alloc W o q h.lt).trans h
def zeroS (d e : Int) : Bool := decide (d = 0) && decide (e = 0)
def wroteS (n s a b : Int) (g : Bool) (t : List UInt8) : Bool := n != 0 || (s != 0 || (a != 0 || (b != 0 || (g || t != []))))
def cgoodS (p n s a b : Int) (g : Bool) (t : List UInt8) (d e : Int) : Bool :=
  ((p == 1 && zeroS d e) || (p == 2 && (!g && vgood d e))) && (!wroteS n s a b g t || (sgood n s && (decide (0 < n) && (vgood a b && (decide (t.length ≤ 64) && (!g || t == []))))))
def cseenS (p n s a b : Int) (g : Bool) (t : List UInt8) (d e : Int) : List UInt8 × Bool :=
  if (cgoodS p n s a b g t d e && (wroteS n s a b g t && (!g && vcov a b d e))) = true then (t, true) else ([], false)
set_option maxHeartbeats 1600000 in
theorem rvtwo_c (a b c d : Int) (w : World) : Calls Try.prog 39 #[.agg #[.int .i64 a, .int .i64 b], .agg #[.int .i64 c, .int .i64 d]] w (Tells (.agg #[.int .i64 (joinS [(a, b), (c, d)]).1, .int .i64 (joinS [(a, b), (c, d)]).2]) w) := by
  have hp := (Pair.new w 25 a b).alloc (.cells #[.int .i64 c, .int .i64 d] 25) |>.alloc (.cells #[.int .i64 0, .int .i64 0] 25)
  have hq := (Pair.new (w.alloc (.cells #[.int .i64 a, .int .i64 b] 25)) 25 c d).alloc (.cells #[.int .i64 0, .int .i64 0] 25)
  have ho := Pair.new ((w.alloc (.cells #[.int .i64 a, .int .i64 b] 25)).alloc (.cells #[.int .i64 c, .int .i64 d] 25)) 25 0 0
  rw [World.size_alloc] at hq
  rw [World.size_alloc, World.size_alloc] at ho
  have hb := ((alloc_below w (.cells #[.int .i64 a, .int .i64 b] 25)).alloc (by simp) (.cells #[.int .i64 c, .int .i64 d] 25)).alloc (by simp; omega) (.cells #[.int .i64 0, .int .i64 0] 25)
  have HJ := Lib.hid (fun W => rvjoin_c (prs2 W a b c d))
  obtain ⟨⟨j0, j1⟩, hj⟩ : ∃ q, joinS [(a, b), (c, d)] = q := ⟨_, rfl⟩
  rw [hj] at HJ ⊢
  have HB := Lib.hid hb
  clear hb hj
  go_enter Try.func39, Try.ntmps39
  go_upto_region 1 with (fail)
  generalize ((w.alloc (.cells #[.int .i64 a, .int .i64 b] 25)).alloc (.cells #[.int .i64 c, .int .i64 d] 25)).alloc (.cells #[.int .i64 0, .int .i64 0] 25) = W1 at *
  have h0 := hp.c0
  have h1 := hp.c1
  have k0 := hq.c0
  have k1 := hq.c1
  have HO := Lib.hid ho
  clear hp hq ho
  go_wp2_with (go_at_call 43; (with_reducible refine (HJ.out _).mono ?_); rintro e9 w9 ⟨rfl, hb9⟩; have o0 := ((HO.out.alloc _).kept hb9).c0; have o1 := ((HO.out.alloc _).kept hb9).c1; have z0 := ((HO.out.alloc _).kept hb9).fz 0; have z1 := ((HO.out.alloc _).kept hb9).fz 1)
  refine bodyPost_ret (results_cell_row rfl _ _ (w.heap.size + 1 + 1) 25 _ (0, 0) _ rfl ((((HO.out.alloc _).kept hb9).set0 _).set1 _) Try.underlying25 rfl (size2 _ _)) rfl ⟨rfl, ((((HB.out.alloc HB.out.size _).trans (hb9.mono (by have := HB.out.size; simp; omega))).setCell (by simp; omega) _).setCell (by simp; omega) _)⟩
def IsI64 (n : Int) : Prop := -9223372036854775808 ≤ n ∧ n ≤ 9223372036854775807
theorem isI64_of_wf {n : Int} (h : (Lit.int .i64 n).wf = true) : IsI64 n := by
  simpa [IsI64, Lit.wf, IntKind.min, IntKind.max, IntKind.signed, IntKind.bits] using h
theorem stamp_cells {H : Type} {enc : TypeId × Value → H} {W : World} {base : Nat} {sp held : Bool} {fuel : Nat} {cs : List Value} {x : DataW H × List MemPlace} (h : DataW.trod enc Try.prog W base (fun _ => sp) held fuel 23 cs = some x) :
    ∃ a b, cs = [.int .i64 a, .int .i64 b] ∧ IsI64 a ∧ IsI64 b := by
  obtain ⟨xs, m, _, rfl, hl, hlen, hf⟩ := DataW.trod_struct Try.underlying23 h
  have h2 : Try.prog.cellsOf 23 = 2 := by kernel_rfl
  have h1 : Try.prog.cellsOf 3 = 1 := by kernel_rfl
  rw [h2] at hl
  match xs, hlen with
  | [y0, y1], _ =>
    have i0 := hf 0 _ rfl
    have i1 := hf 1 _ rfl
    match cs, hl with
    | [c0, c1], _ =>
      have j0 : DataW.trod enc Try.prog W base (fun _ => sp) held m 3 (([c0, c1].drop 0).take (Try.prog.cellsOf 3)) = some y0 := i0
      have j1 : DataW.trod enc Try.prog W base (fun _ => sp) held m 3 (([c0, c1].drop 1).take (Try.prog.cellsOf 3)) = some y1 := i1
      rw [h1] at j0 j1
      obtain ⟨a, ha, _, wa⟩ := DataW.trod_int Try.underlying3 j0
      obtain ⟨b, hb, _, wb⟩ := DataW.trod_int Try.underlying3 j1
      simp at ha hb
      subst ha
      subst hb
      exact ⟨a, b, rfl, isI64_of_wf wa, isI64_of_wf wb⟩
theorem open_stamp {H : Type} {enc : TypeId × Value → H} {W : World} {base : Nat} {v : Value} {d : DataW H} {p : List MemPlace} (hv : Value.okWide Try.prog W .any base 23 v)
    (h : DataW.Trod enc Try.prog W 0 (fun _ => true) true 23 v d p) : ∃ a b, v = .agg #[.int .i64 a, .int .i64 b] ∧ IsI64 a ∧ IsI64 b := by
  simp only [Value.okWide, Try.underlying23] at hv
  obtain ⟨cs, rfl, hs, _⟩ := hv
  obtain ⟨m, hm⟩ := h
  obtain ⟨a, b, hc, ha, hb⟩ := stamp_cells hm
  refine ⟨a, b, ?_, ha, hb⟩
  congr 1
  apply Array.toList_inj.1
  exact hc
theorem vec_cells {H : Type} {enc : TypeId × Value → H} {W : World} {base : Nat} {sp : Nat → Bool} {held : Bool} {fuel : Nat} {cs : List Value} {x : DataW H × List MemPlace} (h : DataW.trod enc Try.prog W base sp held fuel 25 cs = some x) :
    ∃ a b, cs = [.int .i64 a, .int .i64 b] ∧ IsI64 a ∧ IsI64 b := by
  obtain ⟨xs, m, rfl, rfl, hl, hx, hi⟩ := DataW.trod_array Try.underlying25 h
  have h2 : Try.prog.cellsOf 25 = 2 := by kernel_rfl
  have h1 : Try.prog.cellsOf 3 = 1 := by kernel_rfl
  rw [h2] at hl
  rw [h1] at hi
  match cs, hl with
  | [c0, c1], _ =>
    have i0 := hi 0 (by omega)
    have i1 := hi 1 (by omega)
    rw [List.getElem?_eq_getElem (by omega)] at i0 i1
    obtain ⟨a, ha, _, wa⟩ := DataW.trod_int Try.underlying3 i0
    obtain ⟨b, hb, _, wb⟩ := DataW.trod_int Try.underlying3 i1
    simp at ha hb
    subst ha
    subst hb
    exact ⟨a, b, rfl, isI64_of_wf wa, isI64_of_wf wb⟩
theorem open_vec {H : Type} {enc : TypeId × Value → H} {W : World} {base : Nat} {v : Value} {d : DataW H} {p : List MemPlace} (hv : Value.okWide Try.prog W .any base 25 v)
    (h : DataW.Trod enc Try.prog W 0 (fun _ => true) true 25 v d p) : ∃ a b, v = .agg #[.int .i64 a, .int .i64 b] ∧ IsI64 a ∧ IsI64 b := by
  simp only [Value.okWide, Try.underlying25] at hv
  obtain ⟨cs, rfl, hs, _⟩ := hv
  obtain ⟨m, hm⟩ := h
  obtain ⟨a, b, hc, ha, hb⟩ := vec_cells hm
  refine ⟨a, b, ?_, ha, hb⟩
  congr 1
  apply Array.toList_inj.1
  exact hc
theorem srun_part_int {W : World} (xs : Array Value) (k : Nat) {v : Value} (hv : xs[k]? = some v) : (part 3 xs k).run Try.prog W = .ok v W := by
  have hi : (Try.prog.info? 3).map (fun i => (i.zero, i.size, i.bytes)) = some (some (.int .i64 0), 1, 8) := by kernel_rfl
  obtain ⟨i0, hi, hz0, hz1, hz2⟩ := info_parts hi
  have hag : (isAgg 3).run Try.prog W = .ok false W := by
    unfold isAgg
    rw [Sem.run_bind, run_underlying Try.underlying3 W]
    rfl
  simp [part, hag, sizeOf, typeInfo, hi, hz1, hv, go_sem]
theorem stamp_eqIn (x y x' y' : Int) (W : World) : (Op.equalIn 10000 23 (.agg #[.int .i64 x, .int .i64 y]) (.agg #[.int .i64 x', .int .i64 y'])).run Try.prog W = .ok ((x == x') && (y == y')) W := by
  rw [run_equalIn_struct W 9999 _ _ _ Try.underlying23 (by kernel_rfl)]
  obtain ⟨f0, f1, hf, h0, h1, t0, t1, n0, n1⟩ : ∃ f0 f1, (Try.prog.fieldsOf 23).toList = [f0, f1] ∧ f0.offset = 0 ∧ f1.offset = 1 ∧ f0.type = 3 ∧ f1.type = 3 ∧ f0.name ≠ "_" ∧ f1.name ≠ "_" := ⟨_, _, rfl, rfl, rfl, rfl, rfl, by decide, by decide⟩
  rw [hf]
  have p0 := srun_part_int (W := W) #[.int .i64 x, .int .i64 y] 0 rfl
  have p1 := srun_part_int (W := W) #[.int .i64 x, .int .i64 y] 1 rfl
  have q0 := srun_part_int (W := W) #[.int .i64 x', .int .i64 y'] 0 rfl
  have q1 := srun_part_int (W := W) #[.int .i64 x', .int .i64 y'] 1 rfl
  cases e0 : (x == x') <;> cases e1 : (y == y') <;> simp [Op.eqFields, n0, n1, h0, h1, t0, t1, p0, q0, p1, q1, e0, e1, run_equalIn_int W 9998 3 .i64 .i64 _ _ Try.underlying3, Sem.run_bind, Result.andThen_ok]
theorem stamp_eql (x y : Int) (W : World) : (binOp .eql 23 (.agg #[.int .i64 x, .int .i64 y]) (.agg #[.int .i64 x, .int .i64 y])).run Try.prog W = .ok (.bool true) W := by
  rw [run_eql_struct, stamp_eqIn]; simp
theorem stamp_neq (x y : Int) (W : World) : (binOp .neq 23 (.agg #[.int .i64 x, .int .i64 y]) (.agg #[.int .i64 x, .int .i64 y])).run Try.prog W = .ok (.bool false) W := by
  rw [run_neq_struct, stamp_eqIn]; simp
theorem stamp_eqg (op : BinOp) (x y : Operand) (xs ys : Array Value) (W : World) : (eqGuard op 23 x y (.agg xs) (.agg ys)).run Try.prog W = .ok () W := run_eqGuard_agg W op _ x y xs ys (by kernel_rfl)
theorem stamp_eqb (x y x' y' : Int) (b : Bool) (h : ((x == x') && (y == y')) = b) (W : World) : (binOp .eql 23 (.agg #[.int .i64 x, .int .i64 y]) (.agg #[.int .i64 x', .int .i64 y'])).run Try.prog W = .ok (.bool b) W := by
  rw [run_eql_struct, stamp_eqIn, h]; rfl
set_option maxHeartbeats 800000 in
theorem issite_c (s : Int) (w : World) : Calls Try.prog 44 #[.int .i64 s] w (fun e w' => e = .returned (.bool (decide (s = 1 ∨ s = 2))) ∧ w' = w) := by
  by_cases h1 : s = 1
  · subst h1
    go_enter Try.func44, Try.ntmps44
    go_wp2
    go_ret
    exact ⟨rfl, rfl⟩
  · have e1 : (s == 1) = false := by simpa using h1
    by_cases h2 : s = 2
    · subst h2
      go_enter Try.func44, Try.ntmps44
      go_wp2
      go_ret
      exact ⟨rfl, rfl⟩
    · have e2 : (s == 2) = false := by simpa using h2
      have hd : decide (s = 1 ∨ s = 2) = false := by simp [h1, h2]
      rw [hd]
      clear h1 h2 hd
      go_enter Try.func44, Try.ntmps44
      go_wp2
      go_ret
      exact ⟨rfl, rfl⟩
set_option maxHeartbeats 1600000 in
theorem sgood_c (n s : Int) (w : World) : Calls Try.prog 42 #[.agg #[.int .i64 n, .int .i64 s]] w (Tells (.bool (sgood n s)) w) := by
  have hp := Pair.new w 23 n s
  have hb := alloc_below w (.cells #[.int .i64 n, .int .i64 s] 23)
  have h0 := hp.c0
  have h1 := hp.c1
  have HB := Lib.hid hb
  have HS := Lib.hid (issite_c s)
  have hEG := stamp_eqg
  clear hp hb
  by_cases z : n = 0 ∧ s = 0
  · obtain ⟨rfl, rfl⟩ := z
    have hEQ := stamp_eql
    rw [show sgood 0 0 = true by decide]
    go_enter Try.func42, Try.ntmps42
    go_wp2
    go_ret
    exact ⟨rfl, HB.out⟩
  · have hEQ := stamp_eqb n s 0 0 false (by rw [Bool.eq_false_iff]; simp; intro h1 h2; exact z ⟨h1, h2⟩)
    by_cases hs : s = 1 ∨ s = 2
    · rw [decide_eq_true hs] at HS
      by_cases n1 : 1 ≤ n
      · by_cases n2 : n ≤ 281474976710656
        · have hv : sgood n s = true := by unfold sgood; simp; omega
          rw [hv]
          clear hv z hs
          go_enter Try.func42, Try.ntmps42
          go_wp2_with (go_at_call 44; (with_reducible refine (HS.out _).mono ?_); rintro e w1 ⟨rfl, rfl⟩)
          go_ret
          exact ⟨rfl, HB.out⟩
        · have hv : sgood n s = false := by unfold sgood; simp; omega
          rw [hv]
          clear hv z hs
          go_enter Try.func42, Try.ntmps42
          go_wp2_with (go_at_call 44; (with_reducible refine (HS.out _).mono ?_); rintro e w1 ⟨rfl, rfl⟩)
          go_ret
          exact ⟨by simp; omega, HB.out⟩
      · have hv : sgood n s = false := by unfold sgood; simp; omega
        rw [hv]
        clear hv z hs
        go_enter Try.func42, Try.ntmps42
        go_wp2_with (go_at_call 44; (with_reducible refine (HS.out _).mono ?_); rintro e w1 ⟨rfl, rfl⟩)
        go_ret
        exact ⟨rfl, HB.out⟩
    · rw [decide_eq_false hs] at HS
      have hv : sgood n s = false := by unfold sgood; simp; omega
      rw [hv]
      clear hv z hs
      go_enter Try.func42, Try.ntmps42
      go_wp2_with (go_at_call 44; (with_reducible refine (HS.out _).mono ?_); rintro e w1 ⟨rfl, rfl⟩)
      go_ret
      exact ⟨rfl, HB.out⟩
set_option maxHeartbeats 1600000 in
theorem sless_c (n s m t : Int) (w : World) : Calls Try.prog 23 #[.agg #[.int .i64 n, .int .i64 s], .agg #[.int .i64 m, .int .i64 t]] w (Tells (.bool (sless n s m t)) w) := by
  have hp := (Pair.new w 23 n s).alloc (.cells #[.int .i64 m, .int .i64 t] 23)
  have hq := Pair.second w (.cells #[.int .i64 n, .int .i64 s] 23) 23 m t
  have hb := second_below w (.cells #[.int .i64 n, .int .i64 s] 23) (.cells #[.int .i64 m, .int .i64 t] 23)
  have h0 := hp.c0
  have h1 := hp.c1
  have h2 := hq.c0
  have h3 := hq.c1
  have HB := Lib.hid hb
  have HV := Lib.hid (show sless n s m t = decide (n < m ∨ (n = m ∧ s < t)) from rfl)
  clear hp hq hb
  by_cases e : n = m
  · subst e
    by_cases l : s < t
    · have hv : sless n s n t = true := by rw [HV.out]; simp; omega
      rw [hv]
      clear hv
      go_enter Try.func23, Try.ntmps23
      go_wp2
      go_ret
      exact ⟨rfl, HB.out⟩
    · have hv : sless n s n t = false := by rw [HV.out]; simp; omega
      rw [hv]
      clear hv
      go_enter Try.func23, Try.ntmps23
      go_wp2
      go_ret
      exact ⟨rfl, HB.out⟩
  · have ne : (n != m) = true := by simpa using e
    by_cases l : n < m
    · have hv : sless n s m t = true := by rw [HV.out]; simp; omega
      rw [hv]
      clear hv e
      go_enter Try.func23, Try.ntmps23
      go_wp2
      go_ret
      exact ⟨rfl, HB.out⟩
    · have hv : sless n s m t = false := by rw [HV.out]; simp; omega
      rw [hv]
      clear hv e
      go_enter Try.func23, Try.ntmps23
      go_wp2
      go_ret
      exact ⟨rfl, HB.out⟩
theorem run_part_int {W : World} (xs : Array Value) (k : Nat) {v : Value} (hv : xs[k]? = some v) : (part 3 xs k).run Try.prog W = .ok v W := by
  have hi : (Try.prog.info? 3).map (fun i => (i.zero, i.size, i.bytes)) = some (some (.int .i64 0), 1, 8) := by kernel_rfl
  obtain ⟨i0, hi, hz0, hz1, hz2⟩ := info_parts hi
  have hag : (isAgg 3).run Try.prog W = .ok false W := by
    unfold isAgg
    rw [Sem.run_bind, run_underlying Try.underlying3 W]
    rfl
  simp [part, hag, sizeOf, typeInfo, hi, hz1, hv, go_sem]
theorem vec_eqIn (x y x' y' : Int) (W : World) : (Op.equalIn 10000 25 (.agg #[.int .i64 x, .int .i64 y]) (.agg #[.int .i64 x', .int .i64 y'])).run Try.prog W = .ok ((x == x') && (y == y')) W := by
  have hi : (Try.prog.info? 3).map (fun i => (i.zero, i.size, i.bytes)) = some (some (.int .i64 0), 1, 8) := by kernel_rfl
  obtain ⟨i3, hi3, _, _, _⟩ := info_parts hi
  have hc : Try.prog.cellsOf 3 = 1 := by kernel_rfl
  rw [run_equalIn_array W 9999 _ _ Try.underlying25 hi3, hc]
  have p0 := run_part_int (W := W) #[.int .i64 x, .int .i64 y] 0 rfl
  have p1 := run_part_int (W := W) #[.int .i64 x, .int .i64 y] 1 rfl
  have q0 := run_part_int (W := W) #[.int .i64 x', .int .i64 y'] 0 rfl
  have q1 := run_part_int (W := W) #[.int .i64 x', .int .i64 y'] 1 rfl
  show (Op.eqItems 9999 3 1 _ _ [0, 1]).run Try.prog W = _
  simp only [Op.eqItems, Sem.run_bind, Nat.zero_mul, Nat.one_mul, p0, q0, Result.andThen_ok]
  cases h0 : (x == x') <;> cases h1 : (y == y') <;> simp [p1, q1, h0, h1, run_equalIn_int W 9998 3 .i64 .i64 _ _ Try.underlying3]
theorem vec_eql (x y : Int) (W : World) : (binOp .eql 25 (.agg #[.int .i64 x, .int .i64 y]) (.agg #[.int .i64 x, .int .i64 y])).run Try.prog W = .ok (.bool true) W := by
  rw [run_eql_struct, vec_eqIn]; simp
theorem vec_neq (x y : Int) (W : World) : (binOp .neq 25 (.agg #[.int .i64 x, .int .i64 y]) (.agg #[.int .i64 x, .int .i64 y])).run Try.prog W = .ok (.bool false) W := by
  rw [run_neq_struct, vec_eqIn]; simp
theorem vec_eqg (op : BinOp) (x y : Operand) (xs ys : Array Value) (W : World) : (eqGuard op 25 x y (.agg xs) (.agg ys)).run Try.prog W = .ok () W := run_eqGuard_agg W op _ x y xs ys (by kernel_rfl)
/-- One block is other than it was. -/
structure Wrote (g : Nat) (cs : Array Value) (t : TypeId) (w w' : World) : Prop where
  os : w'.os = w.os
  tape : w'.tape = w.tape
  output : w'.output = w.output
  size : w.heap.size ≤ w'.heap.size
  cell : w'.heap[g]? = some (.cells cs t (0, 0))
  rest : ∀ k, k < w.heap.size → k ≠ g → w'.heap[k]? = w.heap[k]?
theorem Wrote.below {g : Nat} {cs : Array Value} {t : TypeId} {w w' : World} (h : Wrote g cs t w w') {B : Nat} (hB : B ≤ g) (hg : g ≤ w.heap.size) : Below B w w' :=
  ⟨h.os, h.tape, h.output, h.size, fun k hk => h.rest k (by omega) (by omega)⟩
theorem Wrote.of_set {g : Nat} {t : TypeId} {w w1 : World} {cs : Array Value} (hb : Below w.heap.size w w1) (hc : w1.heap[g]? = some (.cells cs t (0, 0))) (i : Nat) (v : Value) :
    Wrote g (cs.setIfInBounds i v) t w (w1.setCell ⟨g, i, none⟩ v) := by
  refine ⟨hb.os, hb.tape, hb.output, ?_, heap_setCell_same w1 g i _ t _ hc, fun k hk hkg => ?_⟩
  · exact Nat.le_trans hb.size (Nat.le_of_eq (World.size_setCell _ _ _).symm)
  · rw [heap_setCell_other w1 _ k _ hkg]; exact hb.block k hk
theorem Wrote.trans {g : Nat} {t : TypeId} {w w1 w2 : World} {cs cs' : Array Value} (h : Wrote g cs t w w1) (k : Wrote g cs' t w1 w2) : Wrote g cs' t w w2 :=
  ⟨k.os.trans h.os, k.tape.trans h.tape, k.output.trans h.output, Nat.le_trans h.size k.size, k.cell, fun i hi hg => (k.rest i (Nat.lt_of_lt_of_le hi h.size) hg).trans (h.rest i hi hg)⟩
theorem Wrote.after {g : Nat} {t : TypeId} {w w1 w2 : World} {cs : Array Value} (h : Below w.heap.size w w1) (k : Wrote g cs t w1 w2) : Wrote g cs t w w2 :=
  ⟨k.os.trans h.os, k.tape.trans h.tape, k.output.trans h.output, Nat.le_trans h.size k.size, k.cell, fun i hi hg => (k.rest i (Nat.lt_of_lt_of_le hi h.size) hg).trans (h.block i hi)⟩
theorem Wrote.pair {g g' : Nat} {t t' : TypeId} {w w' : World} {cs : Array Value} {a b : Int} (h : Wrote g cs t w w') (hp : Pair w g' t' a b) (hne : g' ≠ g) : Pair w' g' t' a b :=
  (h.rest g' hp.lt hne).trans hp
/-- Nothing comes back; one block is other than it was. -/
def Sets (g : Nat) (cs : Array Value) (t : TypeId) (w : World) (e : Ending) (w' : World) : Prop := e = .returned (.tuple #[]) ∧ Wrote g cs t w w'
theorem idx_vec (xs : Array Value) (k : Nat) (hk : k < 2) {v : Value} (hv : xs[k]? = some v) (W : World) : (Instr.index 25 (.agg xs) (.int .i64 (k : Int))).run Try.prog W = .ok v W := by
  have hi : (Try.prog.info? 3).map (fun i => (i.zero, i.size, i.bytes)) = some (some (.int .i64 0), 1, 8) := by kernel_rfl
  obtain ⟨i0, hi, hz0, hz1, hz2⟩ := info_parts hi
  simp [Instr.index, run_underlying Try.underlying25, asIntOf, hk, hv, sizeOf, typeInfo, hi, hz1, go_sem]
theorem idx0 (a b : Int) (W : World) : (Instr.index 25 (.agg #[.int .i64 a, .int .i64 b]) (.int .i64 0)).run Try.prog W = .ok (.int .i64 a) W := idx_vec _ 0 (by decide) rfl W
theorem idx1 (a b : Int) (W : World) : (Instr.index 25 (.agg #[.int .i64 a, .int .i64 b]) (.int .i64 1)).run Try.prog W = .ok (.int .i64 b) W := idx_vec _ 1 (by decide) rfl W
theorem step_cov (k : Bool) (a b c d : Int) : (k && decide (c ≤ a) && decide (d ≤ b)) = (k && vcov a b c d) := by unfold vcov; cases k <;> rfl
set_option maxHeartbeats 800000 in
theorem cov1_c (i x y : Int) (c : Bool) (g : Nat) {w : World} (h : w.heap[g]? = some (.cells #[.bool c] 4 (0, 0))) :
    Calls Try.prog 41 #[.int .i64 i, .int .i64 x, .int .i64 y, .pointer (some ⟨g, 0, none⟩)] w (Sets g #[.bool (c && decide (y ≤ x))] 4 w) := by
  have h0 : w.cell? ⟨g, 0, none⟩ = some (.bool c) := by rw [cell_of_row w g 0 _ 4 (0, 0) h]; rfl
  have hz : w.frozen? ⟨g, 0, none⟩ = false := frozen_of_row w g 0 _ 4 h
  have HH := Lib.hid h
  clear h
  cases c <;> by_cases g0 : y ≤ x
  all_goals
    have HD := Lib.hid (show decide (y ≤ x) = _ from rfl)
    simp only [g0, decide_true, decide_false] at HD
    go_enter Try.func41, Try.ntmps41
    go_wp2
    refine bodyPost_ret (results_none rfl _ _ _) rfl ⟨rfl, ?_⟩
    first
      | exact Wrote.of_set (Below.refl _ _) HH.out 0 _
      | (have hd : decide (y ≤ x) = false := by simp; omega
         rw [hd]; exact Wrote.of_set (Below.refl _ _) HH.out 0 _)
      | (have hd : decide (y ≤ x) = true := by simp; omega
         rw [hd]; exact Wrote.of_set (Below.refl _ _) HH.out 0 _)
set_option maxHeartbeats 800000 in
theorem join1_c0 (x y p q : Int) (g : Nat) {w : World} (h : w.heap[g]? = some (.cells #[.int .i64 p, .int .i64 q] 25 (0, 0))) :
    Calls Try.prog 38 #[.int .i64 0, .int .i64 x, .int .i64 y, .pointer (some ⟨g, 0, none⟩)] w (Sets g #[.int .i64 (Max.max x y), .int .i64 q] 25 w) := by
  have h0 := Pair.c0 h
  have hz := Pair.fz h 0
  have HH := Lib.hid h
  clear h
  go_enter Try.func38, Try.ntmps38
  go_wp2
  all_goals
    refine bodyPost_ret (results_none rfl _ _ _) rfl ⟨rfl, ?_⟩
    first
      | exact Wrote.of_set (Below.refl _ _) HH.out 0 _
      | (have hm : Max.max x y = x := by omega
         rw [hm]; exact Wrote.of_set (Below.refl _ _) HH.out 0 _)
      | (have hm : Max.max x y = y := by omega
         rw [hm]; exact Wrote.of_set (Below.refl _ _) HH.out 0 _)
set_option maxHeartbeats 800000 in
theorem join1_c1 (x y p q : Int) (g : Nat) {w : World} (h : w.heap[g]? = some (.cells #[.int .i64 p, .int .i64 q] 25 (0, 0))) :
    Calls Try.prog 38 #[.int .i64 1, .int .i64 x, .int .i64 y, .pointer (some ⟨g, 0, none⟩)] w (Sets g #[.int .i64 p, .int .i64 (Max.max x y)] 25 w) := by
  have h0 := Pair.c1 h
  have hz := Pair.fz h 1
  have HH := Lib.hid h
  clear h
  go_enter Try.func38, Try.ntmps38
  go_wp2
  all_goals
    refine bodyPost_ret (results_none rfl _ _ _) rfl ⟨rfl, ?_⟩
    first
      | exact Wrote.of_set (Below.refl _ _) HH.out 1 _
      | (have hm : Max.max x y = x := by omega
         rw [hm]; exact Wrote.of_set (Below.refl _ _) HH.out 1 _)
      | (have hm : Max.max x y = y := by omega
         rw [hm]; exact Wrote.of_set (Below.refl _ _) HH.out 1 _)
set_option maxHeartbeats 1600000 in
theorem each_cov (a b c d : Int) (k : Bool) (g : Nat) {w : World} (h : w.heap[g]? = some (.cells #[.bool k] 4 (0, 0))) :
    Calls Try.prog 37 #[.agg #[.int .i64 a, .int .i64 b], .agg #[.int .i64 c, .int .i64 d], .func (.func 41) #[] #[.pointer (some ⟨g, 0, none⟩)]] w (Sets g #[.bool (k && decide (c ≤ a) && decide (d ≤ b))] 4 w) := by
  have hg : g < w.heap.size := (Array.getElem?_eq_some_iff.1 h).1
  have hp := (Pair.new w 25 a b).alloc (.cells #[.int .i64 c, .int .i64 d] 25)
  have hq := Pair.second w (.cells #[.int .i64 a, .int .i64 b] 25) 25 c d
  have hb := second_below w (.cells #[.int .i64 a, .int .i64 b] 25) (.cells #[.int .i64 c, .int .i64 d] 25)
  have hW : Wrote g #[.bool k] 4 w ((w.alloc (.cells #[.int .i64 a, .int .i64 b] 25)).alloc (.cells #[.int .i64 c, .int .i64 d] 25)) :=
    ⟨hb.os, hb.tape, hb.output, hb.size, (hb.block g hg).trans h, fun k hk _ => hb.block k hk⟩
  have HA := Lib.hid (fun (W : World) (h : W.heap[g]? = _) => cov1_c 0 a c k g h)
  have HB := Lib.hid (fun (W : World) (h : W.heap[g]? = _) => cov1_c 1 b d (k && decide (c ≤ a)) g h)
  clear h hb
  go_enter Try.func37, Try.ntmps37
  go_upto_region 1 with (fail)
  generalize (w.alloc (.cells #[.int .i64 a, .int .i64 b] 25)).alloc (.cells #[.int .i64 c, .int .i64 d] 25) = W1 at *
  have p0 := hp.c0
  have p1 := hp.c1
  have HP := Lib.hid hp
  have HQ := Lib.hid hq
  have HW := Lib.hid hW
  clear hp hq hW
  go_wp2
  go_loopw [9] (fun i wr => (Pair wr w.heap.size 25 a b ∧ Pair wr (w.heap.size + 1) 25 c d) ∧ ((i = .int .i64 0 ∧ Wrote g #[.bool k] 4 w wr) ∨ (i = .int .i64 1 ∧ Wrote g #[.bool (k && decide (c ≤ a))] 4 w wr) ∨ (i = .int .i64 2 ∧ Wrote g #[.bool (k && decide (c ≤ a) && decide (d ≤ b))] 4 w wr))) (fun i _ => 2 - (intOf i).toNat)
  case atStart => exact ⟨⟨HP.out, HQ.out⟩, .inl ⟨rfl, HW.out⟩⟩
  case round =>
    clear HP HQ HW p0 p1
    obtain ⟨⟨hp, hq⟩, ⟨rfl, hW⟩ | ⟨rfl, hW⟩ | ⟨rfl, hW⟩⟩ := hrel
    · have q0 := hq.c0
      have hix := idx0 a b
      have HP := Lib.hid hp
      have HQ := Lib.hid hq
      have HW := Lib.hid hW
      clear hp hq hW
      go_wp2_with (go_at_call 41; (with_reducible refine (HA.out _ HW.out.cell).mono ?_); rintro e w2 ⟨rfl, hw2⟩)
      have HR := Lib.hid (HW.out.trans hw2)
      have HP2 := Lib.hid (hw2.pair HP.out (by omega))
      have HQ2 := Lib.hid (hw2.pair HQ.out (by omega))
      clear hw2 q0
      go_wp2
      go_roundw
      case rel => exact ⟨⟨HP2.out, HQ2.out⟩, .inr (.inl ⟨rfl, HR.out⟩)⟩
      case measure => simp [intOf]
    · have q1 := hq.c1
      have hix := idx1 a b
      have HP := Lib.hid hp
      have HQ := Lib.hid hq
      have HW := Lib.hid hW
      clear hp hq hW
      go_wp2_with (go_at_call 41; (with_reducible refine (HB.out _ HW.out.cell).mono ?_); rintro e w2 ⟨rfl, hw2⟩)
      have HR := Lib.hid (HW.out.trans hw2)
      have HP2 := Lib.hid (hw2.pair HP.out (by omega))
      have HQ2 := Lib.hid (hw2.pair HQ.out (by omega))
      clear hw2 q1
      go_wp2
      go_roundw
      case rel => exact ⟨⟨HP2.out, HQ2.out⟩, .inr (.inr ⟨rfl, HR.out⟩)⟩
      case measure => simp [intOf]
    · have HW := Lib.hid hW
      clear hp hq hW
      go_wp2
      refine bodyPost_ret (results_none rfl _ _ _) rfl ⟨rfl, HW.out⟩
set_option maxHeartbeats 1600000 in
theorem each_join (a b c d : Int) (p q : Int) (g : Nat) {w : World} (h : w.heap[g]? = some (.cells #[.int .i64 p, .int .i64 q] 25 (0, 0))) :
    Calls Try.prog 37 #[.agg #[.int .i64 a, .int .i64 b], .agg #[.int .i64 c, .int .i64 d], .func (.func 38) #[] #[.pointer (some ⟨g, 0, none⟩)]] w (Sets g #[.int .i64 (Max.max a c), .int .i64 (Max.max b d)] 25 w) := by
  have hg : g < w.heap.size := (Array.getElem?_eq_some_iff.1 h).1
  have hp := (Pair.new w 25 a b).alloc (.cells #[.int .i64 c, .int .i64 d] 25)
  have hq := Pair.second w (.cells #[.int .i64 a, .int .i64 b] 25) 25 c d
  have hb := second_below w (.cells #[.int .i64 a, .int .i64 b] 25) (.cells #[.int .i64 c, .int .i64 d] 25)
  have hW : Wrote g #[.int .i64 p, .int .i64 q] 25 w ((w.alloc (.cells #[.int .i64 a, .int .i64 b] 25)).alloc (.cells #[.int .i64 c, .int .i64 d] 25)) :=
    ⟨hb.os, hb.tape, hb.output, hb.size, (hb.block g hg).trans h, fun k hk _ => hb.block k hk⟩
  have HA := Lib.hid (fun (W : World) (h : W.heap[g]? = _) => join1_c0 a c p q g h)
  have HB := Lib.hid (fun (W : World) (h : W.heap[g]? = _) => join1_c1 b d (Max.max a c) q g h)
  clear h hb
  go_enter Try.func37, Try.ntmps37
  go_upto_region 1 with (fail)
  generalize (w.alloc (.cells #[.int .i64 a, .int .i64 b] 25)).alloc (.cells #[.int .i64 c, .int .i64 d] 25) = W1 at *
  have p0 := hp.c0
  have p1 := hp.c1
  have HP := Lib.hid hp
  have HQ := Lib.hid hq
  have HW := Lib.hid hW
  clear hp hq hW
  go_wp2
  go_loopw [9] (fun i wr => (Pair wr w.heap.size 25 a b ∧ Pair wr (w.heap.size + 1) 25 c d) ∧ ((i = .int .i64 0 ∧ Wrote g #[.int .i64 p, .int .i64 q] 25 w wr) ∨ (i = .int .i64 1 ∧ Wrote g #[.int .i64 (Max.max a c), .int .i64 q] 25 w wr) ∨ (i = .int .i64 2 ∧ Wrote g #[.int .i64 (Max.max a c), .int .i64 (Max.max b d)] 25 w wr))) (fun i _ => 2 - (intOf i).toNat)
  case atStart => exact ⟨⟨HP.out, HQ.out⟩, .inl ⟨rfl, HW.out⟩⟩
  case round =>
    clear HP HQ HW p0 p1
    obtain ⟨⟨hp, hq⟩, ⟨rfl, hW⟩ | ⟨rfl, hW⟩ | ⟨rfl, hW⟩⟩ := hrel
    · have q0 := hq.c0
      have hix := idx0 a b
      have HP := Lib.hid hp
      have HQ := Lib.hid hq
      have HW := Lib.hid hW
      clear hp hq hW
      go_wp2_with (go_at_call 38; (with_reducible refine (HA.out _ HW.out.cell).mono ?_); rintro e w2 ⟨rfl, hw2⟩)
      have HR := Lib.hid (HW.out.trans hw2)
      have HP2 := Lib.hid (hw2.pair HP.out (by omega))
      have HQ2 := Lib.hid (hw2.pair HQ.out (by omega))
      clear hw2 q0
      go_wp2
      go_roundw
      case rel => exact ⟨⟨HP2.out, HQ2.out⟩, .inr (.inl ⟨rfl, HR.out⟩)⟩
      case measure => simp [intOf]
    · have q1 := hq.c1
      have hix := idx1 a b
      have HP := Lib.hid hp
      have HQ := Lib.hid hq
      have HW := Lib.hid hW
      clear hp hq hW
      go_wp2_with (go_at_call 38; (with_reducible refine (HB.out _ HW.out.cell).mono ?_); rintro e w2 ⟨rfl, hw2⟩)
      have HR := Lib.hid (HW.out.trans hw2)
      have HP2 := Lib.hid (hw2.pair HP.out (by omega))
      have HQ2 := Lib.hid (hw2.pair HQ.out (by omega))
      clear hw2 q1
      go_wp2
      go_roundw
      case rel => exact ⟨⟨HP2.out, HQ2.out⟩, .inr (.inr ⟨rfl, HR.out⟩)⟩
      case measure => simp [intOf]
    · have HW := Lib.hid hW
      clear hp hq hW
      go_wp2
      refine bodyPost_ret (results_none rfl _ _ _) rfl ⟨rfl, HW.out⟩
theorem Wrote.flag {g : Nat} {v : Value} {t : TypeId} {w w' : World} (h : Wrote g #[v] t w w') : w'.cell? ⟨g, 0, none⟩ = some v := by
  rw [cell_of_row w' g 0 _ t (0, 0) h.cell]; rfl
theorem flag_new (W : World) (v : Value) (t : TypeId) : (W.alloc (.cells #[v] t)).heap[W.heap.size]? = some (.cells #[v] t (0, 0)) := heap_alloc_new W _
theorem mkf (fn : Fn) (first cap : Array Value) (w : World) : (Instr.makeFunc fn first cap).run Try.prog w = .ok (.func fn first cap) w := rfl
set_option maxHeartbeats 1600000 in
theorem vcov_c (a b c d : Int) (w : World) : Calls Try.prog 34 #[.agg #[.int .i64 a, .int .i64 b], .agg #[.int .i64 c, .int .i64 d]] w (Tells (.bool (vcov a b c d)) w) := by
  have hp := (Pair.new w 25 a b).alloc (.cells #[.int .i64 c, .int .i64 d] 25)
  have hq := Pair.second w (.cells #[.int .i64 a, .int .i64 b] 25) 25 c d
  have hb := second_below w (.cells #[.int .i64 a, .int .i64 b] 25) (.cells #[.int .i64 c, .int .i64 d] 25)
  have hs : ((w.alloc (.cells #[.int .i64 a, .int .i64 b] 25)).alloc (.cells #[.int .i64 c, .int .i64 d] 25)).heap.size = w.heap.size + 1 + 1 := by simp
  have HE := Lib.hid (fun (W : World) (g : Nat) (h : W.heap[g]? = _) => each_cov a b c d true g h)
  have HS := Lib.hid (step_cov true a b c d)
  have hmf := mkf
  go_enter Try.func34, Try.ntmps34
  go_upto_region 1 with (fail)
  generalize (w.alloc (.cells #[.int .i64 a, .int .i64 b] 25)).alloc (.cells #[.int .i64 c, .int .i64 d] 25) = W1 at *
  have HP := Lib.hid hp
  have HQ := Lib.hid hq
  have HB := Lib.hid hb
  have HZ := Lib.hid hs
  clear hp hq hb hs
  go_upto_region 2 with (fail)
  have hp2 := HP.out.alloc (.cells #[.bool true] 4)
  have hq2 := HQ.out.alloc (.cells #[.bool true] 4)
  have hb2 := HB.out.alloc HB.out.size (.cells #[.bool true] 4)
  have hf2 := flag_new W1 (.bool true) 4
  obtain ⟨g, hg⟩ : ∃ g, W1.heap.size = g := ⟨_, rfl⟩
  have hs2 : g ≤ (W1.alloc (.cells #[.bool true] 4)).heap.size := by simp [World.size_alloc]; omega
  have hwg : w.heap.size ≤ g := by rw [← hg]; exact HB.out.size
  rw [hg] at hf2 ⊢
  generalize W1.alloc (.cells #[.bool true] 4) = W2 at *
  have p0 := hp2.c0
  have p1 := hp2.c1
  have q0 := hq2.c0
  have q1 := hq2.c1
  have HF := Lib.hid hf2
  have HB2 := Lib.hid hb2
  have HS2 := Lib.hid hs2
  clear hp2 hq2 hf2 hb2 hs2 HP HQ HB HZ hg
  go_upto_region 3 with (go_at_call 37; (with_reducible refine (HE.out _ g HF.out).mono ?_); rintro e w3 ⟨rfl, hw3⟩)
  have hv := hw3.flag
  rw [HS.out] at hv
  have HW := Lib.hid (HB2.out.trans (hw3.below hwg HS2.out))
  clear hw3 p0 p1 q0 q1
  go_wp2
  go_ret
  exact ⟨by simp, HW.out⟩
theorem each_start {W1 w : World} {g : Nat} (hB : Below w.heap.size w W1) (hg : W1.heap.size = g) (o : Obj) : w.heap.size ≤ g ∧ g ≤ (W1.alloc o).heap.size ∧ Below w.heap.size w (W1.alloc o) :=
  ⟨by rw [← hg]; exact hB.size, by simp [World.size_alloc]; omega, hB.alloc hB.size o⟩
theorem vgood_cov (a b : Int) : vgood a b = (vcov a b 0 0 && vcov 1099511627776 1099511627776 a b) := by
  unfold vgood vcov
  rw [Bool.eq_iff_iff]
  simp only [Bool.and_eq_true, decide_eq_true_eq]
  omega
set_option maxHeartbeats 1600000 in
theorem vgood_c (a b : Int) (w : World) : Calls Try.prog 36 #[.agg #[.int .i64 a, .int .i64 b]] w (Tells (.bool (vgood a b)) w) := by
  have hp := Pair.new w 25 a b
  have hb := alloc_below w (.cells #[.int .i64 a, .int .i64 b] 25)
  have HV := Lib.hid (vgood_cov a b)
  have H1 := Lib.hid (vcov_c a b 0 0)
  have H2 := Lib.hid (vcov_c 1099511627776 1099511627776 a b)
  have HP := Lib.hid hp
  have HB := Lib.hid hb
  have p0 := hp.c0
  have p1 := hp.c1
  clear hp hb
  cases e1 : vcov a b 0 0 <;> cases e2 : vcov 1099511627776 1099511627776 a b
  all_goals
    rw [e1, e2] at HV
    rw [e1] at H1
    rw [e2] at H2
    clear e1 e2
    go_enter Try.func36, Try.ntmps36
    go_wp2_with (first
      | (go_at_call 34; (with_reducible refine (H2.out w1).mono ?_); rintro e w2 ⟨rfl, hb2⟩; have hs2 := HB.out.trans ((hb1.trans (hb2.mono hb1.size)).mono HB.out.size))
      | (go_at_call 34; (with_reducible refine (H1.out _).mono ?_); rintro e w1 ⟨rfl, hb1⟩; have hs1 := HB.out.trans (hb1.mono HB.out.size); have q0 := (HP.out.kept hb1).c0; have q1 := (HP.out.kept hb1).c1))
    go_ret
    refine ⟨by rw [HV.out]; rfl, ?_⟩
    first
      | exact hs2
      | exact hs1
set_option maxHeartbeats 1600000 in
theorem vjoin_c {w : World} {a : Option Addr} {n cap : Nat} {l : List (Int × Int)} (hl : Prs w a n cap l) : Calls Try.prog 26 #[.slice a n cap] w (Tells (.agg #[.int .i64 (joinS l).1, .int .i64 (joinS l).2]) w) := by
  have hln := hl.len
  have hnle := hl.le
  have hnm := hl.max
  have ho := (Pair.new w 25 0 0).alloc (.cells #[.int .i64 0, .int .i64 0] 25)
  have hq := Pair.second w (.cells #[.int .i64 0, .int .i64 0] 25) 25 0 0
  have hb := second_below w (.cells #[.int .i64 0, .int .i64 0] 25) (.cells #[.int .i64 0, .int .i64 0] 25)
  have hmf := mkf
  have HL := Lib.hid hl
  clear hl
  go_enter Try.func26, Try.ntmps26
  go_upto_region 2 with (fail)
  generalize (w.alloc (.cells #[.int .i64 0, .int .i64 0] 25)).alloc (.cells #[.int .i64 0, .int .i64 0] 25) = W1 at *
  have HQ := Lib.hid hq
  have HO := Lib.hid ho
  have HB := Lib.hid hb
  clear hq ho hb
  go_wp2
  go_loopw [8] (fun i wr => ∃ k : Nat, k ≤ n ∧ i = .int .i64 k ∧ Pair wr (w.heap.size + 1) 25 (joinS (l.take k)).1 (joinS (l.take k)).2 ∧ Pair wr w.heap.size 25 0 0 ∧ Below w.heap.size w wr) (fun i _ => n - (intOf i).toNat)
  case atStart => exact ⟨0, by omega, rfl, HQ.out, HO.out, HB.out⟩
  case round =>
    clear HQ HO HB
    obtain ⟨k, hk, rfl, hq, ho, hB⟩ := hrel
    by_cases hlt : k < n
    · have hki : (k : Int) < (n : Int) := by omega
      have hki2 : (k : Int) < (cap : Int) := by omega
      obtain ⟨b, off, rfl, hcell⟩ : ∃ b off, a = some ⟨b, off, none⟩ ∧ ∀ i, i < n → w.cell? ⟨b, off + i * 2, none⟩ = some (.int .i64 (l.getD i (0, 0)).1) ∧ w.cell? ⟨b, off + i * 2 + 1, none⟩ = some (.int .i64 (l.getD i (0, 0)).2) := by
        rcases HL.out.adr with h0 | h
        · omega
        · exact h
      have HCW := Lib.hid (fun W (h : Below w.heap.size w W) => (show W.cell? ⟨b, off + k * 2, none⟩ = some (.int .i64 (l.getD k (0, 0)).1) ∧ W.cell? ⟨b, off + k * 2 + 1, none⟩ = some (.int .i64 (l.getD k (0, 0)).2) from
        ⟨(h.cell (World.block_lt_of_cell? w _ (hcell k hlt).1)).trans (hcell k hlt).1, (h.cell (World.block_lt_of_cell? w _ (hcell k hlt).2)).trans (hcell k hlt).2⟩))
      have HJ := Lib.hid (joinS_take l k (by omega))
      obtain ⟨x, hx⟩ : ∃ x, l.getD k (0, 0) = x := ⟨_, rfl⟩
      obtain ⟨j, hj⟩ : ∃ j, joinS (l.take k) = j := ⟨_, rfl⟩
      simp only [hx] at HCW
      rw [hx] at HJ
      rw [hj] at hq HJ
      obtain ⟨x0, x1⟩ := x
      obtain ⟨j0, j1⟩ := j
      simp only at HCW HJ hq
      obtain ⟨p0, p1⟩ := HCW.out wr hB
      have HE := Lib.hid (fun (W : World) (h : W.heap[w.heap.size + 1]? = _) => each_join j0 j1 x0 x1 j0 j1 (w.heap.size + 1) h)
      have HQ := Lib.hid hq
      have HO := Lib.hid ho
      have HB := Lib.hid hB
      clear hcell hx hj hq ho hB
      go_upto_region 5 with (fail)
      have hq2 := HQ.out.alloc (.cells #[.int .i64 x0, .int .i64 x1] 25)
      have hx2 := Pair.new wr 25 x0 x1
      have HO2 := Lib.hid (HO.out.alloc (.cells #[.int .i64 x0, .int .i64 x1] 25))
      have HB2 := Lib.hid (HB.out.alloc HB.out.size (.cells #[.int .i64 x0, .int .i64 x1] 25))
      have HS2 := Lib.hid (show w.heap.size + 1 ≤ (wr.alloc (.cells #[.int .i64 x0, .int .i64 x1] 25)).heap.size from Nat.le_of_lt hq2.lt)
      obtain ⟨gx, hgx⟩ : ∃ g, wr.heap.size = g := ⟨_, rfl⟩
      rw [hgx] at hx2 ⊢
      generalize wr.alloc (.cells #[.int .i64 x0, .int .i64 x1] 25) = W2 at *
      have q0 := hq2.c0
      have q1 := hq2.c1
      have v0 := hx2.c0
      have v1 := hx2.c1
      have HF := Lib.hid (show W2.heap[w.heap.size + 1]? = some (.cells #[.int .i64 j0, .int .i64 j1] 25 (0, 0)) from hq2)
      clear hq2 hx2 p0 p1 HQ HO HB hgx
      go_wp2_with (go_at_call 37; (with_reducible refine (HE.out _ HF.out).mono ?_); rintro e w3 ⟨rfl, hw3⟩)
      have HV := Lib.hid (show Pair w3 (w.heap.size + 1) 25 (Max.max j0 x0) (Max.max j1 x1) from hw3.cell)
      have HO3 := Lib.hid (hw3.pair HO2.out (by omega))
      have HB3 := Lib.hid (HB2.out.trans (hw3.below (by omega) HS2.out))
      clear hw3
      go_wp2
      go_roundw
      case rel => exact ⟨k + 1, by omega, rfl, by rw [HJ.out]; exact HV.out, HO3.out, HB3.out⟩
      case measure => simp [intOf]; omega
    · obtain rfl : k = n := by omega
      rw [List.take_of_length_le (by omega)] at hq
      have q0 := hq.c0
      have q1 := hq.c1
      have o0 := ho.c0
      have o1 := ho.c1
      have z0 := ho.fz 0
      have z1 := ho.fz 1
      have HO := Lib.hid ho
      have HB := Lib.hid hB
      clear hq ho hB
      go_wp2
      refine bodyPost_ret (results_cell_row rfl _ _ w.heap.size 25 _ (0, 0) _ rfl ((HO.out.set0 _).set1 _) Try.underlying25 rfl (size2 _ _)) rfl ⟨rfl, (HB.out.setCell (Nat.le_refl _) _).setCell (Nat.le_refl _) _⟩
theorem stamp_eqInD (k : Nat) (x y x' y' : Int) (W : World) : (Op.equalIn (k + 2) 23 (.agg #[.int .i64 x, .int .i64 y]) (.agg #[.int .i64 x', .int .i64 y'])).run Try.prog W = .ok ((x == x') && (y == y')) W := by
  rw [run_equalIn_struct W (k + 1) _ _ _ Try.underlying23 (by kernel_rfl)]
  obtain ⟨f0, f1, hf, h0, h1, t0, t1, n0, n1⟩ : ∃ f0 f1, (Try.prog.fieldsOf 23).toList = [f0, f1] ∧ f0.offset = 0 ∧ f1.offset = 1 ∧ f0.type = 3 ∧ f1.type = 3 ∧ f0.name ≠ "_" ∧ f1.name ≠ "_" := ⟨_, _, rfl, rfl, rfl, rfl, rfl, by decide, by decide⟩
  rw [hf]
  have p0 := run_part_int (W := W) #[.int .i64 x, .int .i64 y] 0 rfl
  have p1 := run_part_int (W := W) #[.int .i64 x, .int .i64 y] 1 rfl
  have q0 := run_part_int (W := W) #[.int .i64 x', .int .i64 y'] 0 rfl
  have q1 := run_part_int (W := W) #[.int .i64 x', .int .i64 y'] 1 rfl
  cases e0 : (x == x') <;> cases e1 : (y == y') <;> simp [Op.eqFields, n0, n1, h0, h1, t0, t1, p0, q0, p1, q1, e0, e1, run_equalIn_int W k 3 .i64 .i64 _ _ Try.underlying3, Sem.run_bind, Result.andThen_ok]
theorem vec_eqInD (k : Nat) (x y x' y' : Int) (W : World) : (Op.equalIn (k + 2) 25 (.agg #[.int .i64 x, .int .i64 y]) (.agg #[.int .i64 x', .int .i64 y'])).run Try.prog W = .ok ((x == x') && (y == y')) W := by
  have hi : (Try.prog.info? 3).map (fun i => (i.zero, i.size, i.bytes)) = some (some (.int .i64 0), 1, 8) := by kernel_rfl
  obtain ⟨i3, hi3, _, _, _⟩ := info_parts hi
  have hc : Try.prog.cellsOf 3 = 1 := by kernel_rfl
  rw [run_equalIn_array W (k + 1) _ _ Try.underlying25 hi3, hc]
  have p0 := run_part_int (W := W) #[.int .i64 x, .int .i64 y] 0 rfl
  have p1 := run_part_int (W := W) #[.int .i64 x, .int .i64 y] 1 rfl
  have q0 := run_part_int (W := W) #[.int .i64 x', .int .i64 y'] 0 rfl
  have q1 := run_part_int (W := W) #[.int .i64 x', .int .i64 y'] 1 rfl
  show (Op.eqItems (k + 1) 3 1 _ _ [0, 1]).run Try.prog W = _
  simp only [Op.eqItems, Sem.run_bind, Nat.zero_mul, Nat.one_mul, p0, q0, Result.andThen_ok]
  cases h0 : (x == x') <;> cases h1 : (y == y') <;> simp [p1, q1, h0, h1, run_equalIn_int W k 3 .i64 .i64 _ _ Try.underlying3]
theorem vec_eqb (x y x' y' : Int) (r : Bool) (h : ((x == x') && (y == y')) = r) (W : World) : (binOp .eql 25 (.agg #[.int .i64 x, .int .i64 y]) (.agg #[.int .i64 x', .int .i64 y'])).run Try.prog W = .ok (.bool r) W := by
  rw [run_eql_struct, vec_eqIn, h]; rfl
theorem vec_neb (x y x' y' : Int) (r : Bool) (h : ((x == x') && (y == y')) = r) (W : World) : (binOp .neq 25 (.agg #[.int .i64 x, .int .i64 y]) (.agg #[.int .i64 x', .int .i64 y'])).run Try.prog W = .ok (.bool (!r)) W := by
  rw [run_neq_struct, vec_eqIn, h]; rfl
theorem stamp_neb (x y x' y' : Int) (r : Bool) (h : ((x == x') && (y == y')) = r) (W : World) : (binOp .neq 23 (.agg #[.int .i64 x, .int .i64 y]) (.agg #[.int .i64 x', .int .i64 y'])).run Try.prog W = .ok (.bool (!r)) W := by
  rw [run_neq_struct, stamp_eqIn, h]; rfl
theorem part_s0 (xs : Array Value) (W : World) : (part 23 xs 0).run Try.prog W = .ok (.agg (xs.extract 0 2)) W := by kernel_rfl
theorem part_v2 (xs : Array Value) (W : World) : (part 25 xs 2).run Try.prog W = .ok (.agg (xs.extract 2 4)) W := by kernel_rfl
theorem part_v6 (xs : Array Value) (W : World) : (part 25 xs 6).run Try.prog W = .ok (.agg (xs.extract 6 8)) W := by kernel_rfl
def cellEq (n s a b : Int) (g : Bool) (t : List UInt8) (d e : Int) (n' s' a' b' : Int) (g' : Bool) (t' : List UInt8) (d' e' : Int) : Bool :=
  ((n == n') && (s == s')) && (((a == a') && (b == b')) && ((g == g') && (decide (t = t') && ((d == d') && (e == e')))))
theorem cell_eqIn (n s a b : Int) (g : Bool) (t : List UInt8) (d e : Int) (n' s' a' b' : Int) (g' : Bool) (t' : List UInt8) (d' e' : Int) (W : World) :
    (Op.equalIn 10000 27 (.agg #[.int .i64 n, .int .i64 s, .int .i64 a, .int .i64 b, .bool g, .string (text t), .int .i64 d, .int .i64 e]) (.agg #[.int .i64 n', .int .i64 s', .int .i64 a', .int .i64 b', .bool g', .string (text t'), .int .i64 d', .int .i64 e'])).run Try.prog W = .ok (cellEq n s a b g t d e n' s' a' b' g' t' d' e') W := by
  rw [run_equalIn_struct W 9999 _ _ _ Try.underlying27 (by kernel_rfl)]
  obtain ⟨f0, f1, f2, f3, f4, hf, h0, h1, h2, h3, h4, t0, t1, t2, t3, t4, n0, n1, n2, n3, n4⟩ : ∃ f0 f1 f2 f3 f4, (Try.prog.fieldsOf 27).toList = [f0, f1, f2, f3, f4] ∧ f0.offset = 0 ∧ f1.offset = 2 ∧ f2.offset = 4 ∧ f3.offset = 5 ∧ f4.offset = 6 ∧
    f0.type = 23 ∧ f1.type = 25 ∧ f2.type = 4 ∧ f3.type = 9 ∧ f4.type = 25 ∧ f0.name ≠ "_" ∧ f1.name ≠ "_" ∧ f2.name ≠ "_" ∧ f3.name ≠ "_" ∧ f4.name ≠ "_" := ⟨_, _, _, _, _, rfl, rfl, rfl, rfl, rfl, rfl, rfl, rfl, rfl, rfl, rfl, by decide, by decide, by decide, by decide, by decide⟩
  rw [hf]
  obtain ⟨xs, hxs⟩ : ∃ xs : Array Value, #[.int .i64 n, .int .i64 s, .int .i64 a, .int .i64 b, .bool g, .string (text t), .int .i64 d, .int .i64 e] = xs := ⟨_, rfl⟩
  obtain ⟨ys, hys⟩ : ∃ ys : Array Value, #[.int .i64 n', .int .i64 s', .int .i64 a', .int .i64 b', .bool g', .string (text t'), .int .i64 d', .int .i64 e'] = ys := ⟨_, rfl⟩
  have p0 : (part 23 xs 0).run Try.prog W = .ok (.agg #[.int .i64 n, .int .i64 s]) W := by rw [part_s0, ← hxs]; rfl
  have p1 : (part 25 xs 2).run Try.prog W = .ok (.agg #[.int .i64 a, .int .i64 b]) W := by rw [part_v2, ← hxs]; rfl
  have p2 := run_part_plain (P := Try.prog) (e := 4) W (by kernel_rfl) (xs := xs) (off := 4) (v := .bool g) (by rw [← hxs]; rfl)
  have p3 := run_part_plain (P := Try.prog) (e := 9) W (by kernel_rfl) (xs := xs) (off := 5) (v := .string (text t)) (by rw [← hxs]; rfl)
  have p4 : (part 25 xs 6).run Try.prog W = .ok (.agg #[.int .i64 d, .int .i64 e]) W := by rw [part_v6, ← hxs]; rfl
  have q0 : (part 23 ys 0).run Try.prog W = .ok (.agg #[.int .i64 n', .int .i64 s']) W := by rw [part_s0, ← hys]; rfl
  have q1 : (part 25 ys 2).run Try.prog W = .ok (.agg #[.int .i64 a', .int .i64 b']) W := by rw [part_v2, ← hys]; rfl
  have q2 := run_part_plain (P := Try.prog) (e := 4) W (by kernel_rfl) (xs := ys) (off := 4) (v := .bool g') (by rw [← hys]; rfl)
  have q3 := run_part_plain (P := Try.prog) (e := 9) W (by kernel_rfl) (xs := ys) (off := 5) (v := .string (text t')) (by rw [← hys]; rfl)
  have q4 : (part 25 ys 6).run Try.prog W = .ok (.agg #[.int .i64 d', .int .i64 e']) W := by rw [part_v6, ← hys]; rfl
  have he : ((text t).toList == (text t').toList) = decide (t = t') := by rw [text_toList, text_toList, Bool.eq_iff_iff]; simp
  have e0 := stamp_eqInD 9997 n s n' s' W
  have e1 := vec_eqInD 9997 a b a' b' W
  have e2 := run_equalIn_bool' W 9998 4 g g' Try.underlying4
  have e3 := run_equalIn_string W 9998 9 (text t) (text t') Try.underlying9
  have e4 := vec_eqInD 9997 d e d' e' W
  rw [he] at e3
  simp only [Nat.reduceAdd] at e0 e1 e2 e3 e4
  rw [hxs, hys]
  unfold cellEq
  clear hxs hys he hf
  generalize ((n == n') && (s == s')) = r0 at *
  generalize ((a == a') && (b == b')) = r1 at *
  generalize (g == g') = r2 at *
  generalize decide (t = t') = r3 at *
  generalize ((d == d') && (e == e')) = r4 at *
  cases r0 <;> cases r1 <;> cases r2 <;> cases r3 <;> cases r4 <;> simp [Op.eqFields, n0, n1, n2, n3, n4, h0, h1, h2, h3, h4, t0, t1, t2, t3, t4, p0, q0, p1, q1, p2, q2, p3, q3, p4, q4, e0, e1, e2, e3, e4, Sem.run_bind, Result.andThen_ok]
theorem cell_eqb (n s a b : Int) (g : Bool) (t : List UInt8) (d e : Int) (n' s' a' b' : Int) (g' : Bool) (t' : List UInt8) (d' e' : Int) (r : Bool) (h : cellEq n s a b g t d e n' s' a' b' g' t' d' e' = r) (W : World) :
    (binOp .eql 27 (.agg #[.int .i64 n, .int .i64 s, .int .i64 a, .int .i64 b, .bool g, .string (text t), .int .i64 d, .int .i64 e]) (.agg #[.int .i64 n', .int .i64 s', .int .i64 a', .int .i64 b', .bool g', .string (text t'), .int .i64 d', .int .i64 e'])).run Try.prog W = .ok (.bool r) W := by
  rw [run_eql_struct, cell_eqIn, h]; rfl
theorem cell_neb (n s a b : Int) (g : Bool) (t : List UInt8) (d e : Int) (n' s' a' b' : Int) (g' : Bool) (t' : List UInt8) (d' e' : Int) (r : Bool) (h : cellEq n s a b g t d e n' s' a' b' g' t' d' e' = r) (W : World) :
    (binOp .neq 27 (.agg #[.int .i64 n, .int .i64 s, .int .i64 a, .int .i64 b, .bool g, .string (text t), .int .i64 d, .int .i64 e]) (.agg #[.int .i64 n', .int .i64 s', .int .i64 a', .int .i64 b', .bool g', .string (text t'), .int .i64 d', .int .i64 e'])).run Try.prog W = .ok (.bool (!r)) W := by
  rw [run_neq_struct, cell_eqIn, h]; rfl
theorem cell_eqg (op : BinOp) (x y : Operand) (xs ys : Array Value) (W : World) : (eqGuard op 27 x y (.agg xs) (.agg ys)).run Try.prog W = .ok () W := run_eqGuard_agg W op _ x y xs ys (by kernel_rfl)
theorem cellEq_self (n s a b : Int) (g : Bool) (t : List UInt8) (d e : Int) : cellEq n s a b g t d e n s a b g t d e = true := by simp [cellEq]
theorem cellEq_zero (n s a b : Int) (g : Bool) (t : List UInt8) : cellEq n s a b g t 0 0 0 0 0 0 false [] 0 0 = !wroteS n s a b g t := by
  unfold cellEq wroteS
  rw [Bool.eq_iff_iff]
  cases g <;> simp [and_assoc]
theorem ispolicy_c (p : Int) (w : World) : Calls Try.prog 30 #[.int .i64 p] w (fun e w' => e = .returned (.bool (p == 1 || p == 2)) ∧ w' = w) := by
  cases k1 : (p == 1) with
  | true =>
    go_enter Try.func30, Try.ntmps30
    go_wp2
    go_ret
    exact ⟨rfl, rfl⟩
  | false =>
    cases k2 : (p == 2) with
    | true =>
      go_enter Try.func30, Try.ntmps30
      go_wp2
      go_ret
      exact ⟨rfl, rfl⟩
    | false =>
      go_enter Try.func30, Try.ntmps30
      go_wp2
      go_ret
      exact ⟨rfl, rfl⟩
def deadS (p : Int) (g : Bool) (d e : Int) : Bool := if p = 2 then vgood d e && !g else ((d == 0) && (e == 0))
set_option maxHeartbeats 1600000 in
theorem gooddead_c (p n s a b : Int) (g : Bool) (t : List UInt8) (d e : Int) (w : World) :
    Calls Try.prog 31 #[.int .i64 p, .agg #[.int .i64 n, .int .i64 s, .int .i64 a, .int .i64 b, .bool g, .string (text t), .int .i64 d, .int .i64 e]] w (Tells (.bool (deadS p g d e)) w) := by
  have hp := Cel.new w n s a b g t d e
  have hb := alloc_below w (.cells #[.int .i64 n, .int .i64 s, .int .i64 a, .int .i64 b, .bool g, .string (text t), .int .i64 d, .int .i64 e] 27)
  have HB := Lib.hid hb
  have hEG := vec_eqg
  have hEQ := vec_eqb d e 0 0 ((d == 0) && (e == 0)) rfl
  have HV := (show deadS p g d e = if p = 2 then vgood d e && !g else ((d == 0) && (e == 0)) from rfl)
  obtain ⟨z, hz⟩ : ∃ z, ((d == 0) && (e == 0)) = z := ⟨_, rfl⟩
  rw [hz] at hEQ HV
  have G := fun W => vgood_c d e W
  obtain ⟨v, hv⟩ : ∃ v, vgood d e = v := ⟨_, rfl⟩
  rw [hv] at G HV
  have HG := Lib.hid G
  have HVH := Lib.hid HV
  clear hb hz hv G HV
  have HC := Lib.hid (fun W (h : Below (w.alloc (.cells #[.int .i64 n, .int .i64 s, .int .i64 a, .int .i64 b, .bool g, .string (text t), .int .i64 d, .int .i64 e] 27)).heap.size (w.alloc (.cells #[.int .i64 n, .int .i64 s, .int .i64 a, .int .i64 b, .bool g, .string (text t), .int .i64 d, .int .i64 e] 27)) W) => (hp.kept h).cs)
  by_cases p2 : p = 2
  · subst p2
    rw [if_pos rfl] at HVH
    cases v with
    | false =>
      go_enter Try.func31, Try.ntmps31
      go_upto_region 1 with (fail)
      generalize w.alloc (.cells #[.int .i64 n, .int .i64 s, .int .i64 a, .int .i64 b, .bool g, .string (text t), .int .i64 d, .int .i64 e] 27) = W1 at *
      clear hp
      obtain ⟨c0, c1, c2, c3, c4, c5, c6, c7⟩ := HC.out _ (Below.refl _ _)
      go_wp2_with (go_at_call 36; (with_reducible refine (HG.out _).mono ?_); rintro e9 w9 ⟨rfl, hb9⟩)
      go_ret
      exact ⟨by rw [HVH.out]; rfl, HB.out.trans (hb9.mono HB.out.size)⟩
    | true =>
      go_enter Try.func31, Try.ntmps31
      go_upto_region 1 with (fail)
      generalize w.alloc (.cells #[.int .i64 n, .int .i64 s, .int .i64 a, .int .i64 b, .bool g, .string (text t), .int .i64 d, .int .i64 e] 27) = W1 at *
      clear hp
      obtain ⟨c0, c1, c2, c3, c4, c5, c6, c7⟩ := HC.out _ (Below.refl _ _)
      go_wp2_with (go_at_call 36; (with_reducible refine (HG.out _).mono ?_); rintro e9 w9 ⟨rfl, hb9⟩; obtain ⟨c0, c1, c2, c3, c4, c5, c6, c7⟩ := HC.out _ hb9)
      go_ret
      exact ⟨by rw [HVH.out]; rfl, HB.out.trans (hb9.mono HB.out.size)⟩
  · rw [if_neg p2] at HVH
    have k2 : (p == 2) = false := by simpa using p2
    clear p2
    go_enter Try.func31, Try.ntmps31
    go_upto_region 1 with (fail)
    generalize w.alloc (.cells #[.int .i64 n, .int .i64 s, .int .i64 a, .int .i64 b, .bool g, .string (text t), .int .i64 d, .int .i64 e] 27) = W1 at *
    clear hp
    obtain ⟨c0, c1, c2, c3, c4, c5, c6, c7⟩ := HC.out _ (Below.refl _ _)
    go_wp2
    go_ret
    exact ⟨by rw [HVH.out]; rfl, HB.out⟩
set_option maxHeartbeats 1600000 in
theorem written_c (n s a b : Int) (g : Bool) (t : List UInt8) (d e : Int) (w : World) :
    Calls Try.prog 32 #[.agg #[.int .i64 n, .int .i64 s, .int .i64 a, .int .i64 b, .bool g, .string (text t), .int .i64 d, .int .i64 e]] w (Tells (.bool (wroteS n s a b g t)) w) := by
  have hb := alloc_below w (.cells #[.int .i64 n, .int .i64 s, .int .i64 a, .int .i64 b, .bool g, .string (text t), .int .i64 0, .int .i64 0] 27)
  have HB := Lib.hid hb
  have hp := Cel.new w n s a b g t 0 0
  obtain ⟨c0, c1, c2, c3, c4, c5, c6, c7⟩ := hp.cs
  have hEG := cell_eqg
  have hEQ := cell_neb n s a b g t 0 0 0 0 0 0 false [] 0 0 (!wroteS n s a b g t) (cellEq_zero n s a b g t)
  rw [Bool.not_not] at hEQ
  have hnil : text ([] : List UInt8) = ⟨#[]⟩ := rfl
  rw [hnil] at hEQ
  obtain ⟨r, hr⟩ : ∃ r, wroteS n s a b g t = r := ⟨_, rfl⟩
  rw [hr] at hEQ ⊢
  clear hb hnil hr hp
  go_enter Try.func32, Try.ntmps32
  go_wp2
  go_ret
  exact ⟨rfl, HB.out⟩
def whenS (n s : Int) : Bool := sgood n s && decide (0 < n)
theorem whenS_eq (n s : Int) : whenS n s = (sgood n s && !((n == 0) && (s == 0))) := by
  unfold whenS
  cases h : sgood n s with
  | false => rfl
  | true =>
    have hg : (n = 0 ∧ s = 0) ∨ (1 ≤ n ∧ n ≤ 281474976710656 ∧ (s = 1 ∨ s = 2)) := by simpa [sgood] using h
    rw [Bool.true_and, Bool.true_and, Bool.eq_iff_iff]
    simp
    omega
set_option maxHeartbeats 1600000 in
theorem iswhen_c (n s : Int) (w : World) : Calls Try.prog 35 #[.agg #[.int .i64 n, .int .i64 s]] w (Tells (.bool (whenS n s)) w) := by
  have hp := Pair.new w 23 n s
  have hb := alloc_below w (.cells #[.int .i64 n, .int .i64 s] 23)
  have HB := Lib.hid hb
  have hEG := stamp_eqg
  have hEQ := stamp_neb n s 0 0 ((n == 0) && (s == 0)) rfl
  have HV := Lib.hid (whenS_eq n s)
  obtain ⟨z, hz⟩ : ∃ z, ((n == 0) && (s == 0)) = z := ⟨_, rfl⟩
  rw [hz] at hEQ HV
  have G := fun W => sgood_c n s W
  obtain ⟨v, hv⟩ : ∃ v, sgood n s = v := ⟨_, rfl⟩
  rw [hv] at G HV
  have HG := Lib.hid G
  clear hb hz hv G
  cases v with
  | false =>
    go_enter Try.func35, Try.ntmps35
    go_upto_region 1 with (fail)
    generalize w.alloc (.cells #[.int .i64 n, .int .i64 s] 23) = W1 at *
    have p0 := hp.c0
    have p1 := hp.c1
    clear hp
    go_wp2_with (go_at_call 42; (with_reducible refine (HG.out _).mono ?_); rintro e9 w9 ⟨rfl, hb9⟩)
    go_ret
    exact ⟨by rw [HV.out]; rfl, HB.out.trans (hb9.mono HB.out.size)⟩
  | true =>
    go_enter Try.func35, Try.ntmps35
    go_upto_region 1 with (fail)
    generalize w.alloc (.cells #[.int .i64 n, .int .i64 s] 23) = W1 at *
    have p0 := hp.c0
    have p1 := hp.c1
    have HP := Lib.hid hp
    clear hp
    go_wp2_with (go_at_call 42; (with_reducible refine (HG.out _).mono ?_); rintro e9 w9 ⟨rfl, hb9⟩; have q0 := (HP.out.kept hb9).c0; have q1 := (HP.out.kept hb9).c1)
    go_ret
    exact ⟨by rw [HV.out]; simp, HB.out.trans (hb9.mono HB.out.size)⟩
def writeS (n s a b : Int) (g : Bool) (t : List UInt8) : Bool := whenS n s && (vgood a b && (decide (t.length ≤ 64) && !(g && !(t == []))))
set_option maxHeartbeats 6400000 in
theorem goodwrite_c (n s a b : Int) (g : Bool) (t : List UInt8) (d e : Int) (hmax : t.length ≤ 9223372036854775807) (w : World) :
    Calls Try.prog 33 #[.agg #[.int .i64 n, .int .i64 s, .int .i64 a, .int .i64 b, .bool g, .string (text t), .int .i64 d, .int .i64 e]] w (Tells (.bool (writeS n s a b g t)) w) := by
  have hp := Cel.new w n s a b g t d e
  have hb := alloc_below w (.cells #[.int .i64 n, .int .i64 s, .int .i64 a, .int .i64 b, .bool g, .string (text t), .int .i64 d, .int .i64 e] 27)
  have HB := Lib.hid hb
  have hts : ((text t).toList == []) = (t == []) := by rw [text_toList]
  have hsz : ((text t).size : Int) = (t.length : Int) := by rw [text_size]
  have HV := (show writeS n s a b g t = (whenS n s && (vgood a b && (decide (t.length ≤ 64) && !(g && !(t == []))))) from rfl)
  have HS := Lib.hid (fun W => iswhen_c n s W)
  have HVV := Lib.hid (fun W => vgood_c a b W)
  have HC := Lib.hid (fun W (h : Below (w.alloc (.cells #[.int .i64 n, .int .i64 s, .int .i64 a, .int .i64 b, .bool g, .string (text t), .int .i64 d, .int .i64 e] 27)).heap.size (w.alloc (.cells #[.int .i64 n, .int .i64 s, .int .i64 a, .int .i64 b, .bool g, .string (text t), .int .i64 d, .int .i64 e] 27)) W) => (hp.kept h).cs)
  obtain ⟨z, hz⟩ : ∃ z, (t == []) = z := ⟨_, rfl⟩
  rw [hz] at hts HV
  obtain ⟨L, hL⟩ : ∃ L, t.length = L := ⟨_, rfl⟩
  rw [hL] at hsz HV hmax
  have HVH := Lib.hid HV
  clear hb hz hL HV hp
  go_enter Try.func33, Try.ntmps33
  go_upto_region 1 with (fail)
  generalize w.alloc (.cells #[.int .i64 n, .int .i64 s, .int .i64 a, .int .i64 b, .bool g, .string (text t), .int .i64 d, .int .i64 e] 27) = W1 at *
  have hcur := Below.refl W1.heap.size W1
  obtain ⟨c0, c1, c2, c3, c4, c5, c6, c7⟩ := HC.out _ hcur
  cases hw : whenS n s with
  | false =>
    rw [hw] at HS HVH
    clear hw HVV
    go_wp2_with (first
      | (go_at_call 35; (with_reducible refine (HS.out _).mono ?_); rintro e9 w9 ⟨rfl, hb9⟩; (replace hcur := hcur.trans (hb9.mono hcur.size)); clear hb9; obtain ⟨c0, c1, c2, c3, c4, c5, c6, c7⟩ := HC.out _ hcur))
    go_ret
    exact ⟨by rw [HVH.out]; rfl, HB.out.trans (hcur.mono HB.out.size)⟩
  | true =>
    rw [hw] at HS HVH
    clear hw
    cases hv : vgood a b with
    | false =>
      rw [hv] at HVV HVH
      clear hv
      go_wp2_with (first
        | (go_at_call 35; (with_reducible refine (HS.out _).mono ?_); rintro e9 w9 ⟨rfl, hb9⟩; (replace hcur := hcur.trans (hb9.mono hcur.size)); clear hb9; obtain ⟨c0, c1, c2, c3, c4, c5, c6, c7⟩ := HC.out _ hcur)
        | (go_at_call 36; (with_reducible refine (HVV.out _).mono ?_); rintro e9 w9 ⟨rfl, hb9⟩; (replace hcur := hcur.trans (hb9.mono hcur.size)); clear hb9; obtain ⟨c0, c1, c2, c3, c4, c5, c6, c7⟩ := HC.out _ hcur))
      go_ret
      exact ⟨by rw [HVH.out]; rfl, HB.out.trans (hcur.mono HB.out.size)⟩
    | true =>
      rw [hv] at HVV HVH
      clear hv
      by_cases hl : L ≤ 64
      · have hli : (L : Int) ≤ 64 := by omega
        rw [decide_eq_true hl] at HVH
        cases g with
        | false =>
          go_wp2_with (first
            | (go_at_call 35; (with_reducible refine (HS.out _).mono ?_); rintro e9 w9 ⟨rfl, hb9⟩; (replace hcur := hcur.trans (hb9.mono hcur.size)); clear hb9; obtain ⟨c0, c1, c2, c3, c4, c5, c6, c7⟩ := HC.out _ hcur)
            | (go_at_call 36; (with_reducible refine (HVV.out _).mono ?_); rintro e9 w9 ⟨rfl, hb9⟩; (replace hcur := hcur.trans (hb9.mono hcur.size)); clear hb9; obtain ⟨c0, c1, c2, c3, c4, c5, c6, c7⟩ := HC.out _ hcur))
          go_ret
          exact ⟨by rw [HVH.out]; rfl, HB.out.trans (hcur.mono HB.out.size)⟩
        | true =>
          cases z with
          | false =>
            go_wp2_with (first
              | (go_at_call 35; (with_reducible refine (HS.out _).mono ?_); rintro e9 w9 ⟨rfl, hb9⟩; (replace hcur := hcur.trans (hb9.mono hcur.size)); clear hb9; obtain ⟨c0, c1, c2, c3, c4, c5, c6, c7⟩ := HC.out _ hcur)
              | (go_at_call 36; (with_reducible refine (HVV.out _).mono ?_); rintro e9 w9 ⟨rfl, hb9⟩; (replace hcur := hcur.trans (hb9.mono hcur.size)); clear hb9; obtain ⟨c0, c1, c2, c3, c4, c5, c6, c7⟩ := HC.out _ hcur))
            go_ret
            exact ⟨by rw [HVH.out]; rfl, HB.out.trans (hcur.mono HB.out.size)⟩
          | true =>
            go_wp2_with (first
              | (go_at_call 35; (with_reducible refine (HS.out _).mono ?_); rintro e9 w9 ⟨rfl, hb9⟩; (replace hcur := hcur.trans (hb9.mono hcur.size)); clear hb9; obtain ⟨c0, c1, c2, c3, c4, c5, c6, c7⟩ := HC.out _ hcur)
              | (go_at_call 36; (with_reducible refine (HVV.out _).mono ?_); rintro e9 w9 ⟨rfl, hb9⟩; (replace hcur := hcur.trans (hb9.mono hcur.size)); clear hb9; obtain ⟨c0, c1, c2, c3, c4, c5, c6, c7⟩ := HC.out _ hcur))
            go_ret
            exact ⟨by rw [HVH.out]; rfl, HB.out.trans (hcur.mono HB.out.size)⟩
      · have hli : ¬ (L : Int) ≤ 64 := by omega
        rw [decide_eq_false hl] at HVH
        go_wp2_with (first
          | (go_at_call 35; (with_reducible refine (HS.out _).mono ?_); rintro e9 w9 ⟨rfl, hb9⟩; (replace hcur := hcur.trans (hb9.mono hcur.size)); clear hb9; obtain ⟨c0, c1, c2, c3, c4, c5, c6, c7⟩ := HC.out _ hcur)
          | (go_at_call 36; (with_reducible refine (HVV.out _).mono ?_); rintro e9 w9 ⟨rfl, hb9⟩; (replace hcur := hcur.trans (hb9.mono hcur.size)); clear hb9; obtain ⟨c0, c1, c2, c3, c4, c5, c6, c7⟩ := HC.out _ hcur))
        go_ret
        exact ⟨by rw [HVH.out]; rfl, HB.out.trans (hcur.mono HB.out.size)⟩
theorem cgood_eq (p n s a b : Int) (g : Bool) (t : List UInt8) (d e : Int) : cgoodS p n s a b g t d e = ((p == 1 || p == 2) && (deadS p g d e && (!wroteS n s a b g t || writeS n s a b g t))) := by
  unfold cgoodS deadS writeS whenS zeroS
  by_cases p1 : p = 1
  · subst p1
    have h : (decide (d = 0) && decide (e = 0)) = ((d == 0) && (e == 0)) := by rw [Bool.eq_iff_iff]; simp
    rw [h]
    generalize ((d == 0) && (e == 0)) = z
    generalize (t == []) = y
    cases z <;> cases g <;> cases y <;> simp [Bool.and_assoc]
  · by_cases p2 : p = 2
    · subst p2
      generalize (t == []) = y
      cases g <;> cases y <;> simp [Bool.and_assoc]
    · have k1 : (p == 1) = false := by simpa using p1
      have k2 : (p == 2) = false := by simpa using p2
      rw [k1, k2]
      rfl
set_option maxHeartbeats 6400000 in
theorem cgood_c (p n s a b : Int) (g : Bool) (t : List UInt8) (d e : Int) (hmax : t.length ≤ 9223372036854775807) (w : World) :
    Calls Try.prog 20 #[.int .i64 p, .agg #[.int .i64 n, .int .i64 s, .int .i64 a, .int .i64 b, .bool g, .string (text t), .int .i64 d, .int .i64 e]] w (Tells (.bool (cgoodS p n s a b g t d e)) w) := by
  have hp := Cel.new w n s a b g t d e
  have hb := alloc_below w (.cells #[.int .i64 n, .int .i64 s, .int .i64 a, .int .i64 b, .bool g, .string (text t), .int .i64 d, .int .i64 e] 27)
  have HB := Lib.hid hb
  have HVH := Lib.hid (cgood_eq p n s a b g t d e)
  have HI := Lib.hid (fun W => ispolicy_c p W)
  have HD := Lib.hid (fun W => gooddead_c p n s a b g t d e W)
  have HW := Lib.hid (fun W => written_c n s a b g t d e W)
  have HR := Lib.hid (fun W => goodwrite_c n s a b g t d e hmax W)
  have HC := Lib.hid (fun W (h : Below (w.alloc (.cells #[.int .i64 n, .int .i64 s, .int .i64 a, .int .i64 b, .bool g, .string (text t), .int .i64 d, .int .i64 e] 27)).heap.size (w.alloc (.cells #[.int .i64 n, .int .i64 s, .int .i64 a, .int .i64 b, .bool g, .string (text t), .int .i64 d, .int .i64 e] 27)) W) => (hp.kept h).cs)
  obtain ⟨r, hr⟩ : ∃ r, cgoodS p n s a b g t d e = r := ⟨_, rfl⟩
  obtain ⟨q, hq⟩ : ∃ q, (p == 1 || p == 2) = q := ⟨_, rfl⟩
  obtain ⟨x, hx⟩ : ∃ x, deadS p g d e = x := ⟨_, rfl⟩
  obtain ⟨y, hy⟩ : ∃ y, wroteS n s a b g t = y := ⟨_, rfl⟩
  obtain ⟨z, hz⟩ : ∃ z, writeS n s a b g t = z := ⟨_, rfl⟩
  rw [hr, hq, hx, hy, hz] at HVH
  rw [hr]
  rw [hq] at HI
  rw [hx] at HD
  rw [hy] at HW
  rw [hz] at HR
  clear hb hp hr hq hx hy hz hmax
  go_enter Try.func20, Try.ntmps20
  go_upto_region 1 with (fail)
  generalize w.alloc (.cells #[.int .i64 n, .int .i64 s, .int .i64 a, .int .i64 b, .bool g, .string (text t), .int .i64 d, .int .i64 e] 27) = W1 at *
  have hcur := Below.refl W1.heap.size W1
  obtain ⟨c0, c1, c2, c3, c4, c5, c6, c7⟩ := HC.out _ hcur
  cases q with
  | false =>
    go_wp2_with (first
      | (go_at_call 30; (with_reducible refine (HI.out _).mono ?_); rintro e9 w9 ⟨rfl, rfl⟩))
    go_ret
    exact ⟨by rw [HVH.out]; rfl, HB.out.trans (hcur.mono HB.out.size)⟩
  | true =>
    cases x with
    | false =>
      go_wp2_with (first
        | (go_at_call 30; (with_reducible refine (HI.out _).mono ?_); rintro e9 w9 ⟨rfl, rfl⟩)
        | (go_at_call 31; (with_reducible refine (HD.out _).mono ?_); rintro e9 w9 ⟨rfl, hb9⟩; (replace hcur := hcur.trans (hb9.mono hcur.size)); clear hb9; obtain ⟨c0, c1, c2, c3, c4, c5, c6, c7⟩ := HC.out _ hcur))
      go_ret
      exact ⟨by rw [HVH.out]; rfl, HB.out.trans (hcur.mono HB.out.size)⟩
    | true =>
      cases y with
      | false =>
        go_wp2_with (first
          | (go_at_call 30; (with_reducible refine (HI.out _).mono ?_); rintro e9 w9 ⟨rfl, rfl⟩)
          | (go_at_call 31; (with_reducible refine (HD.out _).mono ?_); rintro e9 w9 ⟨rfl, hb9⟩; (replace hcur := hcur.trans (hb9.mono hcur.size)); clear hb9; obtain ⟨c0, c1, c2, c3, c4, c5, c6, c7⟩ := HC.out _ hcur)
          | (go_at_call 32; (with_reducible refine (HW.out _).mono ?_); rintro e9 w9 ⟨rfl, hb9⟩; (replace hcur := hcur.trans (hb9.mono hcur.size)); clear hb9; obtain ⟨c0, c1, c2, c3, c4, c5, c6, c7⟩ := HC.out _ hcur))
        go_ret
        exact ⟨by rw [HVH.out]; rfl, HB.out.trans (hcur.mono HB.out.size)⟩
      | true =>
        cases z with
        | false =>
          go_wp2_with (first
            | (go_at_call 30; (with_reducible refine (HI.out _).mono ?_); rintro e9 w9 ⟨rfl, rfl⟩)
            | (go_at_call 31; (with_reducible refine (HD.out _).mono ?_); rintro e9 w9 ⟨rfl, hb9⟩; (replace hcur := hcur.trans (hb9.mono hcur.size)); clear hb9; obtain ⟨c0, c1, c2, c3, c4, c5, c6, c7⟩ := HC.out _ hcur)
            | (go_at_call 32; (with_reducible refine (HW.out _).mono ?_); rintro e9 w9 ⟨rfl, hb9⟩; (replace hcur := hcur.trans (hb9.mono hcur.size)); clear hb9; obtain ⟨c0, c1, c2, c3, c4, c5, c6, c7⟩ := HC.out _ hcur)
            | (go_at_call 33; (with_reducible refine (HR.out _).mono ?_); rintro e9 w9 ⟨rfl, hb9⟩; (replace hcur := hcur.trans (hb9.mono hcur.size)); clear hb9; obtain ⟨c0, c1, c2, c3, c4, c5, c6, c7⟩ := HC.out _ hcur))
          go_ret
          exact ⟨by rw [HVH.out]; rfl, HB.out.trans (hcur.mono HB.out.size)⟩
        | true =>
          go_wp2_with (first
            | (go_at_call 30; (with_reducible refine (HI.out _).mono ?_); rintro e9 w9 ⟨rfl, rfl⟩)
            | (go_at_call 31; (with_reducible refine (HD.out _).mono ?_); rintro e9 w9 ⟨rfl, hb9⟩; (replace hcur := hcur.trans (hb9.mono hcur.size)); clear hb9; obtain ⟨c0, c1, c2, c3, c4, c5, c6, c7⟩ := HC.out _ hcur)
            | (go_at_call 32; (with_reducible refine (HW.out _).mono ?_); rintro e9 w9 ⟨rfl, hb9⟩; (replace hcur := hcur.trans (hb9.mono hcur.size)); clear hb9; obtain ⟨c0, c1, c2, c3, c4, c5, c6, c7⟩ := HC.out _ hcur)
            | (go_at_call 33; (with_reducible refine (HR.out _).mono ?_); rintro e9 w9 ⟨rfl, hb9⟩; (replace hcur := hcur.trans (hb9.mono hcur.size)); clear hb9; obtain ⟨c0, c1, c2, c3, c4, c5, c6, c7⟩ := HC.out _ hcur))
          go_ret
          exact ⟨by rw [HVH.out]; rfl, HB.out.trans (hcur.mono HB.out.size)⟩
set_option maxHeartbeats 6400000 in
theorem cseen_c (p n s a b : Int) (g : Bool) (t : List UInt8) (d e : Int) (hmax : t.length ≤ 9223372036854775807) (w : World) :
    Calls Try.prog 21 #[.int .i64 p, .agg #[.int .i64 n, .int .i64 s, .int .i64 a, .int .i64 b, .bool g, .string (text t), .int .i64 d, .int .i64 e]] w (Tells (.tuple #[.string (text (cseenS p n s a b g t d e).1), .bool (cseenS p n s a b g t d e).2]) w) := by
  have hp := Cel.new w n s a b g t d e
  have hb := alloc_below w (.cells #[.int .i64 n, .int .i64 s, .int .i64 a, .int .i64 b, .bool g, .string (text t), .int .i64 d, .int .i64 e] 27)
  have HB := Lib.hid hb
  have HV := (show cseenS p n s a b g t d e = if (cgoodS p n s a b g t d e && (wroteS n s a b g t && (!g && vcov a b d e))) = true then (t, true) else ([], false) from rfl)
  obtain ⟨r, hr⟩ : ∃ r, cseenS p n s a b g t d e = r := ⟨_, rfl⟩
  rw [hr] at HV ⊢
  have HG := fun W => cgood_c p n s a b g t d e hmax W
  have HW := fun W => written_c n s a b g t d e W
  have HK := fun W => vcov_c a b d e W
  clear hb hr hmax
  go_enter Try.func21, Try.ntmps21
  go_upto_region 1 with (fail)
  have HC := Lib.hid (fun W (h : Below (w.alloc (.cells #[.int .i64 n, .int .i64 s, .int .i64 a, .int .i64 b, .bool g, .string (text t), .int .i64 d, .int .i64 e] 27)).heap.size (w.alloc (.cells #[.int .i64 n, .int .i64 s, .int .i64 a, .int .i64 b, .bool g, .string (text t), .int .i64 d, .int .i64 e] 27)) W) => (hp.kept h).cs)
  generalize w.alloc (.cells #[.int .i64 n, .int .i64 s, .int .i64 a, .int .i64 b, .bool g, .string (text t), .int .i64 d, .int .i64 e] 27) = W1 at *
  clear hp
  have hcur := Below.refl W1.heap.size W1
  obtain ⟨c0, c1, c2, c3, c4, c5, c6, c7⟩ := HC.out _ hcur
  cases hg : cgoodS p n s a b g t d e with
  | false =>
    rw [hg] at HG
    rw [hg] at HV
    clear hg
    replace HG := Lib.hid HG
    replace HV := Lib.hid HV
    clear HW HK
    go_wp2_with (first
      | (go_at_call 20; (with_reducible refine (HG.out _).mono ?_); rintro e9 w9 ⟨rfl, hb9⟩; (replace hcur := hcur.trans (hb9.mono hcur.size)); clear hb9; obtain ⟨c0, c1, c2, c3, c4, c5, c6, c7⟩ := HC.out _ hcur))
    go_ret2
    exact ⟨by rw [HV.out]; rfl, HB.out.trans (hcur.mono HB.out.size)⟩
  | true =>
    rw [hg] at HG
    rw [hg] at HV
    clear hg
    cases hw : wroteS n s a b g t with
    | false =>
      rw [hw] at HW
      rw [hw] at HV
      clear hw
      replace HG := Lib.hid HG
      replace HW := Lib.hid HW
      replace HV := Lib.hid HV
      clear HK
      go_wp2_with (first
        | (go_at_call 20; (with_reducible refine (HG.out _).mono ?_); rintro e9 w9 ⟨rfl, hb9⟩; (replace hcur := hcur.trans (hb9.mono hcur.size)); clear hb9; obtain ⟨c0, c1, c2, c3, c4, c5, c6, c7⟩ := HC.out _ hcur)
        | (go_at_call 32; (with_reducible refine (HW.out _).mono ?_); rintro e9 w9 ⟨rfl, hb9⟩; (replace hcur := hcur.trans (hb9.mono hcur.size)); clear hb9; obtain ⟨c0, c1, c2, c3, c4, c5, c6, c7⟩ := HC.out _ hcur))
      go_ret2
      exact ⟨by rw [HV.out]; rfl, HB.out.trans (hcur.mono HB.out.size)⟩
    | true =>
      rw [hw] at HW
      rw [hw] at HV
      clear hw
      cases g with
      | true =>
        replace HG := Lib.hid HG
        replace HW := Lib.hid HW
        replace HV := Lib.hid HV
        clear HK
        go_wp2_with (first
          | (go_at_call 20; (with_reducible refine (HG.out _).mono ?_); rintro e9 w9 ⟨rfl, hb9⟩; (replace hcur := hcur.trans (hb9.mono hcur.size)); clear hb9; obtain ⟨c0, c1, c2, c3, c4, c5, c6, c7⟩ := HC.out _ hcur)
          | (go_at_call 32; (with_reducible refine (HW.out _).mono ?_); rintro e9 w9 ⟨rfl, hb9⟩; (replace hcur := hcur.trans (hb9.mono hcur.size)); clear hb9; obtain ⟨c0, c1, c2, c3, c4, c5, c6, c7⟩ := HC.out _ hcur))
        go_ret2
        exact ⟨by rw [HV.out]; rfl, HB.out.trans (hcur.mono HB.out.size)⟩
      | false =>
        cases hk : vcov a b d e with
        | false =>
          rw [hk] at HK
          rw [hk] at HV
          clear hk
          replace HG := Lib.hid HG
          replace HW := Lib.hid HW
          replace HK := Lib.hid HK
          replace HV := Lib.hid HV
          go_wp2_with (first
            | (go_at_call 20; (with_reducible refine (HG.out _).mono ?_); rintro e9 w9 ⟨rfl, hb9⟩; (replace hcur := hcur.trans (hb9.mono hcur.size)); clear hb9; obtain ⟨c0, c1, c2, c3, c4, c5, c6, c7⟩ := HC.out _ hcur)
            | (go_at_call 32; (with_reducible refine (HW.out _).mono ?_); rintro e9 w9 ⟨rfl, hb9⟩; (replace hcur := hcur.trans (hb9.mono hcur.size)); clear hb9; obtain ⟨c0, c1, c2, c3, c4, c5, c6, c7⟩ := HC.out _ hcur)
            | (go_at_call 34; (with_reducible refine (HK.out _).mono ?_); rintro e9 w9 ⟨rfl, hb9⟩; (replace hcur := hcur.trans (hb9.mono hcur.size)); clear hb9; obtain ⟨c0, c1, c2, c3, c4, c5, c6, c7⟩ := HC.out _ hcur))
          go_ret2
          exact ⟨by rw [HV.out]; rfl, HB.out.trans (hcur.mono HB.out.size)⟩
        | true =>
          rw [hk] at HK
          rw [hk] at HV
          clear hk
          replace HG := Lib.hid HG
          replace HW := Lib.hid HW
          replace HK := Lib.hid HK
          replace HV := Lib.hid HV
          go_wp2_with (first
            | (go_at_call 20; (with_reducible refine (HG.out _).mono ?_); rintro e9 w9 ⟨rfl, hb9⟩; (replace hcur := hcur.trans (hb9.mono hcur.size)); clear hb9; obtain ⟨c0, c1, c2, c3, c4, c5, c6, c7⟩ := HC.out _ hcur)
            | (go_at_call 32; (with_reducible refine (HW.out _).mono ?_); rintro e9 w9 ⟨rfl, hb9⟩; (replace hcur := hcur.trans (hb9.mono hcur.size)); clear hb9; obtain ⟨c0, c1, c2, c3, c4, c5, c6, c7⟩ := HC.out _ hcur)
            | (go_at_call 34; (with_reducible refine (HK.out _).mono ?_); rintro e9 w9 ⟨rfl, hb9⟩; (replace hcur := hcur.trans (hb9.mono hcur.size)); clear hb9; obtain ⟨c0, c1, c2, c3, c4, c5, c6, c7⟩ := HC.out _ hcur))
          go_ret2
          exact ⟨by rw [HV.out]; rfl, HB.out.trans (hcur.mono HB.out.size)⟩
/-- A cell. -/
structure Cl where
  n : Int
  s : Int
  a : Int
  b : Int
  g : Bool
  t : List UInt8
  d : Int
  e : Int
def Cl.zero : Cl := ⟨0, 0, 0, 0, false, [], 0, 0⟩
def Cl.arr (c : Cl) : Array Value := #[.int .i64 c.n, .int .i64 c.s, .int .i64 c.a, .int .i64 c.b, .bool c.g, .string (text c.t), .int .i64 c.d, .int .i64 c.e]
def Cl.good (p : Int) (c : Cl) : Bool := cgoodS p c.n c.s c.a c.b c.g c.t c.d c.e
def Cl.wrote (c : Cl) : Bool := wroteS c.n c.s c.a c.b c.g c.t
/-- Whether a write may be. -/
def argS (p n s a b : Int) (g : Bool) (t : List UInt8) : Bool := (p == 1 || p == 2) && (whenS n s && (vgood a b && !(g && !(t == []))))
def cofS (p n s a b : Int) (g : Bool) (t : List UInt8) : Cl × Int :=
  if argS p n s a b g t = true then (if 64 < t.length then (Cl.zero, 3) else if ((p == 2) && g) = true then (⟨0, 0, 0, 0, false, [], a, b⟩, 0) else (⟨n, s, a, b, g, t, 0, 0⟩, 0)) else (Cl.zero, 2)
/-- A whole cell is stored. -/
theorem Cel.put {W : World} {q : Nat} {n s a b d e : Int} {g : Bool} {t : List UInt8} (h : Cel W q n s a b g t d e) (n' s' a' b' : Int) (g' : Bool) (t' : List UInt8) (d' e' : Int) :
    Cel ((((((((W.setCell ⟨q, 0, none⟩ (.int .i64 n')).setCell ⟨q, 1, none⟩ (.int .i64 s')).setCell ⟨q, 2, none⟩ (.int .i64 a')).setCell ⟨q, 3, none⟩ (.int .i64 b')).setCell ⟨q, 4, none⟩ (.bool g')).setCell ⟨q, 5, none⟩ (.string (text t'))).setCell ⟨q, 6, none⟩ (.int .i64 d')).setCell ⟨q, 7, none⟩ (.int .i64 e')) q n' s' a' b' g' t' d' e' := by
  have h0 : (W.setCell ⟨q, 0, none⟩ (.int .i64 n')).heap[q]? = some (.cells #[.int .i64 n', .int .i64 s, .int .i64 a, .int .i64 b, .bool g, .string (text t), .int .i64 d, .int .i64 e] 27 (0, 0)) := (heap_setCell_same _ q 0 _ _ _ h).trans rfl
  have h1 : ((W.setCell ⟨q, 0, none⟩ (.int .i64 n')).setCell ⟨q, 1, none⟩ (.int .i64 s')).heap[q]? = some (.cells #[.int .i64 n', .int .i64 s', .int .i64 a, .int .i64 b, .bool g, .string (text t), .int .i64 d, .int .i64 e] 27 (0, 0)) := (heap_setCell_same _ q 1 _ _ _ h0).trans rfl
  have h2 : (((W.setCell ⟨q, 0, none⟩ (.int .i64 n')).setCell ⟨q, 1, none⟩ (.int .i64 s')).setCell ⟨q, 2, none⟩ (.int .i64 a')).heap[q]? = some (.cells #[.int .i64 n', .int .i64 s', .int .i64 a', .int .i64 b, .bool g, .string (text t), .int .i64 d, .int .i64 e] 27 (0, 0)) := (heap_setCell_same _ q 2 _ _ _ h1).trans rfl
  have h3 : ((((W.setCell ⟨q, 0, none⟩ (.int .i64 n')).setCell ⟨q, 1, none⟩ (.int .i64 s')).setCell ⟨q, 2, none⟩ (.int .i64 a')).setCell ⟨q, 3, none⟩ (.int .i64 b')).heap[q]? = some (.cells #[.int .i64 n', .int .i64 s', .int .i64 a', .int .i64 b', .bool g, .string (text t), .int .i64 d, .int .i64 e] 27 (0, 0)) := (heap_setCell_same _ q 3 _ _ _ h2).trans rfl
  have h4 : (((((W.setCell ⟨q, 0, none⟩ (.int .i64 n')).setCell ⟨q, 1, none⟩ (.int .i64 s')).setCell ⟨q, 2, none⟩ (.int .i64 a')).setCell ⟨q, 3, none⟩ (.int .i64 b')).setCell ⟨q, 4, none⟩ (.bool g')).heap[q]? = some (.cells #[.int .i64 n', .int .i64 s', .int .i64 a', .int .i64 b', .bool g', .string (text t), .int .i64 d, .int .i64 e] 27 (0, 0)) := (heap_setCell_same _ q 4 _ _ _ h3).trans rfl
  have h5 : ((((((W.setCell ⟨q, 0, none⟩ (.int .i64 n')).setCell ⟨q, 1, none⟩ (.int .i64 s')).setCell ⟨q, 2, none⟩ (.int .i64 a')).setCell ⟨q, 3, none⟩ (.int .i64 b')).setCell ⟨q, 4, none⟩ (.bool g')).setCell ⟨q, 5, none⟩ (.string (text t'))).heap[q]? = some (.cells #[.int .i64 n', .int .i64 s', .int .i64 a', .int .i64 b', .bool g', .string (text t'), .int .i64 d, .int .i64 e] 27 (0, 0)) := (heap_setCell_same _ q 5 _ _ _ h4).trans rfl
  have h6 : (((((((W.setCell ⟨q, 0, none⟩ (.int .i64 n')).setCell ⟨q, 1, none⟩ (.int .i64 s')).setCell ⟨q, 2, none⟩ (.int .i64 a')).setCell ⟨q, 3, none⟩ (.int .i64 b')).setCell ⟨q, 4, none⟩ (.bool g')).setCell ⟨q, 5, none⟩ (.string (text t'))).setCell ⟨q, 6, none⟩ (.int .i64 d')).heap[q]? = some (.cells #[.int .i64 n', .int .i64 s', .int .i64 a', .int .i64 b', .bool g', .string (text t'), .int .i64 d', .int .i64 e] 27 (0, 0)) := (heap_setCell_same _ q 6 _ _ _ h5).trans rfl
  have h7 : ((((((((W.setCell ⟨q, 0, none⟩ (.int .i64 n')).setCell ⟨q, 1, none⟩ (.int .i64 s')).setCell ⟨q, 2, none⟩ (.int .i64 a')).setCell ⟨q, 3, none⟩ (.int .i64 b')).setCell ⟨q, 4, none⟩ (.bool g')).setCell ⟨q, 5, none⟩ (.string (text t'))).setCell ⟨q, 6, none⟩ (.int .i64 d')).setCell ⟨q, 7, none⟩ (.int .i64 e')).heap[q]? = some (.cells #[.int .i64 n', .int .i64 s', .int .i64 a', .int .i64 b', .bool g', .string (text t'), .int .i64 d', .int .i64 e'] 27 (0, 0)) := (heap_setCell_same _ q 7 _ _ _ h6).trans rfl
  exact h7
theorem put_below {B : Nat} {w W : World} (h : Below B w W) {q : Nat} (hq : B ≤ q) (n' s' a' b' : Int) (g' : Bool) (t' : List UInt8) (d' e' : Int) : Below B w ((((((((W.setCell ⟨q, 0, none⟩ (.int .i64 n')).setCell ⟨q, 1, none⟩ (.int .i64 s')).setCell ⟨q, 2, none⟩ (.int .i64 a')).setCell ⟨q, 3, none⟩ (.int .i64 b')).setCell ⟨q, 4, none⟩ (.bool g')).setCell ⟨q, 5, none⟩ (.string (text t'))).setCell ⟨q, 6, none⟩ (.int .i64 d')).setCell ⟨q, 7, none⟩ (.int .i64 e')) :=
  (((((((h.setCell (p := ⟨q, 0, none⟩) hq _).setCell (p := ⟨q, 1, none⟩) hq _).setCell (p := ⟨q, 2, none⟩) hq _).setCell (p := ⟨q, 3, none⟩) hq _).setCell (p := ⟨q, 4, none⟩) hq _).setCell (p := ⟨q, 5, none⟩) hq _).setCell (p := ⟨q, 6, none⟩) hq _).setCell (p := ⟨q, 7, none⟩) hq _
theorem sizeC (n s a b : Int) (g : Bool) (t : List UInt8) (d e : Int) : (Try.prog.info? 27).map (·.size) = some (#[.int .i64 n, .int .i64 s, .int .i64 a, .int .i64 b, .bool g, .string (text t), .int .i64 d, .int .i64 e] : Array Value).size := by kernel_rfl
theorem Cel.third (W : World) (o1 o2 : Obj) (n s a b : Int) (g : Bool) (t : List UInt8) (d e : Int) : Cel (((W.alloc o1).alloc o2).alloc (.cells #[.int .i64 n, .int .i64 s, .int .i64 a, .int .i64 b, .bool g, .string (text t), .int .i64 d, .int .i64 e] 27)) (W.heap.size + 1 + 1) n s a b g t d e := by
  have h := Cel.new ((W.alloc o1).alloc o2) n s a b g t d e
  rwa [World.size_alloc, World.size_alloc] at h
/-- A cell, and an error. -/
def OfPost (r : Cl × Int) (w : World) (e : Ending) (w' : World) : Prop := Tells (.tuple #[.agg r.1.arr, .int .i64 r.2]) w e w'
set_option maxHeartbeats 6400000 in
theorem cof_c (p n s a b : Int) (g : Bool) (t : List UInt8) (hmax : t.length ≤ 9223372036854775807) (w : World) :
    Calls Try.prog 22 #[.int .i64 p, .agg #[.int .i64 n, .int .i64 s], .agg #[.int .i64 a, .int .i64 b], .bool g, .string (text t)] w (OfPost (cofS p n s a b g t) w) := by
  have hp := ((Pair.new w 23 n s).alloc (.cells #[.int .i64 a, .int .i64 b] 25)).alloc (.cells #[.int .i64 0, .int .i64 0, .int .i64 0, .int .i64 0, .bool false, .string (text []), .int .i64 0, .int .i64 0] 27)
  have hq := (Pair.second w (.cells #[.int .i64 n, .int .i64 s] 23) 25 a b).alloc (.cells #[.int .i64 0, .int .i64 0, .int .i64 0, .int .i64 0, .bool false, .string (text []), .int .i64 0, .int .i64 0] 27)
  have ho := Cel.third w (.cells #[.int .i64 n, .int .i64 s] 23) (.cells #[.int .i64 a, .int .i64 b] 25) 0 0 0 0 false [] 0 0
  have hb := third_below w (.cells #[.int .i64 n, .int .i64 s] 23) (.cells #[.int .i64 a, .int .i64 b] 25) (.cells #[.int .i64 0, .int .i64 0, .int .i64 0, .int .i64 0, .bool false, .string (text []), .int .i64 0, .int .i64 0] 27)
  have hts : ((text t).toList == []) = (t == []) := by rw [text_toList]
  have hsz : ((text t).size : Int) = (t.length : Int) := by rw [text_size]
  have hnil : text ([] : List UInt8) = ⟨#[]⟩ := rfl
  rw [hnil] at hp hq ho hb
  have HB := Lib.hid hb
  have HV := (show cofS p n s a b g t = if argS p n s a b g t = true then (if 64 < t.length then (Cl.zero, 3) else if ((p == 2) && g) = true then (⟨0, 0, 0, 0, false, [], a, b⟩, 0) else (⟨n, s, a, b, g, t, 0, 0⟩, 0)) else (Cl.zero, 2) from rfl)
  have HA := (show argS p n s a b g t = ((p == 1 || p == 2) && (whenS n s && (vgood a b && !(g && !(t == []))))) from rfl)
  have HI := Lib.hid (fun W => ispolicy_c p W)
  have hG := fun W => iswhen_c n s W
  have hK := fun W => vgood_c a b W
  obtain ⟨z, hz⟩ : ∃ z, (t == []) = z := ⟨_, rfl⟩
  rw [hz] at hts HA
  obtain ⟨L, hL⟩ : ∃ L, t.length = L := ⟨_, rfl⟩
  rw [hL] at hsz HV hmax
  obtain ⟨v, hv⟩ : ∃ v, vgood a b = v := ⟨_, rfl⟩
  rw [hv] at HA hK
  have HK := Lib.hid hK
  obtain ⟨R, hR⟩ : ∃ R, cofS p n s a b g t = R := ⟨_, rfl⟩
  rw [hR] at HV ⊢
  obtain ⟨A, hA⟩ : ∃ A, argS p n s a b g t = A := ⟨_, rfl⟩
  rw [hA] at HV HA
  clear hb hnil hz hL hv hR hA hK
  go_enter Try.func22, Try.ntmps22
  go_upto_region 1 with (fail)
  generalize ((w.alloc (.cells #[.int .i64 n, .int .i64 s] 23)).alloc (.cells #[.int .i64 a, .int .i64 b] 25)).alloc (.cells #[.int .i64 0, .int .i64 0, .int .i64 0, .int .i64 0, .bool false, .string ⟨#[]⟩, .int .i64 0, .int .i64 0] 27) = W1 at *
  have HP := Lib.hid (fun W (h : Below W1.heap.size W1 W) => (And.intro (hp.kept h).c0 (And.intro (hp.kept h).c1 (And.intro (hq.kept h).c0 (hq.kept h).c1))))
  have HO := Lib.hid (fun W (h : Below W1.heap.size W1 W) => ho.kept h)
  have hcur := Below.refl W1.heap.size W1
  obtain ⟨p0, p1, q0, q1⟩ := HP.out _ hcur
  obtain ⟨c0, c1, c2, c3, c4, c5, c6, c7⟩ := (HO.out _ hcur).cs
  have hfz := (HO.out _ hcur).fz
  clear hp hq ho
  by_cases p1 : p = 1
  · subst p1
    cases hs : whenS n s with
    | false =>
      rw [hs] at HA hG
      have HG := Lib.hid hG
      clear hs hG
      have HR := Lib.hid (show R = (Cl.zero, 2) by rw [HV, HA]; rfl)
      clear HV HA
      go_wp2_with (first
        | (go_at_call 30; (with_reducible refine (HI.out _).mono ?_); rintro e9 w9 ⟨rfl, rfl⟩)
        | (go_at_call 35; (with_reducible refine (HG.out _).mono ?_); rintro e9 w9 ⟨rfl, hb9⟩; (replace hcur := hcur.trans (hb9.mono hcur.size)); clear hb9; obtain ⟨p0, p1, q0, q1⟩ := HP.out _ hcur; obtain ⟨c0, c1, c2, c3, c4, c5, c6, c7⟩ := (HO.out _ hcur).cs; have hfz := (HO.out _ hcur).fz))
      refine bodyPost_ret (res_cell_tmp rfl _ _ (w.heap.size + 1 + 1) 27 _ (0, 0) _ (.int .i64 2) rfl rfl ((HO.out _ hcur).put 0 0 0 0 false [] 0 0) Try.underlying27 rfl (sizeC _ _ _ _ _ _ _ _)) rfl ⟨by rw [HR.out]; rfl, put_below (HB.out.trans (hcur.mono HB.out.size)) (by omega) _ _ _ _ _ _ _ _⟩
    | true =>
      rw [hs] at HA hG
      have HG := Lib.hid hG
      clear hs hG
      cases v with
      | false =>
        have HR := Lib.hid (show R = (Cl.zero, 2) by rw [HV, HA]; rfl)
        clear HV HA
        go_wp2_with (first
          | (go_at_call 30; (with_reducible refine (HI.out _).mono ?_); rintro e9 w9 ⟨rfl, rfl⟩)
          | (go_at_call 35; (with_reducible refine (HG.out _).mono ?_); rintro e9 w9 ⟨rfl, hb9⟩; (replace hcur := hcur.trans (hb9.mono hcur.size)); clear hb9; obtain ⟨p0, p1, q0, q1⟩ := HP.out _ hcur; obtain ⟨c0, c1, c2, c3, c4, c5, c6, c7⟩ := (HO.out _ hcur).cs; have hfz := (HO.out _ hcur).fz)
          | (go_at_call 36; (with_reducible refine (HK.out _).mono ?_); rintro e9 w9 ⟨rfl, hb9⟩; (replace hcur := hcur.trans (hb9.mono hcur.size)); clear hb9; obtain ⟨p0, p1, q0, q1⟩ := HP.out _ hcur; obtain ⟨c0, c1, c2, c3, c4, c5, c6, c7⟩ := (HO.out _ hcur).cs; have hfz := (HO.out _ hcur).fz))
        refine bodyPost_ret (res_cell_tmp rfl _ _ (w.heap.size + 1 + 1) 27 _ (0, 0) _ (.int .i64 2) rfl rfl ((HO.out _ hcur).put 0 0 0 0 false [] 0 0) Try.underlying27 rfl (sizeC _ _ _ _ _ _ _ _)) rfl ⟨by rw [HR.out]; rfl, put_below (HB.out.trans (hcur.mono HB.out.size)) (by omega) _ _ _ _ _ _ _ _⟩
      | true =>
        cases g with
        | false =>
          have HAt : A = true := by rw [HA]; rfl
          by_cases hl : 64 < L
          · have hli : (64 : Int) < (L : Int) := by omega
            have HR := Lib.hid (show R = (Cl.zero, 3) by rw [HV, if_pos HAt, if_pos hl])
            clear HV HA
            go_wp2_with (first
              | (go_at_call 30; (with_reducible refine (HI.out _).mono ?_); rintro e9 w9 ⟨rfl, rfl⟩)
              | (go_at_call 35; (with_reducible refine (HG.out _).mono ?_); rintro e9 w9 ⟨rfl, hb9⟩; (replace hcur := hcur.trans (hb9.mono hcur.size)); clear hb9; obtain ⟨p0, p1, q0, q1⟩ := HP.out _ hcur; obtain ⟨c0, c1, c2, c3, c4, c5, c6, c7⟩ := (HO.out _ hcur).cs; have hfz := (HO.out _ hcur).fz)
              | (go_at_call 36; (with_reducible refine (HK.out _).mono ?_); rintro e9 w9 ⟨rfl, hb9⟩; (replace hcur := hcur.trans (hb9.mono hcur.size)); clear hb9; obtain ⟨p0, p1, q0, q1⟩ := HP.out _ hcur; obtain ⟨c0, c1, c2, c3, c4, c5, c6, c7⟩ := (HO.out _ hcur).cs; have hfz := (HO.out _ hcur).fz))
            refine bodyPost_ret (res_cell_tmp rfl _ _ (w.heap.size + 1 + 1) 27 _ (0, 0) _ (.int .i64 3) rfl rfl ((HO.out _ hcur).put 0 0 0 0 false [] 0 0) Try.underlying27 rfl (sizeC _ _ _ _ _ _ _ _)) rfl ⟨by rw [HR.out]; rfl, put_below (HB.out.trans (hcur.mono HB.out.size)) (by omega) _ _ _ _ _ _ _ _⟩
          · have hli : ¬ (64 : Int) < (L : Int) := by omega
            have HR := Lib.hid (show R = (⟨n, s, a, b, false, t, 0, 0⟩, 0) by rw [HV, if_pos HAt, if_neg hl]; rfl)
            clear HV HA
            go_wp2_with (first
              | (go_at_call 30; (with_reducible refine (HI.out _).mono ?_); rintro e9 w9 ⟨rfl, rfl⟩)
              | (go_at_call 35; (with_reducible refine (HG.out _).mono ?_); rintro e9 w9 ⟨rfl, hb9⟩; (replace hcur := hcur.trans (hb9.mono hcur.size)); clear hb9; obtain ⟨p0, p1, q0, q1⟩ := HP.out _ hcur; obtain ⟨c0, c1, c2, c3, c4, c5, c6, c7⟩ := (HO.out _ hcur).cs; have hfz := (HO.out _ hcur).fz)
              | (go_at_call 36; (with_reducible refine (HK.out _).mono ?_); rintro e9 w9 ⟨rfl, hb9⟩; (replace hcur := hcur.trans (hb9.mono hcur.size)); clear hb9; obtain ⟨p0, p1, q0, q1⟩ := HP.out _ hcur; obtain ⟨c0, c1, c2, c3, c4, c5, c6, c7⟩ := (HO.out _ hcur).cs; have hfz := (HO.out _ hcur).fz))
            refine bodyPost_ret (res_cell_tmp rfl _ _ (w.heap.size + 1 + 1) 27 _ (0, 0) _ (.int .i64 0) rfl rfl ((HO.out _ hcur).put n s a b false t 0 0) Try.underlying27 rfl (sizeC _ _ _ _ _ _ _ _)) rfl ⟨by rw [HR.out]; rfl, put_below (HB.out.trans (hcur.mono HB.out.size)) (by omega) _ _ _ _ _ _ _ _⟩
        | true =>
          cases z with
          | false =>
            have HR := Lib.hid (show R = (Cl.zero, 2) by rw [HV, HA]; rfl)
            clear HV HA
            go_wp2_with (first
              | (go_at_call 30; (with_reducible refine (HI.out _).mono ?_); rintro e9 w9 ⟨rfl, rfl⟩)
              | (go_at_call 35; (with_reducible refine (HG.out _).mono ?_); rintro e9 w9 ⟨rfl, hb9⟩; (replace hcur := hcur.trans (hb9.mono hcur.size)); clear hb9; obtain ⟨p0, p1, q0, q1⟩ := HP.out _ hcur; obtain ⟨c0, c1, c2, c3, c4, c5, c6, c7⟩ := (HO.out _ hcur).cs; have hfz := (HO.out _ hcur).fz)
              | (go_at_call 36; (with_reducible refine (HK.out _).mono ?_); rintro e9 w9 ⟨rfl, hb9⟩; (replace hcur := hcur.trans (hb9.mono hcur.size)); clear hb9; obtain ⟨p0, p1, q0, q1⟩ := HP.out _ hcur; obtain ⟨c0, c1, c2, c3, c4, c5, c6, c7⟩ := (HO.out _ hcur).cs; have hfz := (HO.out _ hcur).fz))
            refine bodyPost_ret (res_cell_tmp rfl _ _ (w.heap.size + 1 + 1) 27 _ (0, 0) _ (.int .i64 2) rfl rfl ((HO.out _ hcur).put 0 0 0 0 false [] 0 0) Try.underlying27 rfl (sizeC _ _ _ _ _ _ _ _)) rfl ⟨by rw [HR.out]; rfl, put_below (HB.out.trans (hcur.mono HB.out.size)) (by omega) _ _ _ _ _ _ _ _⟩
          | true =>
            have HAt : A = true := by rw [HA]; rfl
            by_cases hl : 64 < L
            · have hli : (64 : Int) < (L : Int) := by omega
              have HR := Lib.hid (show R = (Cl.zero, 3) by rw [HV, if_pos HAt, if_pos hl])
              clear HV HA
              go_wp2_with (first
                | (go_at_call 30; (with_reducible refine (HI.out _).mono ?_); rintro e9 w9 ⟨rfl, rfl⟩)
                | (go_at_call 35; (with_reducible refine (HG.out _).mono ?_); rintro e9 w9 ⟨rfl, hb9⟩; (replace hcur := hcur.trans (hb9.mono hcur.size)); clear hb9; obtain ⟨p0, p1, q0, q1⟩ := HP.out _ hcur; obtain ⟨c0, c1, c2, c3, c4, c5, c6, c7⟩ := (HO.out _ hcur).cs; have hfz := (HO.out _ hcur).fz)
                | (go_at_call 36; (with_reducible refine (HK.out _).mono ?_); rintro e9 w9 ⟨rfl, hb9⟩; (replace hcur := hcur.trans (hb9.mono hcur.size)); clear hb9; obtain ⟨p0, p1, q0, q1⟩ := HP.out _ hcur; obtain ⟨c0, c1, c2, c3, c4, c5, c6, c7⟩ := (HO.out _ hcur).cs; have hfz := (HO.out _ hcur).fz))
              refine bodyPost_ret (res_cell_tmp rfl _ _ (w.heap.size + 1 + 1) 27 _ (0, 0) _ (.int .i64 3) rfl rfl ((HO.out _ hcur).put 0 0 0 0 false [] 0 0) Try.underlying27 rfl (sizeC _ _ _ _ _ _ _ _)) rfl ⟨by rw [HR.out]; rfl, put_below (HB.out.trans (hcur.mono HB.out.size)) (by omega) _ _ _ _ _ _ _ _⟩
            · have hli : ¬ (64 : Int) < (L : Int) := by omega
              have HR := Lib.hid (show R = (⟨n, s, a, b, true, t, 0, 0⟩, 0) by rw [HV, if_pos HAt, if_neg hl]; rfl)
              clear HV HA
              go_wp2_with (first
                | (go_at_call 30; (with_reducible refine (HI.out _).mono ?_); rintro e9 w9 ⟨rfl, rfl⟩)
                | (go_at_call 35; (with_reducible refine (HG.out _).mono ?_); rintro e9 w9 ⟨rfl, hb9⟩; (replace hcur := hcur.trans (hb9.mono hcur.size)); clear hb9; obtain ⟨p0, p1, q0, q1⟩ := HP.out _ hcur; obtain ⟨c0, c1, c2, c3, c4, c5, c6, c7⟩ := (HO.out _ hcur).cs; have hfz := (HO.out _ hcur).fz)
                | (go_at_call 36; (with_reducible refine (HK.out _).mono ?_); rintro e9 w9 ⟨rfl, hb9⟩; (replace hcur := hcur.trans (hb9.mono hcur.size)); clear hb9; obtain ⟨p0, p1, q0, q1⟩ := HP.out _ hcur; obtain ⟨c0, c1, c2, c3, c4, c5, c6, c7⟩ := (HO.out _ hcur).cs; have hfz := (HO.out _ hcur).fz))
              refine bodyPost_ret (res_cell_tmp rfl _ _ (w.heap.size + 1 + 1) 27 _ (0, 0) _ (.int .i64 0) rfl rfl ((HO.out _ hcur).put n s a b true t 0 0) Try.underlying27 rfl (sizeC _ _ _ _ _ _ _ _)) rfl ⟨by rw [HR.out]; rfl, put_below (HB.out.trans (hcur.mono HB.out.size)) (by omega) _ _ _ _ _ _ _ _⟩
  · have k1 : (p == 1) = false := by simpa using p1
    have k1n : (p != 1) = true := by simpa using p1
    by_cases p2 : p = 2
    · subst p2
      clear p1 k1 k1n
      cases hs : whenS n s with
      | false =>
        rw [hs] at HA hG
        have HG := Lib.hid hG
        clear hs hG
        have HR := Lib.hid (show R = (Cl.zero, 2) by rw [HV, HA]; rfl)
        clear HV HA
        go_wp2_with (first
          | (go_at_call 30; (with_reducible refine (HI.out _).mono ?_); rintro e9 w9 ⟨rfl, rfl⟩)
          | (go_at_call 35; (with_reducible refine (HG.out _).mono ?_); rintro e9 w9 ⟨rfl, hb9⟩; (replace hcur := hcur.trans (hb9.mono hcur.size)); clear hb9; obtain ⟨p0, p1, q0, q1⟩ := HP.out _ hcur; obtain ⟨c0, c1, c2, c3, c4, c5, c6, c7⟩ := (HO.out _ hcur).cs; have hfz := (HO.out _ hcur).fz))
        refine bodyPost_ret (res_cell_tmp rfl _ _ (w.heap.size + 1 + 1) 27 _ (0, 0) _ (.int .i64 2) rfl rfl ((HO.out _ hcur).put 0 0 0 0 false [] 0 0) Try.underlying27 rfl (sizeC _ _ _ _ _ _ _ _)) rfl ⟨by rw [HR.out]; rfl, put_below (HB.out.trans (hcur.mono HB.out.size)) (by omega) _ _ _ _ _ _ _ _⟩
      | true =>
        rw [hs] at HA hG
        have HG := Lib.hid hG
        clear hs hG
        cases v with
        | false =>
          have HR := Lib.hid (show R = (Cl.zero, 2) by rw [HV, HA]; rfl)
          clear HV HA
          go_wp2_with (first
            | (go_at_call 30; (with_reducible refine (HI.out _).mono ?_); rintro e9 w9 ⟨rfl, rfl⟩)
            | (go_at_call 35; (with_reducible refine (HG.out _).mono ?_); rintro e9 w9 ⟨rfl, hb9⟩; (replace hcur := hcur.trans (hb9.mono hcur.size)); clear hb9; obtain ⟨p0, p1, q0, q1⟩ := HP.out _ hcur; obtain ⟨c0, c1, c2, c3, c4, c5, c6, c7⟩ := (HO.out _ hcur).cs; have hfz := (HO.out _ hcur).fz)
            | (go_at_call 36; (with_reducible refine (HK.out _).mono ?_); rintro e9 w9 ⟨rfl, hb9⟩; (replace hcur := hcur.trans (hb9.mono hcur.size)); clear hb9; obtain ⟨p0, p1, q0, q1⟩ := HP.out _ hcur; obtain ⟨c0, c1, c2, c3, c4, c5, c6, c7⟩ := (HO.out _ hcur).cs; have hfz := (HO.out _ hcur).fz))
          refine bodyPost_ret (res_cell_tmp rfl _ _ (w.heap.size + 1 + 1) 27 _ (0, 0) _ (.int .i64 2) rfl rfl ((HO.out _ hcur).put 0 0 0 0 false [] 0 0) Try.underlying27 rfl (sizeC _ _ _ _ _ _ _ _)) rfl ⟨by rw [HR.out]; rfl, put_below (HB.out.trans (hcur.mono HB.out.size)) (by omega) _ _ _ _ _ _ _ _⟩
        | true =>
          cases g with
          | false =>
            have HAt : A = true := by rw [HA]; rfl
            by_cases hl : 64 < L
            · have hli : (64 : Int) < (L : Int) := by omega
              have HR := Lib.hid (show R = (Cl.zero, 3) by rw [HV, if_pos HAt, if_pos hl])
              clear HV HA
              go_wp2_with (first
                | (go_at_call 30; (with_reducible refine (HI.out _).mono ?_); rintro e9 w9 ⟨rfl, rfl⟩)
                | (go_at_call 35; (with_reducible refine (HG.out _).mono ?_); rintro e9 w9 ⟨rfl, hb9⟩; (replace hcur := hcur.trans (hb9.mono hcur.size)); clear hb9; obtain ⟨p0, p1, q0, q1⟩ := HP.out _ hcur; obtain ⟨c0, c1, c2, c3, c4, c5, c6, c7⟩ := (HO.out _ hcur).cs; have hfz := (HO.out _ hcur).fz)
                | (go_at_call 36; (with_reducible refine (HK.out _).mono ?_); rintro e9 w9 ⟨rfl, hb9⟩; (replace hcur := hcur.trans (hb9.mono hcur.size)); clear hb9; obtain ⟨p0, p1, q0, q1⟩ := HP.out _ hcur; obtain ⟨c0, c1, c2, c3, c4, c5, c6, c7⟩ := (HO.out _ hcur).cs; have hfz := (HO.out _ hcur).fz))
              refine bodyPost_ret (res_cell_tmp rfl _ _ (w.heap.size + 1 + 1) 27 _ (0, 0) _ (.int .i64 3) rfl rfl ((HO.out _ hcur).put 0 0 0 0 false [] 0 0) Try.underlying27 rfl (sizeC _ _ _ _ _ _ _ _)) rfl ⟨by rw [HR.out]; rfl, put_below (HB.out.trans (hcur.mono HB.out.size)) (by omega) _ _ _ _ _ _ _ _⟩
            · have hli : ¬ (64 : Int) < (L : Int) := by omega
              have HR := Lib.hid (show R = (⟨n, s, a, b, false, t, 0, 0⟩, 0) by rw [HV, if_pos HAt, if_neg hl]; rfl)
              clear HV HA
              go_wp2_with (first
                | (go_at_call 30; (with_reducible refine (HI.out _).mono ?_); rintro e9 w9 ⟨rfl, rfl⟩)
                | (go_at_call 35; (with_reducible refine (HG.out _).mono ?_); rintro e9 w9 ⟨rfl, hb9⟩; (replace hcur := hcur.trans (hb9.mono hcur.size)); clear hb9; obtain ⟨p0, p1, q0, q1⟩ := HP.out _ hcur; obtain ⟨c0, c1, c2, c3, c4, c5, c6, c7⟩ := (HO.out _ hcur).cs; have hfz := (HO.out _ hcur).fz)
                | (go_at_call 36; (with_reducible refine (HK.out _).mono ?_); rintro e9 w9 ⟨rfl, hb9⟩; (replace hcur := hcur.trans (hb9.mono hcur.size)); clear hb9; obtain ⟨p0, p1, q0, q1⟩ := HP.out _ hcur; obtain ⟨c0, c1, c2, c3, c4, c5, c6, c7⟩ := (HO.out _ hcur).cs; have hfz := (HO.out _ hcur).fz))
              refine bodyPost_ret (res_cell_tmp rfl _ _ (w.heap.size + 1 + 1) 27 _ (0, 0) _ (.int .i64 0) rfl rfl ((HO.out _ hcur).put n s a b false t 0 0) Try.underlying27 rfl (sizeC _ _ _ _ _ _ _ _)) rfl ⟨by rw [HR.out]; rfl, put_below (HB.out.trans (hcur.mono HB.out.size)) (by omega) _ _ _ _ _ _ _ _⟩
          | true =>
            cases z with
            | false =>
              have HR := Lib.hid (show R = (Cl.zero, 2) by rw [HV, HA]; rfl)
              clear HV HA
              go_wp2_with (first
                | (go_at_call 30; (with_reducible refine (HI.out _).mono ?_); rintro e9 w9 ⟨rfl, rfl⟩)
                | (go_at_call 35; (with_reducible refine (HG.out _).mono ?_); rintro e9 w9 ⟨rfl, hb9⟩; (replace hcur := hcur.trans (hb9.mono hcur.size)); clear hb9; obtain ⟨p0, p1, q0, q1⟩ := HP.out _ hcur; obtain ⟨c0, c1, c2, c3, c4, c5, c6, c7⟩ := (HO.out _ hcur).cs; have hfz := (HO.out _ hcur).fz)
                | (go_at_call 36; (with_reducible refine (HK.out _).mono ?_); rintro e9 w9 ⟨rfl, hb9⟩; (replace hcur := hcur.trans (hb9.mono hcur.size)); clear hb9; obtain ⟨p0, p1, q0, q1⟩ := HP.out _ hcur; obtain ⟨c0, c1, c2, c3, c4, c5, c6, c7⟩ := (HO.out _ hcur).cs; have hfz := (HO.out _ hcur).fz))
              refine bodyPost_ret (res_cell_tmp rfl _ _ (w.heap.size + 1 + 1) 27 _ (0, 0) _ (.int .i64 2) rfl rfl ((HO.out _ hcur).put 0 0 0 0 false [] 0 0) Try.underlying27 rfl (sizeC _ _ _ _ _ _ _ _)) rfl ⟨by rw [HR.out]; rfl, put_below (HB.out.trans (hcur.mono HB.out.size)) (by omega) _ _ _ _ _ _ _ _⟩
            | true =>
              have HAt : A = true := by rw [HA]; rfl
              by_cases hl : 64 < L
              · have hli : (64 : Int) < (L : Int) := by omega
                have HR := Lib.hid (show R = (Cl.zero, 3) by rw [HV, if_pos HAt, if_pos hl])
                clear HV HA
                go_wp2_with (first
                  | (go_at_call 30; (with_reducible refine (HI.out _).mono ?_); rintro e9 w9 ⟨rfl, rfl⟩)
                  | (go_at_call 35; (with_reducible refine (HG.out _).mono ?_); rintro e9 w9 ⟨rfl, hb9⟩; (replace hcur := hcur.trans (hb9.mono hcur.size)); clear hb9; obtain ⟨p0, p1, q0, q1⟩ := HP.out _ hcur; obtain ⟨c0, c1, c2, c3, c4, c5, c6, c7⟩ := (HO.out _ hcur).cs; have hfz := (HO.out _ hcur).fz)
                  | (go_at_call 36; (with_reducible refine (HK.out _).mono ?_); rintro e9 w9 ⟨rfl, hb9⟩; (replace hcur := hcur.trans (hb9.mono hcur.size)); clear hb9; obtain ⟨p0, p1, q0, q1⟩ := HP.out _ hcur; obtain ⟨c0, c1, c2, c3, c4, c5, c6, c7⟩ := (HO.out _ hcur).cs; have hfz := (HO.out _ hcur).fz))
                refine bodyPost_ret (res_cell_tmp rfl _ _ (w.heap.size + 1 + 1) 27 _ (0, 0) _ (.int .i64 3) rfl rfl ((HO.out _ hcur).put 0 0 0 0 false [] 0 0) Try.underlying27 rfl (sizeC _ _ _ _ _ _ _ _)) rfl ⟨by rw [HR.out]; rfl, put_below (HB.out.trans (hcur.mono HB.out.size)) (by omega) _ _ _ _ _ _ _ _⟩
              · have hli : ¬ (64 : Int) < (L : Int) := by omega
                have HR := Lib.hid (show R = (⟨0, 0, 0, 0, false, [], a, b⟩, 0) by rw [HV, if_pos HAt, if_neg hl]; rfl)
                clear HV HA
                go_wp2_with (first
                  | (go_at_call 30; (with_reducible refine (HI.out _).mono ?_); rintro e9 w9 ⟨rfl, rfl⟩)
                  | (go_at_call 35; (with_reducible refine (HG.out _).mono ?_); rintro e9 w9 ⟨rfl, hb9⟩; (replace hcur := hcur.trans (hb9.mono hcur.size)); clear hb9; obtain ⟨p0, p1, q0, q1⟩ := HP.out _ hcur; obtain ⟨c0, c1, c2, c3, c4, c5, c6, c7⟩ := (HO.out _ hcur).cs; have hfz := (HO.out _ hcur).fz)
                  | (go_at_call 36; (with_reducible refine (HK.out _).mono ?_); rintro e9 w9 ⟨rfl, hb9⟩; (replace hcur := hcur.trans (hb9.mono hcur.size)); clear hb9; obtain ⟨p0, p1, q0, q1⟩ := HP.out _ hcur; obtain ⟨c0, c1, c2, c3, c4, c5, c6, c7⟩ := (HO.out _ hcur).cs; have hfz := (HO.out _ hcur).fz))
                refine bodyPost_ret (res_cell_tmp rfl _ _ (w.heap.size + 1 + 1) 27 _ (0, 0) _ (.int .i64 0) rfl rfl ((HO.out _ hcur).put 0 0 0 0 false [] a b) Try.underlying27 rfl (sizeC _ _ _ _ _ _ _ _)) rfl ⟨by rw [HR.out]; rfl, put_below (HB.out.trans (hcur.mono HB.out.size)) (by omega) _ _ _ _ _ _ _ _⟩
    · have k2 : (p == 2) = false := by simpa using p2
      have k2n : (p != 2) = true := by simpa using p2
      rw [k1, k2] at HA
      rw [k1, k2] at HI
      clear p1 p2
      have HR := Lib.hid (show R = (Cl.zero, 2) by rw [HV, HA]; rfl)
      clear HV HA
      go_wp2_with (first
        | (go_at_call 30; (with_reducible refine (HI.out _).mono ?_); rintro e9 w9 ⟨rfl, rfl⟩))
      refine bodyPost_ret (res_cell_tmp rfl _ _ (w.heap.size + 1 + 1) 27 _ (0, 0) _ (.int .i64 2) rfl rfl ((HO.out _ hcur).put 0 0 0 0 false [] 0 0) Try.underlying27 rfl (sizeC _ _ _ _ _ _ _ _)) rfl ⟨by rw [HR.out]; rfl, put_below (HB.out.trans (hcur.mono HB.out.size)) (by omega) _ _ _ _ _ _ _ _⟩
theorem Cel.dead {W : World} {q : Nat} {n s a b d e : Int} {g : Bool} {t : List UInt8} (h : Cel W q n s a b g t d e) (d' : Int) (e' : Int) : Cel ((W.setCell ⟨q, 6, none⟩ (.int .i64 d')).setCell ⟨q, 7, none⟩ (.int .i64 e')) q n s a b g t d' e' := by
  have h0 : (W.setCell ⟨q, 6, none⟩ (.int .i64 d')).heap[q]? = some (.cells #[.int .i64 n, .int .i64 s, .int .i64 a, .int .i64 b, .bool g, .string (text t), .int .i64 d', .int .i64 e] 27 (0, 0)) := (heap_setCell_same _ q 6 _ _ _ h).trans rfl
  have h1 : ((W.setCell ⟨q, 6, none⟩ (.int .i64 d')).setCell ⟨q, 7, none⟩ (.int .i64 e')).heap[q]? = some (.cells #[.int .i64 n, .int .i64 s, .int .i64 a, .int .i64 b, .bool g, .string (text t), .int .i64 d', .int .i64 e'] 27 (0, 0)) := (heap_setCell_same _ q 7 _ _ _ h0).trans rfl
  exact h1
theorem Cel.dead_other {W : World} {q q' : Nat} {n s a b d e : Int} {g : Bool} {t : List UInt8} (h : Cel W q' n s a b g t d e) (hne : q' ≠ q) (d' : Int) (e' : Int) : Cel ((W.setCell ⟨q, 6, none⟩ (.int .i64 d')).setCell ⟨q, 7, none⟩ (.int .i64 e')) q' n s a b g t d e := by
  unfold Cel at h ⊢
  rw [heap_setCell_other _ _ _ _ (by exact hne), heap_setCell_other _ _ _ _ (by exact hne)]
  exact h
theorem dead_below {B : Nat} {w W : World} (h : Below B w W) {q : Nat} (hq : B ≤ q) (d' : Int) (e' : Int) : Below B w ((W.setCell ⟨q, 6, none⟩ (.int .i64 d')).setCell ⟨q, 7, none⟩ (.int .i64 e')) :=
  ((h.setCell (p := ⟨q, 6, none⟩) hq _).setCell (p := ⟨q, 7, none⟩) hq _)
theorem cell_cells {H : Type} {enc : TypeId × Value → H} {W : World} {base : Nat} {sp held : Bool} {fuel : Nat} {cs : List Value} {x : DataW H × List MemPlace} (h : DataW.trod enc Try.prog W base (fun _ => sp) held fuel 27 cs = some x) :
    ∃ (n s a b : Int) (g : Bool) (t : List UInt8) (d e : Int), cs = [.int .i64 n, .int .i64 s, .int .i64 a, .int .i64 b, .bool g, .string (text t), .int .i64 d, .int .i64 e] ∧ IsI64 n ∧ IsI64 s ∧ IsI64 a ∧ IsI64 b ∧ t.length ≤ maxLen ∧ IsI64 d ∧ IsI64 e := by
  obtain ⟨xs, m, _, rfl, hl, hlen, hf⟩ := DataW.trod_struct Try.underlying27 h
  have h6 : Try.prog.cellsOf 27 = 8 := by kernel_rfl
  have hs : Try.prog.cellsOf 23 = 2 := by kernel_rfl
  have hv : Try.prog.cellsOf 25 = 2 := by kernel_rfl
  have h4 : Try.prog.cellsOf 4 = 1 := by kernel_rfl
  have h9 : Try.prog.cellsOf 9 = 1 := by kernel_rfl
  rw [h6] at hl
  match xs, hlen with
  | [y0, y1, y2, y3, y4], _ =>
    have i0 := hf 0 _ rfl
    have i1 := hf 1 _ rfl
    have i2 := hf 2 _ rfl
    have i3 := hf 3 _ rfl
    have i4 := hf 4 _ rfl
    match cs, hl with
    | [c0, c1, c2, c3, c4, c5, c6, c7], _ =>
      have j0 : DataW.trod enc Try.prog W base (fun _ => sp) held m 23 (([c0, c1, c2, c3, c4, c5, c6, c7].drop 0).take (Try.prog.cellsOf 23)) = some y0 := i0
      have j1 : DataW.trod enc Try.prog W base (fun _ => sp) held m 25 (([c0, c1, c2, c3, c4, c5, c6, c7].drop 2).take (Try.prog.cellsOf 25)) = some y1 := i1
      have j2 : DataW.trod enc Try.prog W base (fun _ => sp) held m 4 (([c0, c1, c2, c3, c4, c5, c6, c7].drop 4).take (Try.prog.cellsOf 4)) = some y2 := i2
      have j3 : DataW.trod enc Try.prog W base (fun _ => sp) held m 9 (([c0, c1, c2, c3, c4, c5, c6, c7].drop 5).take (Try.prog.cellsOf 9)) = some y3 := i3
      have j4 : DataW.trod enc Try.prog W base (fun _ => sp) held m 25 (([c0, c1, c2, c3, c4, c5, c6, c7].drop 6).take (Try.prog.cellsOf 25)) = some y4 := i4
      rw [hs] at j0
      rw [hv] at j1 j4
      rw [h4] at j2
      rw [h9] at j3
      obtain ⟨n, s, e0, wn, wsx⟩ := stamp_cells (sp := sp) j0
      obtain ⟨a, b, e1, wa, wb⟩ := vec_cells j1
      obtain ⟨g, e2, _⟩ := DataW.trod_bool Try.underlying4 j2
      obtain ⟨t, e3, _, wt⟩ := DataW.trod_string Try.underlying9 j3
      obtain ⟨d, e, e4, wd, we⟩ := vec_cells j4
      simp at e0 e1 e2 e3 e4
      obtain ⟨rfl, rfl⟩ := e0
      obtain ⟨rfl, rfl⟩ := e1
      subst e2
      subst e3
      obtain ⟨rfl, rfl⟩ := e4
      exact ⟨n, s, a, b, g, t.data.toList, d, e, rfl, wn, wsx, wa, wb, by simpa using wt, wd, we⟩
theorem open_cell {H : Type} {enc : TypeId × Value → H} {W : World} {base : Nat} {v : Value} {x : DataW H} {p : List MemPlace} (hv : Value.okWide Try.prog W .any base 27 v)
    (h : DataW.Trod enc Try.prog W 0 (fun _ => true) true 27 v x p) : ∃ (n s a b : Int) (g : Bool) (t : List UInt8) (d e : Int), v = .agg #[.int .i64 n, .int .i64 s, .int .i64 a, .int .i64 b, .bool g, .string (text t), .int .i64 d, .int .i64 e] ∧ IsI64 n ∧ IsI64 s ∧ IsI64 a ∧ IsI64 b ∧ t.length ≤ 9223372036854775807 ∧ IsI64 d ∧ IsI64 e := by
  simp only [Value.okWide, Try.underlying27] at hv
  obtain ⟨cs, rfl, hs, _⟩ := hv
  obtain ⟨m, hm⟩ := h
  obtain ⟨n, s, a, b, g, t, d, e, hc, h1, h2, h3, h4, h5, h6, h7⟩ := cell_cells (sp := true) hm
  refine ⟨n, s, a, b, g, t, d, e, ?_, h1, h2, h3, h4, by unfold maxLen at h5; exact h5, h6, h7⟩
  congr 1
  apply Array.toList_inj.1
  exact hc
end Go.Proofs.Ytkjpmdpljdgcjaa
