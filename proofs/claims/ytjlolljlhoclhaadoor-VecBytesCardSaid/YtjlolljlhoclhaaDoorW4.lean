/-
  Stamp: the laws' walks over contracts of the program's functions: the example, StampOrders, StampNexts.
-/
import Derived.Test.YtjlolljlhoclhaaDoorW3
namespace Go.Proofs.YtjlolljlhoclhaaDoor
open Go.RowKit Go Go.Sort
set_option linter.unusedVariables false
set_option maxRecDepth 20000

/-- What the program's functions are to tell. -/
structure StampOk : Prop where
  good : ∀ (n s : Int) (w : World), Calls Tryd.prog 11 #[.agg #[.int .i64 n, .int .i64 s]] w (Tells (.bool (sgood n s)) w)
  less : ∀ (n s m t : Int) (w : World), Calls Tryd.prog 13 #[.agg #[.int .i64 n, .int .i64 s], .agg #[.int .i64 m, .int .i64 t]] w (Tells (.bool (sless n s m t)) w)
  later : ∀ {w : World} {a : Option Addr} {n cap : Nat} {l : List (Int × Int)}, Prs w a n cap l → Calls Tryd.prog 15 #[.slice a n cap] w (Tells (.agg #[.int .i64 (laterS l).1, .int .i64 (laterS l).2]) w)
  next : ∀ (n s now site : Int) (w : World), Calls Tryd.prog 17 #[.agg #[.int .i64 n, .int .i64 s], .int .i64 now, .int .i64 site] w (Tells (.tuple #[.agg #[.int .i64 (snext n s now site).1.1, .int .i64 (snext n s now site).1.2], .int .i64 (snext n s now site).2]) w)
  six : ∀ (w : World), Calls Tryd.prog 25 #[.agg #[.int .i64 6, .int .i64 2]] w (Tells (.string ⟨#[54, 98]⟩) w)

theorem srun_part_int {W : World} (xs : Array Value) (k : Nat) {v : Value} (hv : xs[k]? = some v) : (part 3 xs k).run Tryd.prog W = .ok v W := by
  have hi : (Tryd.prog.info? 3).map (fun i => (i.zero, i.size, i.bytes)) = some (some (.int .i64 0), 1, 8) := by kernel_rfl
  obtain ⟨i0, hi, hz0, hz1, hz2⟩ := info_parts hi
  have hag : (isAgg 3).run Tryd.prog W = .ok false W := by
    unfold isAgg
    rw [Sem.run_bind, run_underlying Tryd.underlying3 W]
    rfl
  simp [part, hag, sizeOf, typeInfo, hi, hz1, hv, go_sem]
theorem stamp_eqIn (x y x' y' : Int) (W : World) : (Op.equalIn 10000 23 (.agg #[.int .i64 x, .int .i64 y]) (.agg #[.int .i64 x', .int .i64 y'])).run Tryd.prog W = .ok ((x == x') && (y == y')) W := by
  rw [run_equalIn_struct W 9999 _ _ _ Tryd.underlying23 (by kernel_rfl)]
  obtain ⟨f0, f1, hf, h0, h1, t0, t1, n0, n1⟩ : ∃ f0 f1, (Tryd.prog.fieldsOf 23).toList = [f0, f1] ∧ f0.offset = 0 ∧ f1.offset = 1 ∧ f0.type = 3 ∧ f1.type = 3 ∧ f0.name ≠ "_" ∧ f1.name ≠ "_" := ⟨_, _, rfl, rfl, rfl, rfl, rfl, by decide, by decide⟩
  rw [hf]
  have p0 := srun_part_int (W := W) #[.int .i64 x, .int .i64 y] 0 rfl
  have p1 := srun_part_int (W := W) #[.int .i64 x, .int .i64 y] 1 rfl
  have q0 := srun_part_int (W := W) #[.int .i64 x', .int .i64 y'] 0 rfl
  have q1 := srun_part_int (W := W) #[.int .i64 x', .int .i64 y'] 1 rfl
  cases e0 : (x == x') <;> cases e1 : (y == y') <;> simp [Op.eqFields, n0, n1, h0, h1, t0, t1, p0, q0, p1, q1, e0, e1, run_equalIn_int W 9998 3 .i64 .i64 _ _ Tryd.underlying3, Sem.run_bind, Result.andThen_ok]
theorem stamp_eql (x y : Int) (W : World) : (binOp .eql 23 (.agg #[.int .i64 x, .int .i64 y]) (.agg #[.int .i64 x, .int .i64 y])).run Tryd.prog W = .ok (.bool true) W := by
  rw [run_eql_struct, stamp_eqIn]; simp
theorem stamp_neq (x y : Int) (W : World) : (binOp .neq 23 (.agg #[.int .i64 x, .int .i64 y]) (.agg #[.int .i64 x, .int .i64 y])).run Tryd.prog W = .ok (.bool false) W := by
  rw [run_neq_struct, stamp_eqIn]; simp
theorem stamp_eqg (op : BinOp) (x y : Operand) (xs ys : Array Value) (W : World) : (eqGuard op 23 x y (.agg xs) (.agg ys)).run Tryd.prog W = .ok () W := run_eqGuard_agg W op _ x y xs ys (by kernel_rfl)

set_option maxRecDepth 100000 in
set_option maxHeartbeats 1600000 in
theorem slives_c (K : StampOk) (w : World) : Calls Tryd.prog 10 #[] w (Tells (.bool true) w) := by
  have hEQ := stamp_eql
  have hEG := stamp_eqg
  have hn := K.next 5 1 3 2
  simp only [show snext 5 1 3 2 = ((6, 2), 0) by decide] at hn
  have HN := Lib.hid hn
  have HT := Lib.hid K.six
  clear hn
  go_enter Tryd.func10, Tryd.ntmps10
  go_wp2_with (first
    | (go_at_call 17; (with_reducible refine (HN.out _).mono ?_); rintro e w1 ⟨rfl, hb1⟩)
    | (go_at_call 25; (with_reducible refine (HT.out _).mono ?_); rintro e w2 ⟨rfl, hb2⟩))
  go_ret
  have h1 := hb1.trans ((alloc_below w1 (.cells #[.int .i64 6, .int .i64 2] 23)).mono hb1.size)
  exact ⟨rfl, h1.trans (hb2.mono h1.size)⟩

set_option maxRecDepth 100000 in
set_option maxHeartbeats 3200000 in
theorem sorders_walk (K : StampOk) (n s m t : Int) {a : Option Addr} {k cap : Nat} {l : List (Int × Int)} {w : World} (hl : Prs w a k cap l) :
    Calls Tryd.prog 3 #[.agg #[.int .i64 n, .int .i64 s], .agg #[.int .i64 m, .int .i64 t], .slice a k cap] w (Tells (.bool true) w) := by
  have hp := (Pair.new w 23 n s).alloc (.cells #[.int .i64 m, .int .i64 t] 23)
  have hq := Pair.second w (.cells #[.int .i64 n, .int .i64 s] 23) 23 m t
  have hb := second_below w (.cells #[.int .i64 n, .int .i64 s] 23) (.cells #[.int .i64 m, .int .i64 t] 23)
  have hEQ := stamp_eql
  have hEG := stamp_eqg
  have hnm := hl.max
  have hnl := hl.le
  have hl1 := hl.below hb
  have HB := Lib.hid hb
  have HP := Lib.hid hp
  have HQ := Lib.hid hq
  have HLv := Lib.hid (slives_c K)
  clear hp hq hb hl
  by_cases hk : 1000 < k
  · have hd : decide ((1000 : Int) < (k : Int)) = true := by simp; omega
    go_enter Tryd.func3, Tryd.ntmps3
    go_wp2_with (go_at_call 10; (with_reducible refine (HLv.out _).mono ?_); rintro e w1 ⟨rfl, hb1⟩)
    go_ret
    exact ⟨rfl, HB.out.trans (hb1.mono HB.out.size)⟩
  · have hd : decide ((1000 : Int) < (k : Int)) = false := by simp; omega
    go_enter Tryd.func3, Tryd.ntmps3
    go_upto_region 1 with (fail)
    generalize (w.alloc (.cells #[.int .i64 n, .int .i64 s] 23)).alloc (.cells #[.int .i64 m, .int .i64 t] 23) = W1 at *
    have G1 := fun (w : World) => tells_grown (w := w) (K.good n s)
    have G2 := fun (w : World) => tells_grown (w := w) (rsgood_c n s)
    have L1 := fun (w : World) => tells_grown (w := w) (K.less n s m t)
    have L2 := fun (w : World) => tells_grown (w := w) (rsless_c n s m t)
    have V1 := fun (w : World) => tells_grown (w := w) (slives_c K)
    have A1 := fun (d : Nat) (os : Array Obj) => (K.later (hl1.below (below_regrown W1 d os))).regrown_of
    have A2 := fun (d : Nat) (os : Array Obj) => (rslater_c (hl1.below (below_regrown W1 d os))).regrown_of
    obtain ⟨g, hg⟩ : ∃ q, sgood n s = q := ⟨_, rfl⟩
    obtain ⟨e, he⟩ : ∃ q, sless n s m t = q := ⟨_, rfl⟩
    obtain ⟨⟨x, y⟩, hx⟩ : ∃ q, laterS l = q := ⟨_, rfl⟩
    simp only [hg, he, hx] at G1 G2 L1 L2 A1 A2
    have HG1 := Lib.hid G1
    have HG2 := Lib.hid G2
    have HL1 := Lib.hid L1
    have HL2 := Lib.hid L2
    have HV1 := Lib.hid V1
    have HA1 := Lib.hid A1
    have HA2 := Lib.hid A2
    clear G1 G2 L1 L2 V1 A1 A2 hg he hx hl1
    have k0 := cell_regrown HP.out.c0
    have k1 := cell_regrown HP.out.c1
    have k2 := cell_regrown HQ.out.c0
    have k3 := cell_regrown HQ.out.c1
    go_wp2
    refine wp_region_quiet_below (by kernel_rfl) (by kernel_rfl) ?_
    repeat (go_big_quiet_step (first | with_reducible exact HG1.out _ _ _ | with_reducible exact HG2.out _ _ _ | with_reducible exact HL1.out _ _ _ | with_reducible exact HL2.out _ _ _ | with_reducible exact HA1.out _ _ | with_reducible exact HA2.out _ _ | with_reducible exact HV1.out _ _ _))
    refine wpQuiet_nil ?_
    intro _ hw'
    obtain ⟨⟨dq, osq⟩, hw''⟩ := hw'
    subst hw''
    have hB2 := below_regrown W1 dq osq
    go_wp2
    go_ret
    exact ⟨rfl, HB.out.trans (hB2.mono HB.out.size)⟩

set_option maxRecDepth 100000 in
set_option maxHeartbeats 3200000 in
theorem snexts_walk (K : StampOk) (n s now site : Int) {w : World} : Calls Tryd.prog 4 #[.agg #[.int .i64 n, .int .i64 s], .int .i64 now, .int .i64 site] w (Tells (.bool true) w) := by
  have hp := Pair.new w 23 n s
  have hb := alloc_below w (.cells #[.int .i64 n, .int .i64 s] 23)
  have hEQ := stamp_eql
  have hEG := stamp_eqg
  have N1 := K.next n s now site
  have N2 := rsnext_c n s now site
  obtain ⟨⟨⟨x, y⟩, f⟩, hx⟩ : ∃ q, snext n s now site = q := ⟨_, rfl⟩
  simp only [hx] at N1 N2
  have HL1 := Lib.hid (slives_c K)
  have HN1 := Lib.hid N1
  have HN2 := Lib.hid N2
  have HP := Lib.hid hp
  have HB := Lib.hid hb
  clear N1 N2 hp hb hx
  go_enter Tryd.func4, Tryd.ntmps4
  go_upto_region 1 with (fail)
  generalize w.alloc (.cells #[.int .i64 n, .int .i64 s] 23) = W1 at *
  have a0 := HP.out.c0
  have a1 := HP.out.c1
  go_upto_region 2 with (go_at_call 17; (with_reducible refine (HN1.out _).mono ?_); rintro e w2 ⟨rfl, hb2⟩)
  have HP2 := Lib.hid ((HP.out.kept hb2).alloc (.cells #[.int .i64 x, .int .i64 y] 23))
  have HX2 := Lib.hid (Pair.new w2 23 x y)
  have HB2 := Lib.hid ((HB.out.trans (hb2.mono HB.out.size)).alloc (Nat.le_trans HB.out.size hb2.size) (.cells #[.int .i64 x, .int .i64 y] 23))
  obtain ⟨gx, hgx⟩ : ∃ g, w2.heap.size = g := ⟨_, rfl⟩
  rw [hgx] at HX2 ⊢
  clear a0 a1 hb2 hgx HP HB
  generalize w2.alloc (.cells #[.int .i64 x, .int .i64 y] 23) = W2 at *
  have a0 := HP2.out.c0
  have a1 := HP2.out.c1
  go_upto_region 3 with (go_at_call 18; (with_reducible refine (HN2.out _).mono ?_); rintro e w3 ⟨rfl, hb3⟩)
  have hX3 := (HX2.out.kept hb3).alloc (.cells #[.int .i64 x, .int .i64 y] 23)
  have hY3 := Pair.new w3 23 x y
  have HB3 := Lib.hid ((HB2.out.trans (hb3.mono HB2.out.size)).alloc (Nat.le_trans HB2.out.size hb3.size) (.cells #[.int .i64 x, .int .i64 y] 23))
  obtain ⟨gy, hgy⟩ : ∃ g, w3.heap.size = g := ⟨_, rfl⟩
  rw [hgy] at hY3 ⊢
  clear a0 a1 hb3 hgy HP2 HX2 HB2
  generalize w3.alloc (.cells #[.int .i64 x, .int .i64 y] 23) = W3 at *
  have x0 := hX3.c0
  have x1 := hX3.c1
  have y0 := hY3.c0
  have y1 := hY3.c1
  clear hX3 hY3
  go_wp2_with (go_at_call 10; (with_reducible refine (HL1.out _).mono ?_); rintro e w4 ⟨rfl, hb4⟩)
  go_ret
  exact ⟨rfl, HB3.out.trans (hb4.mono HB3.out.size)⟩
end Go.Proofs.YtjlolljlhoclhaaDoor
