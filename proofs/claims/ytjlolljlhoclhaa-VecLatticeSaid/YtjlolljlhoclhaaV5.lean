/-
  Vec: the laws' walks over contracts of the program's functions.
-/
import Derived.Test.YtjlolljlhoclhaaV4
namespace Go.Proofs.Ytjlolljlhoclhaa
open Go.RowKit Go Go.Sort
set_option linter.unusedVariables false

/-- What the program's functions are to tell. -/
structure VecOk : Prop where
  good : ∀ (a b : Int) (w : World), Calls Try.prog 8 #[.agg #[.int .i64 a, .int .i64 b]] w (Tells (.bool (vgood a b)) w)
  cov : ∀ (a b c d : Int) (w : World), Calls Try.prog 10 #[.agg #[.int .i64 a, .int .i64 b], .agg #[.int .i64 c, .int .i64 d]] w (Tells (.bool (vcov a b c d)) w)
  cmp : ∀ (a b c d : Int) (w : World), Calls Try.prog 12 #[.agg #[.int .i64 a, .int .i64 b], .agg #[.int .i64 c, .int .i64 d]] w (Tells (.int .i64 (vcmp a b c d)) w)
  meet : ∀ (a b c d : Int) (w : World), Calls Try.prog 14 #[.agg #[.int .i64 a, .int .i64 b], .agg #[.int .i64 c, .int .i64 d]] w (Tells (.agg #[.int .i64 (min a c), .int .i64 (min b d)]) w)
  has : ∀ (a b site seq : Int) (w : World), Calls Try.prog 21 #[.agg #[.int .i64 a, .int .i64 b], .int .i64 site, .int .i64 seq] w (Tells (.bool (vhas a b site seq)) w)
  next : ∀ (a b site : Int) (w : World), Calls Try.prog 19 #[.agg #[.int .i64 a, .int .i64 b], .int .i64 site] w (Tells (.tuple #[.agg #[.int .i64 (vnext a b site).1.1, .int .i64 (vnext a b site).1.2], .int .i64 (vnext a b site).2]) w)
  join : ∀ {w : World} {a : Option Addr} {n cap : Nat} {l : List (Int × Int)}, Prs w a n cap l → Calls Try.prog 17 #[.slice a n cap] w (Tells (.agg #[.int .i64 (joinS l).1, .int .i64 (joinS l).2]) w)

theorem run_part_int {W : World} (xs : Array Value) (k : Nat) {v : Value} (hv : xs[k]? = some v) : (part 3 xs k).run Try.prog W = .ok v W := by
  have hi : (Try.prog.info? 3).map (fun i => (i.zero, i.size, i.bytes)) = some (some (.int .i64 0), 1, 8) := by kernel_rfl
  obtain ⟨i0, hi, hz0, hz1, hz2⟩ := info_parts hi
  have hag : (isAgg 3).run Try.prog W = .ok false W := by
    unfold isAgg
    rw [Sem.run_bind, run_underlying Try.underlying3 W]
    rfl
  simp [part, hag, sizeOf, typeInfo, hi, hz1, hv, go_sem]
theorem vec_eqIn (x y x' y' : Int) (W : World) : (Op.equalIn 10000 23 (.agg #[.int .i64 x, .int .i64 y]) (.agg #[.int .i64 x', .int .i64 y'])).run Try.prog W = .ok ((x == x') && (y == y')) W := by
  have hi : (Try.prog.info? 3).map (fun i => (i.zero, i.size, i.bytes)) = some (some (.int .i64 0), 1, 8) := by kernel_rfl
  obtain ⟨i3, hi3, _, _, _⟩ := info_parts hi
  have hc : Try.prog.cellsOf 3 = 1 := by kernel_rfl
  rw [run_equalIn_array W 9999 _ _ Try.underlying23 hi3, hc]
  have p0 := run_part_int (W := W) #[.int .i64 x, .int .i64 y] 0 rfl
  have p1 := run_part_int (W := W) #[.int .i64 x, .int .i64 y] 1 rfl
  have q0 := run_part_int (W := W) #[.int .i64 x', .int .i64 y'] 0 rfl
  have q1 := run_part_int (W := W) #[.int .i64 x', .int .i64 y'] 1 rfl
  show (Op.eqItems 9999 3 1 _ _ [0, 1]).run Try.prog W = _
  simp only [Op.eqItems, Sem.run_bind, Nat.zero_mul, Nat.one_mul, p0, q0, Result.andThen_ok]
  cases h0 : (x == x') <;> cases h1 : (y == y') <;> simp [p1, q1, h0, h1, run_equalIn_int W 9998 3 .i64 .i64 _ _ Try.underlying3]
theorem vec_eql (x y : Int) (W : World) : (binOp .eql 23 (.agg #[.int .i64 x, .int .i64 y]) (.agg #[.int .i64 x, .int .i64 y])).run Try.prog W = .ok (.bool true) W := by
  rw [run_eql_struct, vec_eqIn]; simp
theorem vec_neq (x y : Int) (W : World) : (binOp .neq 23 (.agg #[.int .i64 x, .int .i64 y]) (.agg #[.int .i64 x, .int .i64 y])).run Try.prog W = .ok (.bool false) W := by
  rw [run_neq_struct, vec_eqIn]; simp
theorem vec_eqg (op : BinOp) (x y : Operand) (xs ys : Array Value) (W : World) : (eqGuard op 23 x y (.agg xs) (.agg ys)).run Try.prog W = .ok () W := run_eqGuard_agg W op _ x y xs ys (by kernel_rfl)

set_option maxRecDepth 100000 in
set_option maxHeartbeats 3200000 in
theorem vcompares_walk (K : VecOk) (HL : ∀ W, Calls Try.prog 16 #[] W (Tells (.bool true) W)) (a b c d : Int) {w : World} :
    Calls Try.prog 3 #[.agg #[.int .i64 a, .int .i64 b], .agg #[.int .i64 c, .int .i64 d]] w (Tells (.bool true) w) := by
  have hp := (Pair.new w 23 a b).alloc (.cells #[.int .i64 c, .int .i64 d] 23)
  have hq := Pair.second w (.cells #[.int .i64 a, .int .i64 b] 23) 23 c d
  have hb := second_below w (.cells #[.int .i64 a, .int .i64 b] 23) (.cells #[.int .i64 c, .int .i64 d] 23)
  have hEQ := vec_eql
  have hEG := vec_eqg
  have G1 := fun (w : World) => tells_grown (w := w) (K.good a b)
  have G2 := fun (w : World) => tells_grown (w := w) (rvgood_c a b)
  have C1 := fun (w : World) => tells_grown (w := w) (K.cov a b c d)
  have C2 := fun (w : World) => tells_grown (w := w) (rvcov_c a b c d)
  have M1 := fun (w : World) => tells_grown (w := w) (K.cmp a b c d)
  have M2 := fun (w : World) => tells_grown (w := w) (rvcmp_c a b c d)
  have N1 := fun (w : World) => tells_grown (w := w) (K.meet a b c d)
  have N2 := fun (w : World) => tells_grown (w := w) (rvmeet_c a b c d)
  have L1 := fun (w : World) => tells_grown (w := w) HL
  obtain ⟨g, hg⟩ : ∃ g, vgood a b = g := ⟨_, rfl⟩
  obtain ⟨v, hv⟩ : ∃ g, vcov a b c d = g := ⟨_, rfl⟩
  obtain ⟨m, hm⟩ : ∃ g, vcmp a b c d = g := ⟨_, rfl⟩
  obtain ⟨x, hx⟩ : ∃ g, min a c = g := ⟨_, rfl⟩
  obtain ⟨y, hy⟩ : ∃ g, min b d = g := ⟨_, rfl⟩
  simp only [hg, hv, hm, hx, hy] at G1 G2 C1 C2 M1 M2 N1 N2
  have HG1 := Lib.hid G1
  have HG2 := Lib.hid G2
  have HC1 := Lib.hid C1
  have HC2 := Lib.hid C2
  have HM1 := Lib.hid M1
  have HM2 := Lib.hid M2
  have HN1 := Lib.hid N1
  have HN2 := Lib.hid N2
  have HL1 := Lib.hid L1
  have HB := Lib.hid hb
  have HP := Lib.hid hp
  have HQ := Lib.hid hq
  clear G1 G2 C1 C2 M1 M2 N1 N2 L1 hb hp hq hg hv hm hx hy HL
  go_enter Try.func3, Try.ntmps3
  go_upto_region 1 with (fail)
  generalize (w.alloc (.cells #[.int .i64 a, .int .i64 b] 23)).alloc (.cells #[.int .i64 c, .int .i64 d] 23) = W1 at *
  have k0 := cell_regrown HP.out.c0
  have k1 := cell_regrown HP.out.c1
  have k2 := cell_regrown HQ.out.c0
  have k3 := cell_regrown HQ.out.c1
  refine wp_region_quiet_below (by kernel_rfl) (by kernel_rfl) ?_
  repeat (go_big_quiet_step (first | with_reducible exact HG1.out _ _ _ | with_reducible exact HG2.out _ _ _ | with_reducible exact HC1.out _ _ _ | with_reducible exact HC2.out _ _ _ | with_reducible exact HM1.out _ _ _ | with_reducible exact HM2.out _ _ _ | with_reducible exact HN1.out _ _ _ | with_reducible exact HN2.out _ _ _ | with_reducible exact HL1.out _ _ _))
  refine wpQuiet_nil ?_
  intro _ hw'
  obtain ⟨⟨dq, osq⟩, hw''⟩ := hw'
  subst hw''
  have hB2 := below_regrown W1 dq osq
  go_wp2
  go_ret
  exact ⟨rfl, HB.out.trans (hB2.mono HB.out.size)⟩
end Go.Proofs.Ytjlolljlhoclhaa
