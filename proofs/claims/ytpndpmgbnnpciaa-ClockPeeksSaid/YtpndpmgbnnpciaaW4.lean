/-
  Stamp: the laws' walks over contracts of the program's functions: the example, StampOrders, StampNexts.
-/
import Derived.Test.YtpndpmgbnnpciaaW3
namespace Go.Proofs.Ytpndpmgbnnpciaa
open Go.RowKit Go Go.Sort
set_option linter.unusedVariables false
set_option maxRecDepth 20000

theorem srun_part_int {W : World} (xs : Array Value) (k : Nat) {v : Value} (hv : xs[k]? = some v) : (part 3 xs k).run Try.prog W = .ok v W := by
  have hi : (Try.prog.info? 3).map (fun i => (i.zero, i.size, i.bytes)) = some (some (.int .i64 0), 1, 8) := by kernel_rfl
  obtain ⟨i0, hi, hz0, hz1, hz2⟩ := info_parts hi
  have hag : (isAgg 3).run Try.prog W = .ok false W := by
    unfold isAgg
    rw [Sem.run_bind, run_underlying Try.underlying3 W]
    rfl
  simp [part, hag, sizeOf, typeInfo, hi, hz1, hv, go_sem]
theorem stamp_eqIn (x y x' y' : Int) (W : World) : (Op.equalIn 10000 66 (.agg #[.int .i64 x, .int .i64 y]) (.agg #[.int .i64 x', .int .i64 y'])).run Try.prog W = .ok ((x == x') && (y == y')) W := by
  rw [run_equalIn_struct W 9999 _ _ _ Try.underlying66 (by kernel_rfl)]
  obtain ⟨f0, f1, hf, h0, h1, t0, t1, n0, n1⟩ : ∃ f0 f1, (Try.prog.fieldsOf 66).toList = [f0, f1] ∧ f0.offset = 0 ∧ f1.offset = 1 ∧ f0.type = 3 ∧ f1.type = 3 ∧ f0.name ≠ "_" ∧ f1.name ≠ "_" := ⟨_, _, rfl, rfl, rfl, rfl, rfl, by decide, by decide⟩
  rw [hf]
  have p0 := srun_part_int (W := W) #[.int .i64 x, .int .i64 y] 0 rfl
  have p1 := srun_part_int (W := W) #[.int .i64 x, .int .i64 y] 1 rfl
  have q0 := srun_part_int (W := W) #[.int .i64 x', .int .i64 y'] 0 rfl
  have q1 := srun_part_int (W := W) #[.int .i64 x', .int .i64 y'] 1 rfl
  cases e0 : (x == x') <;> cases e1 : (y == y') <;> simp [Op.eqFields, n0, n1, h0, h1, t0, t1, p0, q0, p1, q1, e0, e1, run_equalIn_int W 9998 3 .i64 .i64 _ _ Try.underlying3, Sem.run_bind, Result.andThen_ok]
theorem stamp_eql (x y : Int) (W : World) : (binOp .eql 66 (.agg #[.int .i64 x, .int .i64 y]) (.agg #[.int .i64 x, .int .i64 y])).run Try.prog W = .ok (.bool true) W := by
  rw [run_eql_struct, stamp_eqIn]; simp
theorem stamp_neq (x y : Int) (W : World) : (binOp .neq 66 (.agg #[.int .i64 x, .int .i64 y]) (.agg #[.int .i64 x, .int .i64 y])).run Try.prog W = .ok (.bool false) W := by
  rw [run_neq_struct, stamp_eqIn]; simp
theorem stamp_eqg (op : BinOp) (x y : Operand) (xs ys : Array Value) (W : World) : (eqGuard op 66 x y (.agg xs) (.agg ys)).run Try.prog W = .ok () W := run_eqGuard_agg W op _ x y xs ys (by kernel_rfl)

end Go.Proofs.Ytpndpmgbnnpciaa
