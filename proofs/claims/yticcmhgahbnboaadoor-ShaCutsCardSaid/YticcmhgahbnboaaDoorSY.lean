/-
  Digests that are the same.
-/
import Derived.Test.YticcmhgahbnboaaDoorSQ
import Derived.Test.YticcmhgahbnboaaDoorSL
import Derived.Test.YticcmhgahbnboaaDoorRd
import Derived.ChangeKeysEq
import Derived.Laws.StructEq
namespace Go.Proofs.YticcmhgahbnboaaDoor
open Go.RowKit Go
set_option linter.unusedVariables false

theorem run_part_u8 {W : World} (xs : Array Value) (k : Nat) {v : Value} (hv : xs[k]? = some v) : (part 5 xs k).run Tryd.prog W = .ok v W := by
  obtain ⟨i0, hi, hz0, hz1, hz2⟩ := info_parts Tryd.info5
  have hag : (isAgg 5).run Tryd.prog W = .ok false W := by
    unfold isAgg
    rw [Sem.run_bind, run_underlying Tryd.underlying5 W]
    rfl
  simp [part, hag, sizeOf, typeInfo, hi, hz1, hv, go_sem]
theorem dig_items (d : List UInt8) (h : d.length = 32) (W : World) : ∀ (is : List Nat), (∀ i ∈ is, i < 32) → (Op.eqItems 9999 5 (Tryd.prog.cellsOf 5) (u8v d).toArray (u8v d).toArray is).run Tryd.prog W = .ok true W
  | [], _ => by simp [Op.eqItems]
  | i :: is, hi => by
    have hc : Tryd.prog.cellsOf 5 = 1 := by kernel_rfl
    have hlt := hi i (by simp)
    have hp : (part 5 (u8v d).toArray (i * Tryd.prog.cellsOf 5)).run Tryd.prog W = .ok (.int .u8 (by8 d i)) W := by
      rw [hc, Nat.mul_one]
      exact run_part_u8 _ i (by rw [List.getElem?_toArray]; exact u8v_get d i (by omega))
    have ih := dig_items d h W is (fun j hj => hi j (by simp [hj]))
    simp only [Op.eqItems, Sem.run_bind, hp, Result.andThen_ok, run_equalIn_int W 9998 5 .u8 .u8 _ _ Tryd.underlying5]
    simpa using ih
theorem dig_eq (d : List UInt8) (h : d.length = 32) (W : World) : (binOp .eql 46 (.agg (u8v d).toArray) (.agg (u8v d).toArray)).run Tryd.prog W = .ok (.bool true) W := by
  obtain ⟨i, hi⟩ : ∃ i, Tryd.prog.info? 46 = some i := by
    have := size_dig d h
    cases hx : Tryd.prog.info? 46 with
    | none => rw [hx] at this; cases this
    | some i => exact ⟨i, rfl⟩
  obtain ⟨i5, hi5, _, _, _⟩ := info_parts Tryd.info5
  rw [run_eql_struct, run_equalIn_array W 9999 _ _ Tryd.underlying46 hi5, dig_items d h W _ (fun i hi => List.mem_range.1 hi)]
  rfl
theorem eqg_dig (op : BinOp) (x y : Operand) (xs ys : Array Value) (W : World) : (eqGuard op 46 x y (.agg xs) (.agg ys)).run Tryd.prog W = .ok () W := run_eqGuard_agg W op _ x y xs ys (by kernel_rfl)
theorem dig_neq (d : List UInt8) (h : d.length = 32) (W : World) : (binOp .neq 46 (.agg (u8v d).toArray) (.agg (u8v d).toArray)).run Tryd.prog W = .ok (.bool false) W := by
  have h1 := dig_eq d h W
  rw [run_eql_struct] at h1
  rw [run_neq_struct]
  generalize (Op.equalIn 10000 46 (.agg (u8v d).toArray) (.agg (u8v d).toArray)).run Tryd.prog W = r at *
  cases r with
  | ok b w' =>
    simp only [Result.andThen_ok, Result.ok.injEq, Value.bool.injEq] at h1
    obtain ⟨rfl, rfl⟩ := h1
    rfl
  | halt x w' => simp [Result.andThen] at h1
end Go.Proofs.YticcmhgahbnboaaDoor
