/-
  What the rows of a list that came in weigh.
-/
import Derived.Test.YticcmhgahbnboaaDoorRO
import Derived.SizedLaws
namespace Go.Proofs.YticcmhgahbnboaaDoor
open Go.RowKit Go Go.Deep Go.ChangeShapes
set_option linter.unusedVariables false

theorem weights_mem_all {H : Type} {P : Program} {e : TypeId} : ∀ {ds : List (DataW H)} {d : DataW H}, d ∈ ds → ∀ n ∈ d.weights P e, n ∈ DataW.weightsAll P e ds
  | x :: ds, d, hd, n, hn => by
    simp only [DataW.weightsAll, List.mem_append]
    rcases List.mem_cons.1 hd with rfl | hd
    · exact .inl hn
    · exact .inr (weights_mem_all hd n hn)
theorem row_sizes {H : Type} {ts : List TypeId} {ds : List (DataW H)} {d : DataW H} {len : Nat} {bs : List (List UInt8)} (h : (DataW.weightsEach Tryd.prog ts ds).all (· ≤ reachBytes) = true) {j : Nat} (ht : ts[j]? = some 31) (hj : ds[j]? = some d)
    (hd : d = .nil ∨ ∃ (A : Nat → Option Addr) (L : Nat → Nat) (Z : Nat → List Int) (spare : List (DataW H)), d = .slice ((List.range len).map fun r => intRow .u8 (A r) (L r) (Z r)) spare ∧ ∀ r, r < len → L r ≤ (Z r).length ∧ (bs.getD r []).length = L r ∧ (A r = none → L r = 0)) (hn : d = .nil → len = 0) :
    ∀ r, r < len → (bs.getD r []).length ≤ 140737488351232 := by
  intro r hr
  rcases hd with hd | ⟨A, L, Z, spare, hd, hrow⟩
  · have := hn hd; omega
  · obtain ⟨h1, h2, h3⟩ := hrow r hr
    rw [h2]
    cases hA : A r with
    | none => rw [h3 hA]; omega
    | some x =>
      have hm : intRow .u8 (A r) (L r) (Z r) ∈ ((List.range len).map fun r => (intRow .u8 (A r) (L r) (Z r) : DataW H)) := List.mem_map.2 ⟨r, List.mem_range.2 hr, rfl⟩
      have hw : (Z r).length * Tryd.prog.bytesOf 5 ∈ (intRow .u8 (A r) (L r) (Z r) : DataW H).weights Tryd.prog 22 := by
        rw [hA]
        simp only [intRow, DataW.weights, Tryd.underlying22, List.mem_cons]
        left
        congr 1
        simp [lits]
        omega
      have h5 := weights_mem_all hm _ hw
      have h6 : (Z r).length * Tryd.prog.bytesOf 5 ∈ d.weights Tryd.prog 31 := by
        rw [hd]
        simp only [DataW.weights, Tryd.underlying31, List.mem_cons, List.mem_append]
        exact .inr (.inl h5)
      have h7 := List.all_eq_true.1 h _ (DataW.weights_mem_each ht hj _ h6)
      rw [show Tryd.prog.bytesOf 5 = 1 by kernel_rfl] at h7
      simp [reachBytes] at h7
      omega
end Go.Proofs.YticcmhgahbnboaaDoor
