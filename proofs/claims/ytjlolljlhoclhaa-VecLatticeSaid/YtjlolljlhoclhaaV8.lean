/-
  Vec: what VecLattice tells, as plain mathematics.
-/
import Derived.Test.YtjlolljlhoclhaaV7
namespace Go.Proofs.Ytjlolljlhoclhaa
open Go.RowKit Go Go.Sort
set_option linter.unusedVariables false

theorem vlatt {a0 a1 b0 b1 c0 c1 : Int} (ga : vgood a0 a1 = true) (gb : vgood b0 b1 = true) (gc : vgood c0 c1 = true) :
    joinS [(b0, b1), (a0, a1)] = joinS [(a0, a1), (b0, b1)] ∧ ∃ t u : Int × Int, joinS [joinS [(a0, a1), (b0, b1)], (c0, c1)] = t ∧ joinS [(b0, b1), (c0, c1)] = u ∧ joinS [(a0, a1), u] = t ∧
      joinS [(a0, a1), (a0, a1)] = (a0, a1) ∧ joinS [(a0, a1), (min a0 b0, min a1 b1)] = (a0, a1) ∧
      vcov (joinS [(a0, a1), (b0, b1)]).1 (joinS [(a0, a1), (b0, b1)]).2 a0 a1 = true ∧ vcov (joinS [(a0, a1), (b0, b1)]).1 (joinS [(a0, a1), (b0, b1)]).2 b0 b1 = true ∧
      vcov a0 a1 (min a0 b0) (min a1 b1) = true ∧ vcov b0 b1 (min a0 b0) (min a1 b1) = true ∧ min a0 (joinS [(a0, a1), (b0, b1)]).1 = a0 ∧ min a1 (joinS [(a0, a1), (b0, b1)]).2 = a1 ∧
      (vcov c0 c1 a0 a1 = true → vcov c0 c1 b0 b1 = true → vcov c0 c1 (joinS [(a0, a1), (b0, b1)]).1 (joinS [(a0, a1), (b0, b1)]).2 = true) ∧
      (vcov a0 a1 c0 c1 = true → vcov b0 b1 c0 c1 = true → vcov (min a0 b0) (min a1 b1) c0 c1 = true) := by
  simp only [vgood, decide_eq_true_eq, Bool.and_eq_true] at ga gb gc
  obtain ⟨⟨⟨x1, x2⟩, x3⟩, x4⟩ | ⟨x1, x2, x3, x4⟩ : (((0 ≤ a0 ∧ a0 ≤ 1099511627776) ∧ 0 ≤ a1) ∧ a1 ≤ 1099511627776) ∨ (0 ≤ a0 ∧ a0 ≤ 1099511627776 ∧ 0 ≤ a1 ∧ a1 ≤ 1099511627776) := by omega
  all_goals
    have e0 : max 0 a0 = a0 := by omega
    have e1 : max 0 a1 = a1 := by omega
    have e2 : max 0 b0 = b0 := by omega
    have e3 : max 0 b1 = b1 := by omega
    refine ⟨?_, _, _, rfl, rfl, ?_, ?_, ?_, ?_, ?_, ?_, ?_, ?_, ?_, ?_, ?_⟩ <;> simp only [joinS, vcov, List.foldl, Prod.mk.injEq, decide_eq_true_eq, Bool.and_eq_true, e0, e1, e2, e3] <;> (try intro h1 h2) <;> first | omega | (constructor <;> omega) | trace_state
end Go.Proofs.Ytjlolljlhoclhaa
