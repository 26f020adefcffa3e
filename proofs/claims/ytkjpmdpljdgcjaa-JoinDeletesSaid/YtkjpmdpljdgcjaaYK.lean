/-
  Cells that may be: their texts.
-/
import Derived.Test.YtkjpmdpljdgcjaaYM
namespace Go.Proofs.Ytkjpmdpljdgcjaa
open Go.RowKit Go Go.Sort
set_option linter.unusedVariables false
set_option maxRecDepth 20000

theorem good_len {p : Int} {c : Cl} (h : c.good p = true) : c.t.length ≤ 9223372036854775807 := by
  rw [good_parts, Bool.and_eq_true] at h
  have h2 := h.2
  unfold Cl.gw at h2
  cases hw : c.wrote with
  | false =>
    have := wrote_no hw
    have h3 : c.t = [] := congrArg (fun k : Key => k.2.2.1) this
    rw [h3]; simp
  | true =>
    rw [hw] at h2
    simp at h2
    omega
end Go.Proofs.Ytkjpmdpljdgcjaa
