/-
  The reference's Right, by the reference's Fix.
-/
import Derived.Test.YticcmhgahbnboaaDoorCF
namespace Go.Proofs.YticcmhgahbnboaaDoor
open Go.RowKit
set_option linter.unusedVariables false

theorem text_inj {l m : List UInt8} (h : text l = text m) : l = m := by
  unfold text at h
  have := congrArg (fun x => x.data.toList) h
  simpa using this

/-- A bool comes back; what was there is as it was. -/
def BoolPost (x : Bool) (w : World) (e : Ending) (w' : World) : Prop := e = .returned (.bool x) ∧ Below w.heap.size w w'
theorem BoolPost.mk {a x : Bool} {w w' : World} (h : a = x) (hb : Below w.heap.size w w') : BoolPost x w (.returned (.bool a)) w' := by subst h; exact ⟨rfl, hb⟩

set_option maxRecDepth 100000 in
set_option maxHeartbeats 1600000 in
theorem rright_c {w : World} {a : Option Addr} {n cap : Nat} {l : List UInt8} (hb : Bys w a n cap l) (hn : n ≤ 1000000) : Calls Tryd.prog 40 #[.slice a n cap] w (BoolPost (rightS l) w) := by
  have hlim : (n : Int) ≤ 9223372036854775807 := by have := hb.le; have := hb.max; omega
  by_cases h4 : n < 4
  · have hr : rightS l = false := by unfold rightS; rw [hb.len, if_pos h4]
    rw [hr]
    have hd : (n : Int) < 4 := by omega
    go_enter Tryd.func40, Tryd.ntmps40
    go_wp2
    go_ret
    exact BoolPost.mk rfl (Below.refl _ _)
  · have h5 : (4 : Int) ≤ (n : Int) := by omega
    have hle := hb.le
    have hmax := hb.max
    have hcq : ¬ cap = n - 4 := by omega
    have ht := hb.take (show ((n : Int) - 4).toNat ≤ n by omega)
    have hn1 : ((n : Int) - 4).toNat ≤ 1000000 := by omega
    have HR := Lib.hid (show rightS l = decide (fixS (l.take ((n : Int) - 4).toNat) = l) by rw [rightS_iff l (by rw [hb.len]; exact h4), hb.len, show ((n : Int) - 4).toNat = n - 4 by omega])
    have hcv : ∀ W : World, Below w.heap.size w W → (convert 22 9 (.slice a n cap)).run Tryd.prog W = .ok (.string (text l)) W := fun W h => conv_bys (hb.below h) Tryd.underlying22 Tryd.underlying5 Tryd.underlying9
    have hbd : Below w.heap.size w w.drew := (Below.refl _ _).drew
    have hc1 := hcv _ hbd
    have HV := Lib.hid hcv
    clear hcv
    have h6 : (n : Int) - 4 ≤ (cap : Int) ∧ 0 ≤ (n : Int) - 4 := by omega
    go_enter Tryd.func40, Tryd.ntmps40
    go_wp2
    go_region_with (go_at_call 36; refine (rfix_c (ht.below hbd) hn1).mono ?_; rintro e w' ⟨v, rfl, hov, hbv⟩; obtain ⟨av, cv, rfl, hbys⟩ := hov.bys; have hc2 := conv_bys (P := Tryd.prog) hbys Tryd.underlying22 Tryd.underlying5 Tryd.underlying9; have hbw : Below w.heap.size w w' := Below.trans hbd (hbv.mono hbd.size); have hc3 := HV.out _ hbw)
    all_goals go_wp2
    all_goals go_ret
    all_goals exact BoolPost.mk (by rw [HR.out]; exact text_beq _ _) (by assumption)
end Go.Proofs.YticcmhgahbnboaaDoor
