/-
  The chapter's example that each statement of frame asks for.
-/
import Derived.Test.YticcmhgahbnboaaDoorFW
import Derived.Test.YticcmhgahbnboaaDoorRT
import Derived.Test.YticcmhgahbnboaaDoorFN
namespace Go.Proofs.YticcmhgahbnboaaDoor
open Go.RowKit Go
set_option linter.unusedVariables false

set_option maxRecDepth 100000 in
theorem six_facts : (wrapS []).length = 6 ∧ by8 (wrapS []) 0 = 181 ∧ rowsS (wrapS [] ++ [181]) = ([[]], 6, 10) := by decide +kernel

theorem bys_nil (w : World) : Bys w none 0 0 [] := ⟨rfl, Nat.le_refl _, by omega, .inl rfl⟩

set_option maxRecDepth 100000 in
set_option maxHeartbeats 1600000 in
theorem lives_c {w : World} (hT : TabW w) : Calls Tryd.prog 13 #[] w (BoolPost true w) := by
  obtain ⟨i0, hi, hz0, hz1, hz2⟩ := info_parts Tryd.info5
  obtain ⟨h6, h0, hr⟩ := six_facts
  have hwc := wrap_c (bys_nil w) (by omega) hT
  obtain ⟨b6, hb6⟩ : ∃ b, wrapS [] = b := ⟨_, rfl⟩
  rw [hb6] at h6 h0 hr hwc
  have H6 := Lib.hid h6
  have H0 := Lib.hid h0
  have HR := Lib.hid hr
  have HW := Lib.hid hwc
  clear h6 h0 hr hwc hb6
  go_enter Tryd.func13, Tryd.ntmps13
  go_wp2_with fail
  refine (HW.out).mono ?_
  rintro e w1 ⟨v1, rfl, ho1, hbv1⟩
  obtain ⟨g, c1, hv1, ho1⟩ := ho1.row (by have := H6.out; omega)
  rw [H6.out] at hv1 ho1
  subst hv1
  obtain ⟨a1, c1', hve, hb1⟩ := ho1.bys
  rw [H6.out] at hve hb1
  obtain ⟨rfl, rfl⟩ : a1 = some ⟨g, 0, none⟩ ∧ c1' = c1 := by simpa using hve.symm
  have hcell1 : w1.cell? ⟨g, 0, none⟩ = some (.int .u8 181) := by
    rcases hb1.adr with h | ⟨b, off, hbo, hc⟩
    · have := hb1.le; omega
    · simp at hbo
      obtain ⟨rfl, rfl⟩ := hbo
      have := hc 0 (by omega)
      rw [H0.out] at this
      simpa using this
  have hgl := World.block_lt_of_cell? w1 _ hcell1
  have hal := (Below.refl w1.heap.size w1).alloc (Nat.le_refl _) (.cells #[] 5)
  have hoe := OwnB.empty w1 w1.heap.size 5 (Nat.le_refl _)
  have hba := hb1.below hal
  have HV := Lib.hid hve
  clear hve
  go_wp2_with (first
    | (at_builtin; refine wpList_append_bys rfl (.tmp 7) (.tmp 8) 22 rfl Tryd.underlying22 hi hz0 hz1 hz2 rfl rfl hoe rfl hba (by simp) (by simp) ?_; intro v2 w2 ho2 hg2; rw [List.nil_append] at ho2; have hs2 := hg2.size)
    | (at_builtin; refine wpList_append_bys rfl (.tmp 9) (.tmp 10) 22 rfl Tryd.underlying22 hi hz0 hz1 hz2 rfl rfl (World.ownsRow.alloc ho2 _) rfl (one_bys w2 5 181 181 rfl) (by have := H6.out; omega) (by simp at hs2 ⊢; omega) ?_; intro v3 w3 ho3 hg3))
  obtain ⟨a3, c3, hv3, hb3⟩ := ho3.bys
  subst hv3
  have hrc := rows_c hb3 (by have := H6.out; simp; omega)
  have hlow1 : Below w1.heap.size w1 w2 := hal.grown hg2 (by simp) (fun k hk => (hoe.lt k hk).1)
  have hlow : Below w1.heap.size w1 w3 := (hlow1.alloc hlow1.size _).grown hg3 (by have := hlow1.size; simp; omega) (fun k hk => (ho2.lt k hk).1)
  refine hrc.mono ?_
  rintro e w4 ⟨v4, rfl, ho4, hb4⟩
  obtain ⟨a4, c4, rfl, _⟩ := ho4.rws
  rw [HR.out]
  have hcell4 : w4.cell? ⟨g, 0, none⟩ = some (.int .u8 181) := by
    rw [(hlow.trans (hb4.mono hlow.size)).cell hgl]; exact hcell1
  clear hoe hba hb1 hb3 ho3 ho4 ho1 ho2 hg2 hg3 hcell1
  go_wp2
  go_ret
  exact BoolPost.mk rfl (hbv1.trans ((hlow.trans (hb4.mono hlow.size)).mono hbv1.size))
end Go.Proofs.YticcmhgahbnboaaDoor
