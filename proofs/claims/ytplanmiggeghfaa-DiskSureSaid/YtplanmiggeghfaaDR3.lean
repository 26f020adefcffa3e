/-
  Disk: the reference: counted.
-/
import Derived.Test.YtplanmiggeghfaaDR2
import Derived.Shelf.Abstract
namespace Go.Proofs.Ytplanmiggeghfaa
open Go.RowKit Go Go.Sort Go.Maps Go.WideMaps
set_option linter.unusedVariables false
set_option maxRecDepth 20000

theorem rcounted_c {w : World} {q : Nat} {fv : Value} {FS : List Fr} {st : Ds} (h : RefIn w q fv FS st) (hne : ¬ (st.plan = true ∧ st.pn = 0)) : Calls Try.prog 75 #[.pointer (some ⟨q, 0, none⟩)] w (fun e w' => e = .returned (.bool true) ∧ RefIn w' q fv FS st.tick ∧ Trn (fun k => k = q) w w') := by
  obtain ⟨c0, c1, c2, c3, c4, c5, c6, c7⟩ := h.cs
  have f4 := h.fz 4
  have f6 := h.fz 6
  have HD := Lib.hid h
  cases hp : st.plan with
  | true =>
    have h0 : ¬ st.pn = 0 := fun e => hne ⟨hp, e⟩
    have hpn := h.ok.pn
    rw [hp] at c5
    have HT := Lib.hid (show st.tick = { st with ops := wr64 (st.ops + 1), pn := st.pn - 1 } by unfold Ds.tick; rw [if_pos hp])
    have hw1 : IntKind.i64.wrap (st.pn - 1) = st.pn - 1 := by rw [IntKind.wrap_i64]; omega
    have hw2 : wrap64 (st.pn - 1) = st.pn - 1 := by unfold wrap64; omega
    have hw3 : wrap64 (st.ops + 1) = wr64 (st.ops + 1) := by unfold wr64; rw [IntKind.wrap_i64]; unfold wrap64; omega
    have HW := Lib.hid (show IntKind.i64.wrap (st.ops + 1) = wr64 (st.ops + 1) from rfl)
    have HN := Lib.hid (show 0 ≤ st.pn - 1 ∧ st.pn - 1 ≤ 9223372036854775807 by omega)
    have HP := Lib.hid hp
    obtain ⟨O, hO⟩ : ∃ z, st.ops = z := ⟨_, rfl⟩
    obtain ⟨P, hP⟩ : ∃ z, st.pn = z := ⟨_, rfl⟩
    have HO := Lib.hid hO
    have HPP := Lib.hid hP
    rw [hO] at c4 hw3 HW
    rw [hP] at c6 h0 hw1 hw2 hpn
    clear h hne hp hO hP
    go_enter Try.func75, Try.ntmps75
    go_wp2
    go_ret
    have hd := HD.out
    have ht1 : Trn (fun k => k = q) w (w.setCell ⟨q, 6, none⟩ (.int .i64 (P - 1))) := Trn.refl.set (.inl rfl)
    refine ⟨rfl, ?_, ht1.set (.inl rfl)⟩
    rw [HT.out]
    refine hd.turn (st' := { st with ops := wr64 (st.ops + 1), pn := st.pn - 1 }) (fun j hj _ => (heap_setCell_other _ _ _ _ hj).trans (heap_setCell_other _ _ _ _ hj)) ?_ rfl ⟨hd.ok.len, hd.ok.each, hd.ok.asc, HN.out, hd.ok.room⟩
    rw [heap_setCell_same _ q 4 _ 48 _ (by rw [heap_setCell_same w q 6 _ 48 _ hd.head])]
    simp only [HO.out, HPP.out]
    rfl
  | false =>
    rw [hp] at c5
    have HT := Lib.hid (show st.tick = { st with ops := wr64 (st.ops + 1), pn := st.pn } by unfold Ds.tick; rw [if_neg (by simp [hp])])
    have hw3 : wrap64 (st.ops + 1) = wr64 (st.ops + 1) := by unfold wr64; rw [IntKind.wrap_i64]; unfold wrap64; omega
    have HW := Lib.hid (show IntKind.i64.wrap (st.ops + 1) = wr64 (st.ops + 1) from rfl)
    obtain ⟨O, hO⟩ : ∃ z, st.ops = z := ⟨_, rfl⟩
    have HO := Lib.hid hO
    rw [hO] at c4 hw3 HW
    clear h hne hp hO
    go_enter Try.func75, Try.ntmps75
    go_wp2
    go_ret
    have hd := HD.out
    refine ⟨rfl, ?_, Trn.refl.set (.inl rfl)⟩
    rw [HT.out]
    refine hd.turn (st' := { st with ops := wr64 (st.ops + 1), pn := st.pn }) (fun j hj _ => heap_setCell_other _ _ _ _ hj) ?_ rfl ⟨hd.ok.len, hd.ok.each, hd.ok.asc, hd.ok.pn, hd.ok.room⟩
    rw [heap_setCell_same w q 4 _ 48 _ hd.head]
    simp only [HO.out]
    rfl
end Go.Proofs.Ytplanmiggeghfaa
