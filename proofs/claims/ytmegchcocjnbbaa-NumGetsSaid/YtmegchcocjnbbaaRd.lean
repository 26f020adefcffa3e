/-
  A slice that came in, as bytes or as numbers: what the law's frame tells of it, brought into the form that the contracts take.
-/
import Derived.Test.YtmegchcocjnbbaaNM
namespace Go.Proofs.Ytmegchcocjnbbaa
open Go.RowKit
set_option linter.unusedVariables false

/-- WHAT THE WALK IS TOLD OF A SLICE OF INTEGERS THAT CAME IN: it is nil; or it leads to a row of 'cap' cells, the numbers 'zs' (the first 'len' are its elements, the rest its spare room), each fitting its kind. -/
def IsRow (k : IntKind) (w : World) (a : Option Addr) (len cap : Nat) (zs : List Int) : Prop :=
  (a = none ∧ len = 0 ∧ cap = 0 ∧ zs = []) ∨
  ∃ x, a = some x ∧ len ≤ cap ∧ cap ≤ maxLen ∧ zs.length = cap ∧ (∀ i, i < zs.length → w.cell? (x.add i) = some (.int k (zs.getD i 0))) ∧ ∀ n ∈ zs, (Lit.int k n).wf = true


theorem u8_of_wf {n : Int} (h : (Lit.int .u8 n).wf = true) : 0 ≤ n ∧ n ≤ 255 := by
  simpa [Lit.wf, IntKind.min, IntKind.max, IntKind.signed, IntKind.bits] using h

theorem IsRow.bys {w : World} {a : Option Addr} {n cap : Nat} {zs : List Int} (h : IsRow .u8 w a n cap zs) : ∃ l, Bys w a n cap l := by
  rcases h with ⟨rfl, rfl, rfl, rfl⟩ | ⟨x, rfl, hl, hm, hz, hcell, hwz⟩
  · exact ⟨[], rfl, Nat.le_refl _, by omega, .inl rfl⟩
  · refine ⟨(zs.take n).map (fun z => UInt8.ofNat z.toNat), by simp; omega, hl, by unfold maxLen at hm; omega, ?_⟩
    by_cases hc : cap = 0
    · exact .inl hc
    · right
      obtain ⟨b, off, spot⟩ := x
      have h0 := hcell 0 (by omega)
      have hspot : spot = none := by simpa [Addr.add] using World.cell?_spot h0
      subst hspot
      refine ⟨b, off, rfl, fun i hi => ?_⟩
      have hi' : i < zs.length := by omega
      have := hcell i hi'
      have hw := u8_of_wf (hwz (zs.getD i 0) (by rw [List.getD_eq_getElem?_getD, List.getElem?_eq_getElem hi']; exact List.getElem_mem hi'))
      have e : by8 ((zs.take n).map (fun z => UInt8.ofNat z.toNat)) i = zs.getD i 0 := by
        unfold by8
        have hq : zs.getD i 0 = zs[i] := by simp [List.getD, hi']
        rw [hq] at hw ⊢
        simp [List.getD, hi, hi']
        omega
      rw [e]
      have ea : (⟨b, off, none⟩ : Addr).add i = ⟨b, off + i, none⟩ := by
        by_cases h0 : i = 0
        · subst h0; rfl
        · simp [Addr.add, h0]
      rw [← ea]; exact this
end Go.Proofs.Ytmegchcocjnbbaa
