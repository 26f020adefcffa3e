/-
  A slice of byte slices that came in: what the law's frame tells of it, brought into the form that the contracts take; what it weighs.
-/
import Derived.Test.YticcmhgahbnboaaDoorRS
import Derived.Test.YticcmhgahbnboaaDoorRd
import Derived.Deep.Matrix
namespace Go.Proofs.YticcmhgahbnboaaDoor
open Go.RowKit Go Go.Deep Go.ChangeShapes
set_option linter.unusedVariables false

def asBytes (zs : List Int) : List UInt8 := zs.map (fun z => UInt8.ofNat z.toNat)
theorem asBytes_by8 (zs : List Int) (hw : ∀ n ∈ zs, (Lit.int .u8 n).wf = true) (L i : Nat) (hi : i < L) (hl : i < zs.length) : by8 (asBytes (zs.take L)) i = zs.getD i 0 := by
  have hw' := u8_of_wf (hw (zs.getD i 0) (by rw [List.getD_eq_getElem?_getD, List.getElem?_eq_getElem hl]; exact List.getElem_mem hl))
  unfold by8 asBytes
  have hq : zs.getD i 0 = zs[i] := by simp [List.getD, hl]
  rw [hq] at hw' ⊢
  simp [List.getD, hi, hl]
  omega

/-- What the rows hold together. -/
def lenSum (bs : List (List UInt8)) : Nat := (bs.map List.length).sum
theorem lenSum_snoc (bs : List (List UInt8)) (b : List UInt8) : lenSum (bs ++ [b]) = lenSum bs + b.length := by simp [lenSum]

theorem rws_of_open {H : Type} {enc : TypeId × Value → H} {W : World} {a : Option Addr} {len cap : Nat} {d : DataW H} {p : List MemPlace} (h : DataW.Trod enc Tryd.prog W 0 (fun _ => true) true 31 (.slice a len cap) d p) :
    ∃ bs, Rws W a len cap bs ∧ cap ≤ maxLen ∧ (d = .nil ∨ ∃ (A : Nat → Option Addr) (L : Nat → Nat) (Z : Nat → List Int) (spare : List (DataW H)), d = .slice ((List.range len).map fun r => intRow .u8 (A r) (L r) (Z r)) spare ∧ ∀ r, r < len → L r ≤ (Z r).length ∧ (bs.getD r []).length = L r ∧ (A r = none → L r = 0)) ∧ (d = .nil → len = 0) := by
  obtain ⟨fuel, hf⟩ := h
  rcases open_int_rows Tryd.underlying31 Tryd.underlying22 Tryd.underlying5 (by kernel_rfl) (by kernel_rfl) hf with ⟨hcs, hx⟩ | ⟨x, l, c, A, L, C, Z, hcs, _, hl, hm, hx, hcell⟩
  · simp [Value.cells] at hcs
    obtain ⟨rfl, rfl, rfl⟩ := hcs
    exact ⟨[], ⟨rfl, Nat.le_refl _, by omega, .inl rfl⟩, by omega, .inl (by cases hx; rfl), fun _ => rfl⟩
  · simp [Value.cells] at hcs
    obtain ⟨rfl, rfl, rfl⟩ := hcs
    have hgd : ∀ r, r < len → ((List.range len).map fun r => asBytes ((Z r).take (L r))).getD r [] = asBytes ((Z r).take (L r)) := fun r hr => by simp [List.getD, hr]
    refine ⟨(List.range len).map fun r => asBytes ((Z r).take (L r)), ⟨by simp, hl, by unfold maxLen at hm; omega, ?_⟩, hm, .inr ⟨A, L, Z, _, by cases hx; rfl, fun r hr => ?_⟩, fun h => by cases hx; cases h⟩
    · by_cases hc : cap = 0
      · exact .inl hc
      · right
        obtain ⟨b, off, spot⟩ := x
        have h0 := (hcell 0 (by omega)).1
        have hspot : spot = none := by simpa [Addr.add] using World.cell?_spot h0
        subst hspot
        refine ⟨b, off, rfl, fun i hi => ?_⟩
        obtain ⟨h1, h2, h3, h4, h5, h6, h7⟩ := hcell i (by omega)
        rw [addr_add] at h1
        refine ⟨A i, L i, C i, h1, ?_⟩
        rw [hgd i hi]
        refine ⟨by simp [asBytes]; omega, h2, by unfold maxLen at h3; omega, ?_⟩
        by_cases hc0 : C i = 0
        · exact .inl hc0
        · right
          cases hA : A i with
          | none => exact absurd (h6 hA) hc0
          | some a' =>
            obtain ⟨b', off', spot'⟩ := a'
            have h8 := (h7 _ hA).2
            have hs0 := h8 0 (by omega)
            have hspot : spot' = none := by simpa [Addr.add] using World.cell?_spot hs0
            subst hspot
            refine ⟨b', off', rfl, fun j hj => ?_⟩
            rw [asBytes_by8 (Z i) h5 (L i) j hj (by omega), ← addr_add]
            exact h8 j (by omega)
    · obtain ⟨h1, h2, h3, h4, h5, h6, h7⟩ := hcell r (by omega)
      exact ⟨by omega, by rw [hgd r hr]; simp [asBytes]; omega, fun hA => by have := h6 hA; omega⟩
end Go.Proofs.YticcmhgahbnboaaDoor
