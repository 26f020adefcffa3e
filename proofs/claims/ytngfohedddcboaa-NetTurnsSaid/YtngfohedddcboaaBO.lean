/-
  Byte slices and strings that came in.
-/
import Derived.Test.YtngfohedddcboaaRd
import Derived.WideShapes
import Derived.OpenShut
import Derived.ChangeSlices
import Derived.Test.YtngfohedddcboaaRows
import Derived.WalkKit
namespace Go.Proofs.Ytngfohedddcboaa
open Go.RowKit Go Go.WideShapes Go.ChangeShapes
set_option linter.unusedVariables false

theorem bys_of_open {H : Type} {enc : TypeId × Value → H} {W : World} {a : Option Addr} {len cap : Nat} {d : DataW H} {p : List MemPlace}
    (h : DataW.Trod enc Try.prog W 0 (fun _ => true) true 29 (.slice a len cap) d p) : ∃ l, Bys W a len cap l := by
  obtain ⟨fuel, hf⟩ := h
  have hr : ∃ zs, IsRow .u8 W a len cap zs := by
    rcases open_ints Try.underlying29 Try.underlying5 (by kernel_rfl) hf with ⟨hcs, _⟩ | ⟨x, l, c, zs, hcs, _, hl, hm, hz, _, hcell, hwz⟩
    · simp [Value.cells] at hcs
      obtain ⟨rfl, rfl, rfl⟩ := hcs
      exact ⟨[], .inl ⟨rfl, rfl, rfl, rfl⟩⟩
    · simp [Value.cells] at hcs
      obtain ⟨rfl, rfl, rfl⟩ := hcs
      exact ⟨zs, .inr ⟨_, rfl, hl, hm, by simpa using hz, hcell, hwz⟩⟩
  obtain ⟨zs, hr⟩ := hr
  exact hr.bys
end Go.Proofs.Ytngfohedddcboaa
