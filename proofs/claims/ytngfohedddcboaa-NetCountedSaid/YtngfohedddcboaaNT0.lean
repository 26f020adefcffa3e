/-
  Rows of a call's own: kept, and told of a lower base (what E0 wants of YO).
-/
import Derived.Test.YtngfohedddcboaaAp
import Derived.Test.YtngfohedddcboaaV0
import Derived.Test.YtngfohedddcboaaDT
import Derived.Deep.DeepAppendWide
namespace Go.Proofs.Ytngfohedddcboaa
open Go.RowKit Go
set_option linter.unusedVariables false

theorem own_kept {W W' : World} {B s k : Nat} {e : TypeId} {v : Value} {xs : List Value} (h : W.ownsRow B e s v k xs) (hb : Below W.heap.size W W') : W'.ownsRow B e s v k xs := by
  refine ⟨h.1, ?_⟩
  rcases h.2 with hn | ⟨g, cap, cur, rfl, hB, hg, rest⟩
  · exact .inl hn
  · exact .inr ⟨g, cap, cur, rfl, hB, by rw [hb.block g (Array.getElem?_eq_some_iff.1 hg).1]; exact hg, rest⟩
theorem own_mono {W : World} {B B' s k : Nat} {e : TypeId} {v : Value} {xs : List Value} (h : W.ownsRow B e s v k xs) (hB : B' ≤ B) : W.ownsRow B' e s v k xs := by
  refine ⟨h.1, ?_⟩
  rcases h.2 with hn | ⟨g, cap, cur, rfl, hb, rest⟩
  · exact .inl hn
  · exact .inr ⟨g, cap, cur, rfl, by omega, rest⟩
end Go.Proofs.Ytngfohedddcboaa
