/-
  Lists of cells that came in.
-/
import Derived.Test.YtkjpmdpljdgcjaaYC
namespace Go.Proofs.Ytkjpmdpljdgcjaa
open Go.RowKit Go Go.Sort Go.Deep
set_option linter.unusedVariables false
set_option maxRecDepth 20000

theorem choose_at {α : Type} {n : Nat} {p : Nat → α → Prop} (h : ∀ i, i < n → ∃ q, p i q) : ∃ V : Nat → Option α, ∀ i, i < n → ∃ q, V i = some q ∧ p i q := by
  induction n with
  | zero => exact ⟨fun _ => none, fun i hi => by omega⟩
  | succ n ih =>
    obtain ⟨V, hV⟩ := ih fun i hi => h i (by omega)
    obtain ⟨q, hq⟩ := h n (by omega)
    refine ⟨fun i => if i = n then some q else V i, fun i hi => ?_⟩
    by_cases e : i = n
    · subst e; exact ⟨q, by simp, hq⟩
    · simp only [if_neg e]; exact hV i (by omega)
/-- A list of cells that came in. -/
theorem open_cls {H : Type} {enc : TypeId × Value → H} {W : World} {a : Option Addr} {len cap : Nat} {d : DataW H} {p : List MemPlace} (h : DataW.Trod enc Try.prog W 0 (fun _ => true) true 28 (.slice a len cap) d p) :
    ∃ l, Cls W a len cap l ∧ ∀ c ∈ l, c.t.length ≤ 9223372036854775807 := by
  have hc : Try.prog.cellsOf 27 = 8 := by kernel_rfl
  obtain ⟨fuel, hf⟩ := h
  rcases open_slice Try.underlying28 hf with ⟨hcs, hx⟩ | ⟨x, l, c, m, n, D, Pl, hcs, _, hl, hm, hmm, hx, hcell⟩
  · simp [Value.cells] at hcs
    obtain ⟨rfl, rfl, rfl⟩ := hcs
    exact ⟨[], ⟨rfl, Nat.le_refl _, by omega, .inl rfl⟩, by simp⟩
  · simp [Value.cells] at hcs
    obtain ⟨rfl, rfl, rfl⟩ := hcs
    simp only [if_true] at hmm
    subst hmm
    rw [hc] at hcell
    have key : ∀ i, i < m → ∃ q : Cl, (∀ j u, q.arr[j]? = some u → W.cell? ((x.add (i * 8)).add j) = some u) ∧ q.t.length ≤ 9223372036854775807 := by
      intro i hi
      obtain ⟨cs', h1, h2⟩ := hcell i hi
      obtain ⟨_, h3l, h3⟩ := World.cells?_some h1
      obtain ⟨n', s', a', b', g', t', d', e', rfl, _, _, _, _, ht, _, _⟩ := cell_cells (sp := true) h2
      refine ⟨⟨n', s', a', b', g', t', d', e'⟩, fun j u hj => ?_, by unfold maxLen at ht; exact ht⟩
      have hjl : j < 8 := by
        have := (Array.getElem?_eq_some_iff.1 hj).1
        simpa [Cl.arr] using this
      have h4 := h3 j hjl
      rw [h4]
      rw [← hj]
      simp [Cl.arr]
    obtain ⟨V0, hV0⟩ := choose_at key
    obtain ⟨V, hV⟩ : ∃ V : Nat → Cl, ∀ i, i < m → ((∀ j u, (V i).arr[j]? = some u → W.cell? ((x.add (i * 8)).add j) = some u) ∧ (V i).t.length ≤ 9223372036854775807) := by
      refine ⟨fun i => (V0 i).getD Cl.zero, fun i hi => ?_⟩
      obtain ⟨q, hq, hp⟩ := hV0 i hi
      simp only [hq, Option.getD_some]
      exact hp
    have hgd : ∀ i, i < len → ((List.range len).map V).getD i Cl.zero = V i := fun i hi => by simp [List.getD, hi]
    refine ⟨(List.range len).map V, ⟨by simp, hl, by unfold maxLen at hm; omega, ?_⟩, ?_⟩
    · by_cases hz : m = 0
      · exact .inl hz
      · right
        obtain ⟨b, off, spot⟩ := x
        have h0 := (hV 0 (by omega)).1 0 _ rfl
        have hspot : spot = none := by simpa [Addr.add] using World.cell?_spot h0
        subst hspot
        refine ⟨b, off, rfl, fun i hi => ?_⟩
        rw [hgd i hi]
        have hq := (hV i (by omega)).1
        have e1 : (⟨b, off, none⟩ : Addr).add (i * 8) = ⟨b, off + i * 8, none⟩ := by
          by_cases h0 : i * 8 = 0
          · rw [h0]; rfl
          · simp [Addr.add, h0]
        rw [e1] at hq
        exact ⟨hq 0 _ rfl, hq 1 _ rfl, hq 2 _ rfl, hq 3 _ rfl, hq 4 _ rfl, hq 5 _ rfl, hq 6 _ rfl, hq 7 _ rfl⟩
    · intro g hg
      obtain ⟨i, hi, rfl⟩ := List.mem_map.1 hg
      exact (hV i (by have := List.mem_range.1 hi; omega)).2
end Go.Proofs.Ytkjpmdpljdgcjaa
