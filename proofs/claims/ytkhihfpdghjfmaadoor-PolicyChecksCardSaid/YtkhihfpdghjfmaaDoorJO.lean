/-
  Groups that came in, in lists.
-/
import Derived.Test.YtkhihfpdghjfmaaDoorQ0
import Derived.Test.YtkhihfpdghjfmaaDoorBO
import Derived.WideShapes
import Derived.ChangeSame
import Derived.OpenShut
import Derived.Deep.Slices
import Derived.ChangeArms
namespace Go.Proofs.YtkhihfpdghjfmaaDoor
open Go.RowKit Go Go.Sort Go.Deep
set_option linter.unusedVariables false
set_option maxRecDepth 20000

theorem text_of (s : ByteArray) : s = text s.data.toList := rfl
theorem grp_cells {H : Type} {enc : TypeId × Value → H} {W : World} {base : Nat} {sp held : Bool} {fuel : Nat} {cs : List Value} {x : DataW H × List MemPlace} (h : DataW.trod enc Tryd.prog W base (fun _ => sp) held fuel 54 cs = some x) :
    ∃ (s : List UInt8) (p : Int), cs = [.string (text s), .int .i64 p] ∧ s.length ≤ maxLen ∧ -9223372036854775808 ≤ p ∧ p ≤ 9223372036854775807 := by
  obtain ⟨xs, m, _, rfl, hl, hlen, hf⟩ := DataW.trod_struct Tryd.underlying54 h
  have h2 : Tryd.prog.cellsOf 54 = 2 := by kernel_rfl
  have h1 : Tryd.prog.cellsOf 3 = 1 := by kernel_rfl
  have h9 : Tryd.prog.cellsOf 9 = 1 := by kernel_rfl
  rw [h2] at hl
  match xs, hlen with
  | [y0, y1], _ =>
    have i0 := hf 0 _ rfl
    have i1 := hf 1 _ rfl
    match cs, hl with
    | [c0, c1], _ =>
      have j0 : DataW.trod enc Tryd.prog W base (fun _ => sp) held m 9 (([c0, c1].drop 0).take (Tryd.prog.cellsOf 9)) = some y0 := i0
      have j1 : DataW.trod enc Tryd.prog W base (fun _ => sp) held m 3 (([c0, c1].drop 1).take (Tryd.prog.cellsOf 3)) = some y1 := i1
      rw [h9] at j0
      rw [h1] at j1
      obtain ⟨s, hs, _, ws⟩ := DataW.trod_string Tryd.underlying9 j0
      obtain ⟨b, hb, _, wb⟩ := DataW.trod_int Tryd.underlying3 j1
      simp at hs hb
      subst hs
      subst hb
      exact ⟨s.data.toList, b, rfl, by simpa using ws, i64_of_wf wb⟩
/-- A list of groups that came in. -/
theorem open_grs {H : Type} {enc : TypeId × Value → H} {W : World} {a : Option Addr} {len cap : Nat} {d : DataW H} {p : List MemPlace} (h : DataW.Trod enc Tryd.prog W 0 (fun _ => true) true 22 (.slice a len cap) d p) :
    ∃ l, Grs W a len cap l ∧ ∀ g ∈ l, g.1.length ≤ 9223372036854775807 := by
  have hc : Tryd.prog.cellsOf 54 = 2 := by kernel_rfl
  obtain ⟨fuel, hf⟩ := h
  rcases open_slice Tryd.underlying22 hf with ⟨hcs, hx⟩ | ⟨x, l, c, m, n, D, Pl, hcs, _, hl, hm, hmm, hx, hcell⟩
  · simp [Value.cells] at hcs
    obtain ⟨rfl, rfl, rfl⟩ := hcs
    exact ⟨[], ⟨rfl, Nat.le_refl _, by omega, .inl rfl⟩, by simp⟩
  · simp [Value.cells] at hcs
    obtain ⟨rfl, rfl, rfl⟩ := hcs
    simp only [if_true] at hmm
    subst hmm
    rw [hc] at hcell
    have key : ∀ i, i < m → ∃ q : Grp, W.cell? (x.add (i * 2)) = some (.string (text q.1)) ∧ W.cell? ((x.add (i * 2)).add 1) = some (.int .i64 q.2) ∧ q.1.length ≤ 9223372036854775807 := by
      intro i hi
      obtain ⟨cs', h1, h2⟩ := hcell i hi
      obtain ⟨_, _, h3⟩ := World.cells?_some h1
      obtain ⟨u, v, rfl, hu, hv⟩ := grp_cells (sp := true) h2
      have k0 := h3 0 (by omega)
      have k1 := h3 1 (by omega)
      refine ⟨(u, v), ?_, ?_, by unfold maxLen at hu; exact hu⟩
      · simpa [Addr.add] using k0
      · simpa using k1
    obtain ⟨V, hV⟩ := choose_lt (α := Grp) (p := fun i q => W.cell? (x.add (i * 2)) = some (.string (text q.1)) ∧ W.cell? ((x.add (i * 2)).add 1) = some (.int .i64 q.2) ∧ q.1.length ≤ 9223372036854775807) key
    have hgd : ∀ i, i < len → ((List.range len).map V).getD i ([], 0) = V i := fun i hi => by simp [List.getD, hi]
    refine ⟨(List.range len).map V, ⟨by simp, hl, by unfold maxLen at hm; omega, ?_⟩, ?_⟩
    · by_cases hz : m = 0
      · exact .inl hz
      · right
        obtain ⟨b, off, spot⟩ := x
        have h0 := (hV 0 (by omega)).1
        have hspot : spot = none := by simpa [Addr.add] using World.cell?_spot h0
        subst hspot
        refine ⟨b, off, rfl, fun i hi => ?_⟩
        rw [hgd i hi]
        obtain ⟨q1, q2, _⟩ := hV i (by omega)
        have e1 : (⟨b, off, none⟩ : Addr).add (i * 2) = ⟨b, off + i * 2, none⟩ := by
          by_cases h0 : i * 2 = 0
          · rw [h0]; rfl
          · simp [Addr.add, h0]
        rw [e1] at q1 q2
        exact ⟨q1, q2⟩
    · intro g hg
      obtain ⟨i, hi, rfl⟩ := List.mem_map.1 hg
      exact (hV i (by have := List.mem_range.1 hi; omega)).2.2
end Go.Proofs.YtkhihfpdghjfmaaDoor
