/-
  What came in of a plain seat of join: three cells of a struct, lists of counts, how long lists are.
-/
import Derived.Test.YtkjpmdpljdgcjaaYP
import Derived.SizedLaws
namespace Go.Proofs.Ytkjpmdpljdgcjaa
open Go.RowKit Go Go.Sort Go.Deep
set_option linter.unusedVariables false
set_option maxRecDepth 20000

theorem slice_d {H : Type} {enc : TypeId × Value → H} {W : World} {t e : TypeId} {a : Option Addr} {len cap : Nat} {d : DataW H} {p : List MemPlace} (ht : Try.prog.underlying t = some (.slice e)) (h : DataW.Trod enc Try.prog W 0 (fun _ => true) true t (.slice a len cap) d p) :
    len = 0 ∨ ∃ es sp, d = .slice es sp ∧ es.length = len := by
  obtain ⟨fuel, hf⟩ := h
  rcases open_slice ht hf with ⟨hcs, hx⟩ | ⟨x, l, c, m, n, D, Pl, hcs, _, hl, hm, hmm, hx, hcell⟩
  · simp [Value.cells] at hcs
    exact .inl hcs.2.1
  · simp [Value.cells] at hcs
    obtain ⟨rfl, rfl, rfl⟩ := hcs
    injection hx with h1 h2
    exact .inr ⟨_, _, h1, by simp⟩
theorem three_cells {H : Type} {enc : TypeId × Value → H} {W : World} {base : Nat} {sp held : Bool} {fuel : Nat} {cs : List Value} {x : DataW H × List MemPlace} (h : DataW.trod enc Try.prog W base (fun _ => sp) held fuel 39 cs = some x) :
    ∃ A B C : Cl, cs = A.arr.toList ++ B.arr.toList ++ C.arr.toList ∧ A.t.length ≤ maxLen ∧ B.t.length ≤ maxLen ∧ C.t.length ≤ maxLen := by
  obtain ⟨xs, m, _, rfl, hl, hlen, hf⟩ := DataW.trod_struct Try.underlying39 h
  have h24 : Try.prog.cellsOf 39 = 24 := by kernel_rfl
  have h8 : Try.prog.cellsOf 27 = 8 := by kernel_rfl
  rw [h24] at hl
  match xs, hlen with
  | [y0, y1, y2], _ =>
    have i0 := hf 0 _ rfl
    have i1 := hf 1 _ rfl
    have i2 := hf 2 _ rfl
    have j0 : DataW.trod enc Try.prog W base (fun _ => sp) held m 27 ((cs.drop 0).take (Try.prog.cellsOf 27)) = some y0 := i0
    have j1 : DataW.trod enc Try.prog W base (fun _ => sp) held m 27 ((cs.drop 8).take (Try.prog.cellsOf 27)) = some y1 := i1
    have j2 : DataW.trod enc Try.prog W base (fun _ => sp) held m 27 ((cs.drop 16).take (Try.prog.cellsOf 27)) = some y2 := i2
    rw [h8] at j0 j1 j2
    obtain ⟨n, s, a, b, g, t, d, e, e0, _, _, _, _, w0, _, _⟩ := cell_cells (sp := sp) j0
    obtain ⟨n', s', a', b', g', t', d', e', e1, _, _, _, _, w1, _, _⟩ := cell_cells (sp := sp) j1
    obtain ⟨n'', s'', a'', b'', g'', t'', d'', e'', e2, _, _, _, _, w2, _, _⟩ := cell_cells (sp := sp) j2
    refine ⟨⟨n, s, a, b, g, t, d, e⟩, ⟨n', s', a', b', g', t', d', e'⟩, ⟨n'', s'', a'', b'', g'', t'', d'', e''⟩, ?_, w0, w1, w2⟩
    have h1 : cs = cs.take 8 ++ (cs.drop 8).take 8 ++ (cs.drop 16).take 8 := by
      have hl' : cs.length = 24 := hl
      apply List.ext_getElem?
      intro i
      by_cases c1 : i < 8
      · rw [List.append_assoc, List.getElem?_append_left (by simp; omega), List.getElem?_take_of_lt c1]
      · by_cases c2 : i < 16
        · rw [List.append_assoc, List.getElem?_append_right (by simp; omega), List.getElem?_append_left (by simp; omega), List.getElem?_take_of_lt (by simp; omega), List.getElem?_drop]
          congr 1
          simp
          omega
        · by_cases c3 : i < 24
          · rw [List.getElem?_append_right (by simp; omega), List.getElem?_take_of_lt (by simp; omega), List.getElem?_drop]
            congr 1
            simp
            omega
          · rw [List.getElem?_eq_none (by omega), List.getElem?_eq_none (by simp; omega)]
    rw [List.drop_zero] at e0
    rw [h1, e0, e1, e2]
    rfl
theorem open_three {H : Type} {enc : TypeId × Value → H} {W : World} {base : Nat} {v : Value} {x : DataW H} {p : List MemPlace} (hv : Value.okWide Try.prog W .any base 39 v)
    (h : DataW.Trod enc Try.prog W 0 (fun _ => true) true 39 v x p) : ∃ A B C : Cl, v = .agg (A.arr.toList ++ B.arr.toList ++ C.arr.toList).toArray ∧ A.t.length ≤ 9223372036854775807 ∧ B.t.length ≤ 9223372036854775807 ∧ C.t.length ≤ 9223372036854775807 := by
  simp only [Value.okWide, Try.underlying39] at hv
  obtain ⟨cs, rfl, hs, _⟩ := hv
  obtain ⟨m, hm⟩ := h
  obtain ⟨A, B, C, hc, h1, h2, h3⟩ := three_cells (sp := true) hm
  refine ⟨A, B, C, ?_, by unfold maxLen at h1; exact h1, by unfold maxLen at h2; exact h2, by unfold maxLen at h3; exact h3⟩
  congr 1
  apply Array.toList_inj.1
  rw [List.toList_toArray]
  exact hc
/-- A list of pairs that came in. -/
theorem open_prs {H : Type} {enc : TypeId × Value → H} {W : World} {t e : TypeId} (ht : Try.prog.underlying t = some (.slice e)) (hc : Try.prog.cellsOf e = 2)
    (hp : ∀ {fuel : Nat} {cs : List Value} {x : DataW H × List MemPlace}, DataW.trod enc Try.prog W 0 (fun _ => true) true fuel e cs = some x → ∃ a b, cs = [.int .i64 a, .int .i64 b] ∧ IsI64 a ∧ IsI64 b)
    {a : Option Addr} {len cap : Nat} {d : DataW H} {p : List MemPlace} (h : DataW.Trod enc Try.prog W 0 (fun _ => true) true t (.slice a len cap) d p) :
    ∃ l, Prs W a len cap l ∧ ∀ i, i < len → IsI64 (l.getD i (0, 0)).1 ∧ IsI64 (l.getD i (0, 0)).2 := by
  obtain ⟨fuel, hf⟩ := h
  rcases open_slice ht hf with ⟨hcs, hx⟩ | ⟨x, l, c, m, n, D, Pl, hcs, _, hl, hm, hmm, hx, hcell⟩
  · simp [Value.cells] at hcs
    obtain ⟨rfl, rfl, rfl⟩ := hcs
    exact ⟨[], ⟨rfl, Nat.le_refl _, by omega, .inl rfl⟩, fun i hi => by omega⟩
  · simp [Value.cells] at hcs
    obtain ⟨rfl, rfl, rfl⟩ := hcs
    simp only [if_true] at hmm
    subst hmm
    rw [hc] at hcell
    have key : ∀ i, i < m → ∃ q : Int × Int, W.cell? (x.add (i * 2)) = some (.int .i64 q.1) ∧ W.cell? ((x.add (i * 2)).add 1) = some (.int .i64 q.2) ∧ IsI64 q.1 ∧ IsI64 q.2 := by
      intro i hi
      obtain ⟨cs', h1, h2⟩ := hcell i hi
      obtain ⟨_, _, h3⟩ := World.cells?_some h1
      obtain ⟨u, v, rfl, hu, hv⟩ := hp h2
      have k0 := h3 0 (by omega)
      have k1 := h3 1 (by omega)
      refine ⟨(u, v), ?_, ?_, hu, hv⟩
      · simpa [Addr.add] using k0
      · simpa using k1
    obtain ⟨V, hV⟩ := choose_lt (α := Int × Int) (p := fun i q => W.cell? (x.add (i * 2)) = some (.int .i64 q.1) ∧ W.cell? ((x.add (i * 2)).add 1) = some (.int .i64 q.2) ∧ IsI64 q.1 ∧ IsI64 q.2) key
    have hgd : ∀ i, i < len → ((List.range len).map V).getD i (0, 0) = V i := fun i hi => by simp [List.getD, hi]
    refine ⟨(List.range len).map V, ⟨by simp, hl, by unfold maxLen at hm; omega, ?_⟩, fun i hi => by rw [hgd i hi]; exact (hV i (by omega)).2.2⟩
    by_cases hz : m = 0
    · exact .inl hz
    · right
      obtain ⟨b, off, spot⟩ := x
      have h0 := (hV 0 (by omega)).1
      have hspot : spot = none := by simpa [Addr.add] using World.cell?_spot h0
      subst hspot
      refine ⟨b, off, rfl, fun i hi => ?_⟩
      rw [hgd i hi]
      obtain ⟨q1, q2, _⟩ := hV i (by omega)
      have e1 : (⟨b, off, none⟩ : Addr).add (i * 2) = ⟨b, off + i * 2, none⟩ := by
        by_cases h0 : i * 2 = 0
        · rw [h0]; rfl
        · simp [Addr.add, h0]
      rw [e1] at q1 q2
      exact ⟨q1, q2⟩
end Go.Proofs.Ytkjpmdpljdgcjaa
