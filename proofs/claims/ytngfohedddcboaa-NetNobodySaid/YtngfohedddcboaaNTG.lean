/-
  Net: acts that came in, opened.
-/
import Derived.Test.YtngfohedddcboaaNTE
import Derived.Test.YtngfohedddcboaaBO
import Derived.Deep.Slices
namespace Go.Proofs.Ytngfohedddcboaa
open Go.RowKit Go Go.Sort Go.Deep
set_option linter.unusedVariables false
set_option maxRecDepth 20000

theorem trod_nact {H : Type} {enc : TypeId × Value → H} {W : World} {fuel : Nat} {cs : List Value} {x : DataW H × List MemPlace} (h : DataW.trod enc Try.prog W 0 (fun _ => true) true fuel 31 cs = some x) :
    ∃ (q : Na) (a : Option Addr) (cap : Nat), cs = q.arr.toList ∧ q.v = .slice a q.l.length cap ∧ Bys W a q.l.length cap q.l ∧ 0 ≤ q.z ∧ q.z ≤ 255 := by
  obtain ⟨xs, m, _, rfl, hl, hlen, hf⟩ := DataW.trod_struct Try.underlying31 h
  have h6 : Try.prog.cellsOf 31 = 6 := by kernel_rfl
  have h3 : Try.prog.cellsOf 3 = 1 := by kernel_rfl
  have h5 : Try.prog.cellsOf 5 = 1 := by kernel_rfl
  have h2 : Try.prog.cellsOf 29 = 1 := by kernel_rfl
  rw [h6] at hl
  match xs, hlen with
  | [y0, y1, y2, y3, y4, y5], _ =>
    have i0 := hf 0 _ rfl
    have i1 := hf 1 _ rfl
    have i2 := hf 2 _ rfl
    have i3 := hf 3 _ rfl
    have i4 := hf 4 _ rfl
    have i5 := hf 5 _ rfl
    match cs, hl with
    | [c0, c1, c2, c3, c4, c5], _ =>
      have j0 : DataW.trod enc Try.prog W 0 (fun _ => true) true m 3 (([c0, c1, c2, c3, c4, c5].drop 0).take (Try.prog.cellsOf 3)) = some y0 := i0
      have j1 : DataW.trod enc Try.prog W 0 (fun _ => true) true m 3 (([c0, c1, c2, c3, c4, c5].drop 1).take (Try.prog.cellsOf 3)) = some y1 := i1
      have j2 : DataW.trod enc Try.prog W 0 (fun _ => true) true m 29 (([c0, c1, c2, c3, c4, c5].drop 2).take (Try.prog.cellsOf 29)) = some y2 := i2
      have j3 : DataW.trod enc Try.prog W 0 (fun _ => true) true m 3 (([c0, c1, c2, c3, c4, c5].drop 3).take (Try.prog.cellsOf 3)) = some y3 := i3
      have j4 : DataW.trod enc Try.prog W 0 (fun _ => true) true m 3 (([c0, c1, c2, c3, c4, c5].drop 4).take (Try.prog.cellsOf 3)) = some y4 := i4
      have j5 : DataW.trod enc Try.prog W 0 (fun _ => true) true m 5 (([c0, c1, c2, c3, c4, c5].drop 5).take (Try.prog.cellsOf 5)) = some y5 := i5
      rw [h3] at j0 j1 j3 j4
      rw [h5] at j5
      rw [h2] at j2
      obtain ⟨kd, e0, -⟩ := DataW.trod_int Try.underlying3 j0
      obtain ⟨fr, e1, -⟩ := DataW.trod_int Try.underlying3 j1
      obtain ⟨ii, e3, -⟩ := DataW.trod_int Try.underlying3 j3
      obtain ⟨aa, e4, -⟩ := DataW.trod_int Try.underlying3 j4
      obtain ⟨zz, e5, _, hz⟩ := DataW.trod_int Try.underlying5 j5
      have hv : ∃ a len cap, c2 = .slice a len cap := by
        rcases open_slice Try.underlying29 j2 with ⟨hcs, hx⟩ | ⟨x, l, c, m, n, D, Pl, hcs, _⟩
        · simp at hcs; exact ⟨_, _, _, hcs⟩
        · simp at hcs; exact ⟨_, _, _, hcs⟩
      obtain ⟨a, len, cap, rfl⟩ := hv
      obtain ⟨l, hb⟩ := bys_of_open (d := y2.1) (p := y2.2) (W := W) (enc := enc) (a := a) (len := len) (cap := cap) ⟨m, j2⟩
      simp at e0 e1 e3 e4 e5
      subst e0 e1 e3 e4 e5
      obtain rfl := hb.len
      have hz2 : 0 ≤ zz ∧ zz ≤ 255 := by simpa [Lit.wf, IntKind.min, IntKind.max, IntKind.signed, IntKind.bits] using hz
      exact ⟨⟨kd, fr, .slice a l.length cap, l, ii, aa, zz⟩, a, cap, rfl, rfl, hb, hz2⟩
theorem open_nact {H : Type} {enc : TypeId × Value → H} {W : World} {base : Nat} {v : Value} {x : DataW H} {p : List MemPlace} (hv : Value.okWide Try.prog W .any base 31 v)
    (h : DataW.Trod enc Try.prog W 0 (fun _ => true) true 31 v x p) : ∃ (q : Na) (a : Option Addr) (cap : Nat), v = .agg #[.int .i64 q.kd, .int .i64 q.frm, .slice a q.l.length cap, .int .i64 q.i, .int .i64 q.at9, .int .u8 q.z] := by
  simp only [Value.okWide, Try.underlying31] at hv
  obtain ⟨cs, rfl, hs, _⟩ := hv
  obtain ⟨m, hm⟩ := h
  obtain ⟨q, a, cap, hc, hu, -⟩ := trod_nact hm
  refine ⟨q, a, cap, ?_⟩
  congr 1
  apply Array.toList_inj.1
  refine Eq.trans (show cs.toList = q.arr.toList from hc) ?_
  unfold Na.arr
  rw [hu]
theorem open_nacts {H : Type} {enc : TypeId × Value → H} {W : World} {a : Option Addr} {len cap : Nat} {d : DataW H} {p : List MemPlace} (h : DataW.Trod enc Try.prog W 0 (fun _ => true) true 22 (.slice a len cap) d p) :
    ∃ l, Nas W a len cap l := by
  have hc : Try.prog.cellsOf 31 = 6 := by kernel_rfl
  obtain ⟨fuel, hf⟩ := h
  rcases open_slice Try.underlying22 hf with ⟨hcs, hx⟩ | ⟨x, l, c, m, n, D, Pl, hcs, _, hl, hm, hmm, hx, hcell⟩
  · simp [Value.cells] at hcs
    obtain ⟨rfl, rfl, rfl⟩ := hcs
    exact ⟨[], ⟨rfl, Nat.le_refl _, by omega, .inl rfl, fun j hj => by omega⟩⟩
  · simp [Value.cells] at hcs
    obtain ⟨rfl, rfl, rfl⟩ := hcs
    simp only [if_true] at hmm
    subst hmm
    rw [hc] at hcell
    have key : ∀ i, i < m → ∃ q : Na, (∀ j u, q.arr[j]? = some u → W.cell? ((x.add (i * 6)).add j) = some u) ∧ (∃ a' c, q.v = .slice a' q.l.length c ∧ Bys W a' q.l.length c q.l ∧ 0 ≤ q.z ∧ q.z ≤ 255) := by
      intro i hi
      obtain ⟨cs', h1, h2⟩ := hcell i hi
      obtain ⟨_, h3l, h3⟩ := World.cells?_some h1
      obtain ⟨q, ad, cap', rfl, hu, hw, hz0, hz1⟩ := trod_nact h2
      refine ⟨q, fun j u hj => ?_, ad, cap', hu, hw, hz0, hz1⟩
      have hjl : j < 6 := by
        have := (Array.getElem?_eq_some_iff.1 hj).1
        rwa [na_size] at this
      have h4 := h3 j hjl
      rw [h4]
      rw [← hj]
      simp
    haveI : Inhabited Na := ⟨Na.zero⟩
    obtain ⟨V, hV⟩ := choose_lt (α := Na) (p := fun i (q : Na) => (∀ j u, q.arr[j]? = some u → W.cell? ((x.add (i * 6)).add j) = some u) ∧ (∃ a' c, q.v = .slice a' q.l.length c ∧ Bys W a' q.l.length c q.l ∧ 0 ≤ q.z ∧ q.z ≤ 255)) key
    have hgd : ∀ i, i < len → ((List.range len).map V).getD i Na.zero = V i := fun i hi => by simp [List.getD, hi]
    refine ⟨(List.range len).map V, ⟨by simp, hl, by unfold maxLen at hm; omega, ?_, ?_⟩⟩
    · by_cases hz : m = 0
      · exact .inl hz
      · right
        obtain ⟨b, off, spot⟩ := x
        have h0 := (hV 0 (by omega)).1 0 _ rfl
        have hspot : spot = none := by simpa [Addr.add] using World.cell?_spot h0
        subst hspot
        refine ⟨b, off, rfl, fun i hi j u hj => ?_⟩
        rw [hgd i hi] at hj
        have hq := (hV i (by omega)).1
        have e1 : (⟨b, off, none⟩ : Addr).add (i * 6) = ⟨b, off + i * 6, none⟩ := by
          by_cases h0 : i * 6 = 0
          · rw [h0]; rfl
          · simp [Addr.add, h0]
        rw [e1] at hq
        have e2 : (⟨b, off + i * 6, none⟩ : Addr).add j = ⟨b, off + i * 6 + j, none⟩ := by
          by_cases h0 : j = 0
          · subst h0; rfl
          · simp [Addr.add, h0]
        have h5 := hq j u hj
        rw [e2] at h5
        exact h5
    · intro i hi
      have h9 := (hV i (by omega)).2
      rwa [hgd i hi]
end Go.Proofs.Ytngfohedddcboaa
