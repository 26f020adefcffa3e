/-
  Disk: acts that came in, opened.
-/
import Derived.Test.YtplanmiggeghfaaDM
import Derived.Test.YtplanmiggeghfaaBO
import Derived.Deep.Slices
namespace Go.Proofs.Ytplanmiggeghfaa
open Go.RowKit Go Go.Sort Go.Deep
set_option linter.unusedVariables false
set_option maxRecDepth 20000

theorem trod_dact {H : Type} {enc : TypeId × Value → H} {W : World} {fuel : Nat} {cs : List Value} {x : DataW H × List MemPlace} (h : DataW.trod enc Try.prog W 0 (fun _ => true) true fuel 32 cs = some x) :
    ∃ (q : Dc) (a : Option Addr) (cap : Nat), cs = q.arr.toList ∧ q.v = .slice a q.l.length cap ∧ q.nm.length ≤ 9223372036854775807 ∧ Bys W a q.l.length cap q.l ∧ (-9223372036854775808 ≤ q.n ∧ q.n ≤ 9223372036854775807) := by
  obtain ⟨xs, m, _, rfl, hl, hlen, hf⟩ := DataW.trod_struct Try.underlying32 h
  have h5 : Try.prog.cellsOf 32 = 5 := by kernel_rfl
  have h9 : Try.prog.cellsOf 9 = 1 := by kernel_rfl
  have h3 : Try.prog.cellsOf 3 = 1 := by kernel_rfl
  have h2 : Try.prog.cellsOf 30 = 1 := by kernel_rfl
  rw [h5] at hl
  match xs, hlen with
  | [y0, y1, y2, y3, y4], _ =>
    have i0 := hf 0 _ rfl
    have i1 := hf 1 _ rfl
    have i2 := hf 2 _ rfl
    have i3 := hf 3 _ rfl
    have i4 := hf 4 _ rfl
    match cs, hl with
    | [c0, c1, c2, c3, c4], _ =>
      have j0 : DataW.trod enc Try.prog W 0 (fun _ => true) true m 3 (([c0, c1, c2, c3, c4].drop 0).take (Try.prog.cellsOf 3)) = some y0 := i0
      have j1 : DataW.trod enc Try.prog W 0 (fun _ => true) true m 9 (([c0, c1, c2, c3, c4].drop 1).take (Try.prog.cellsOf 9)) = some y1 := i1
      have j2 : DataW.trod enc Try.prog W 0 (fun _ => true) true m 30 (([c0, c1, c2, c3, c4].drop 2).take (Try.prog.cellsOf 30)) = some y2 := i2
      have j3 : DataW.trod enc Try.prog W 0 (fun _ => true) true m 3 (([c0, c1, c2, c3, c4].drop 3).take (Try.prog.cellsOf 3)) = some y3 := i3
      have j4 : DataW.trod enc Try.prog W 0 (fun _ => true) true m 3 (([c0, c1, c2, c3, c4].drop 4).take (Try.prog.cellsOf 3)) = some y4 := i4
      rw [h3] at j0 j3 j4
      rw [h9] at j1
      rw [h2] at j2
      obtain ⟨kd, e0, -⟩ := DataW.trod_int Try.underlying3 j0
      obtain ⟨s, e1, _, w1⟩ := DataW.trod_string Try.underlying9 j1
      obtain ⟨n, e3, _, hn⟩ := DataW.trod_int Try.underlying3 j3
      obtain ⟨kp, e4, -⟩ := DataW.trod_int Try.underlying3 j4
      have hv : ∃ a len cap, c2 = .slice a len cap := by
        rcases open_slice Try.underlying30 j2 with ⟨hcs, hx⟩ | ⟨x, l, c, m, n, D, Pl, hcs, _⟩
        · simp at hcs; exact ⟨_, _, _, hcs⟩
        · simp at hcs; exact ⟨_, _, _, hcs⟩
      obtain ⟨a, len, cap, rfl⟩ := hv
      obtain ⟨l, hb⟩ := bys_of_open (d := y2.1) (p := y2.2) (W := W) (enc := enc) (a := a) (len := len) (cap := cap) ⟨m, j2⟩
      simp at e0 e1 e3 e4
      subst e0 e1 e3 e4
      obtain rfl := hb.len
      exact ⟨⟨kd, s.data.toList, .slice a l.length cap, l, n, kp⟩, a, cap, rfl, rfl, (by
        have hw2 : s.data.toList.length ≤ maxLen := by simpa using w1
        unfold maxLen at hw2
        exact hw2), hb, by simpa [Lit.wf, IntKind.min, IntKind.max, IntKind.signed, IntKind.bits] using hn⟩
theorem open_dact {H : Type} {enc : TypeId × Value → H} {W : World} {base : Nat} {v : Value} {x : DataW H} {p : List MemPlace} (hv : Value.okWide Try.prog W .any base 32 v)
    (h : DataW.Trod enc Try.prog W 0 (fun _ => true) true 32 v x p) : ∃ (q : Dc) (a : Option Addr) (cap : Nat), v = .agg #[.int .i64 q.kd, .string (text q.nm), .slice a q.l.length cap, .int .i64 q.n, .int .i64 q.kp] := by
  simp only [Value.okWide, Try.underlying32] at hv
  obtain ⟨cs, rfl, hs, _⟩ := hv
  obtain ⟨m, hm⟩ := h
  obtain ⟨q, a, cap, hc, hu, -, -, -⟩ := trod_dact hm
  refine ⟨q, a, cap, ?_⟩
  congr 1
  apply Array.toList_inj.1
  refine Eq.trans (show cs.toList = q.arr.toList from hc) ?_
  unfold Dc.arr
  rw [hu]
/-- Acts that lie in memory, each with its bytes. -/
structure Dcs (w : World) (a : Option Addr) (n cap : Nat) (L : List Dc) : Prop where
  len : L.length = n
  le : n ≤ cap
  max : cap ≤ 9223372036854775807
  adr : cap = 0 ∨ ∃ b off, a = some ⟨b, off, none⟩ ∧ ∀ i, i < n → ∀ j u, (L.getD i Dc.zero).arr[j]? = some u → w.cell? ⟨b, off + i * 5 + j, none⟩ = some u
  dat : ∀ i, i < n → ∃ x c, (L.getD i Dc.zero).v = .slice x (L.getD i Dc.zero).l.length c ∧ Bys w x (L.getD i Dc.zero).l.length c (L.getD i Dc.zero).l ∧ (L.getD i Dc.zero).nm.length ≤ 9223372036854775807 ∧ (-9223372036854775808 ≤ (L.getD i Dc.zero).n ∧ (L.getD i Dc.zero).n ≤ 9223372036854775807)
theorem Dcs.below {w w' : World} {a : Option Addr} {n cap : Nat} {L : List Dc} (h : Dcs w a n cap L) (hb : Below w.heap.size w w') : Dcs w' a n cap L := by
  refine ⟨h.len, h.le, h.max, ?_, fun i hi => by obtain ⟨x, c, e, hy, hr⟩ := h.dat i hi; exact ⟨x, c, e, hy.below hb, hr⟩⟩
  rcases h.adr with h4 | ⟨b, off, rfl, hc⟩
  · exact .inl h4
  · exact .inr ⟨b, off, rfl, fun i hi j u hj => (hb.cell (World.block_lt_of_cell? w _ (hc i hi j u hj))).trans (hc i hi j u hj)⟩
theorem open_dacts {H : Type} {enc : TypeId × Value → H} {W : World} {a : Option Addr} {len cap : Nat} {d : DataW H} {p : List MemPlace} (h : DataW.Trod enc Try.prog W 0 (fun _ => true) true 22 (.slice a len cap) d p) :
    ∃ l, Dcs W a len cap l := by
  have hc : Try.prog.cellsOf 32 = 5 := by kernel_rfl
  obtain ⟨fuel, hf⟩ := h
  rcases open_slice Try.underlying22 hf with ⟨hcs, hx⟩ | ⟨x, l, c, m, n, D, Pl, hcs, _, hl, hm, hmm, hx, hcell⟩
  · simp [Value.cells] at hcs
    obtain ⟨rfl, rfl, rfl⟩ := hcs
    exact ⟨[], ⟨rfl, Nat.le_refl _, by omega, .inl rfl, fun j hj => by omega⟩⟩
  · simp [Value.cells] at hcs
    obtain ⟨rfl, rfl, rfl⟩ := hcs
    simp only [if_true] at hmm
    subst hmm
    rw [hc] at hcell
    have key : ∀ i, i < m → ∃ q : Dc, (∀ j u, q.arr[j]? = some u → W.cell? ((x.add (i * 5)).add j) = some u) ∧ (∃ a' c, q.v = .slice a' q.l.length c ∧ Bys W a' q.l.length c q.l ∧ q.nm.length ≤ 9223372036854775807 ∧ (-9223372036854775808 ≤ q.n ∧ q.n ≤ 9223372036854775807)) := by
      intro i hi
      obtain ⟨cs', h1, h2⟩ := hcell i hi
      obtain ⟨_, h3l, h3⟩ := World.cells?_some h1
      obtain ⟨q, ad, cap', rfl, hu, hk, hw, hnn⟩ := trod_dact h2
      refine ⟨q, fun j u hj => ?_, ad, cap', hu, hw, hk, hnn⟩
      have hjl : j < 5 := by
        have := (Array.getElem?_eq_some_iff.1 hj).1
        rwa [dc_size] at this
      have h4 := h3 j hjl
      rw [h4]
      rw [← hj]
      simp
    haveI : Inhabited Dc := ⟨Dc.zero⟩
    obtain ⟨V, hV⟩ := choose_lt (α := Dc) (p := fun i q => (∀ j u, q.arr[j]? = some u → W.cell? ((x.add (i * 5)).add j) = some u) ∧ (∃ a' c, q.v = .slice a' q.l.length c ∧ Bys W a' q.l.length c q.l ∧ q.nm.length ≤ 9223372036854775807 ∧ (-9223372036854775808 ≤ q.n ∧ q.n ≤ 9223372036854775807))) key
    have hgd : ∀ i, i < len → ((List.range len).map V).getD i Dc.zero = V i := fun i hi => by simp [List.getD, hi]
    refine ⟨(List.range len).map V, ⟨by simp, hl, by unfold maxLen at hm; omega, ?_, ?_⟩⟩
    · by_cases hz : m = 0
      · exact .inl hz
      · right
        obtain ⟨b, off, spot⟩ := x
        have h0 := (hV 0 (by omega)).1 0 _ rfl
        have hspot : spot = none := by simpa [Addr.add] using World.cell?_spot h0
        subst hspot
        refine ⟨b, off, rfl, fun i hi j u hj => ?_⟩
        rw [hgd i hi] at hj
        have hq := (hV i (by omega)).1
        have e1 : (⟨b, off, none⟩ : Addr).add (i * 5) = ⟨b, off + i * 5, none⟩ := by
          by_cases h0 : i * 5 = 0
          · rw [h0]; rfl
          · simp [Addr.add, h0]
        rw [e1] at hq
        have e2 : (⟨b, off + i * 5, none⟩ : Addr).add j = ⟨b, off + i * 5 + j, none⟩ := by
          by_cases h0 : j = 0
          · subst h0; rfl
          · simp [Addr.add, h0]
        have h5 := hq j u hj
        rw [e2] at h5
        exact h5
    · intro i hi
      have h9 := (hV i (by omega)).2
      rwa [hgd i hi]
end Go.Proofs.Ytplanmiggeghfaa
