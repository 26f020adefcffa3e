/-
  Merged: OM A0 OF OO OP OQ.
-/
import Derived.Deep.QuietTactic
import Derived.StillTail
import Derived.Lib.QuietBelow
import Derived.Test.YtbpgfmcnpifmdaaRows
import Derived.OrdersIn
import Derived.TacticsIn
import Derived.RangeFuncNested
import Derived.RangeFuncBound
import Derived.RangeFuncCalls
import Derived.RangeFuncLeaves
import Derived.WalkKit
import Derived.Lib.Hide
import Derived.BigQuiet
import Derived.BigRegion
import Derived.Deep.Cut
import Derived.Deep.MidRow
import Derived.Great.BuildSlice
import Derived.Outline
import Derived.OwnWalk
import Derived.Laws.Rows
import Derived.ChangeKeysEq
import Derived.Laws.StructEq
import Derived.WalkSpells
import Derived.WalkLawsBesides
import Derived.Laws.CopyOwn
import Derived.WalkSmall
import Derived.Lib.LaidTab
import Derived.Deep.RegionWith
import Derived.Lib.MinMax
import Derived.WideShapes
import Derived.ChangeSame
import Derived.OpenShut
import Derived.Deep.Slices
import Derived.Deep.AppendSrc
import Derived.Lib.AppendZerosOnto
import Derived.Lib.SliceRun
import Derived.Lib.Walk
import Derived.Lib.OthersKept
import Derived.Laws.RangeAny
import Derived.Maps.OwnOps
import Derived.Maps.Views
import Derived.ChangeSlices
import Derived.ChangeArms
import Derived.Deep.DeepAppendWide
import Derived.Maps.AppendAt
import Derived.Shelf.Abstract
import Derived.OwnWalkIn
import Derived.TacticsInMore
import Derived.LoopNIn
import Derived.LoopIn
import Derived.Shelf.Spec.SlicesInsertGrow
import Derived.Test.YtbpgfmcnpifmdaaSC3

section
namespace Go.Proofs.Ytbpgfmcnpifmdaa
open Go.RowKit
set_option linter.unusedVariables false

theorem text_size (l : List UInt8) : (text l).size = l.length := by unfold text; rfl
end Go.Proofs.Ytbpgfmcnpifmdaa
end

section
namespace Go.Proofs.Ytbpgfmcnpifmdaa
open Go.RowKit Go Go.Sort
set_option linter.unusedVariables false

section
variable {K V : Type} {lt : K → K → Bool}
theorem kasc_ext (ht : Strict lt) : ∀ {S T : List (K × V)}, KAsc lt S → KAsc lt T → (∀ z, z ∈ S ↔ z ∈ T) → S = T
  | [], [], _, _, _ => rfl
  | [], b :: m, _, _, h => by have := (h b).2 (List.mem_cons_self ..); cases this
  | a :: l, [], _, _, h => by have := (h a).1 (List.mem_cons_self ..); cases this
  | a :: l, b :: m, hl, hm, h => by
    unfold KAsc at hl hm
    rw [List.pairwise_cons] at hl hm
    have e : a = b := by
      rcases List.mem_cons.1 ((h a).1 (List.mem_cons_self ..)) with e | ha
      · exact e
      · rcases List.mem_cons.1 ((h b).2 (List.mem_cons_self ..)) with e | hb
        · exact e.symm
        · have := ht.asym (hl.1 b hb)
          rw [hm.1 a ha] at this
          cases this
    subst e
    rw [kasc_ext ht hl.2 hm.2 fun z => ⟨fun hz => ?_, fun hz => ?_⟩]
    · rcases List.mem_cons.1 ((h z).1 (List.mem_cons_of_mem _ hz)) with e | hz'
      · have := hl.1 z hz
        rw [e, ht.irr] at this
        cases this
      · exact hz'
    · rcases List.mem_cons.1 ((h z).2 (List.mem_cons_of_mem _ hz)) with e | hz'
      · have := hm.1 z hz
        rw [e, ht.irr] at this
        cases this
      · exact hz'
end
section
variable {α K : Type} {lt : K → K → Bool}
theorem sN_few [DecidableEq K] (kf : α → K) (z x : α) (O : List α) : ∀ q, (sN lt kf z x O q).1.length ≤ q + (if (sN lt kf z x O q).2 = true then 1 else 0)
  | 0 => by simp [sN]
  | q + 1 => by
    have h := sN_few kf z x O q
    show (sstep lt kf x (sN lt kf z x O q) (O.getD q z)).1.length ≤ q + 1 + (if (sstep lt kf x (sN lt kf z x O q) (O.getD q z)).2 = true then 1 else 0)
    generalize O.getD q z = o
    unfold sstep
    cases h1 : (sN lt kf z x O q).2 <;> cases h2 : lt (kf o) (kf x) <;> by_cases h3 : kf o = kf x <;> simp [h1, h3] at h ⊢ <;> omega
theorem setR_few [DecidableEq K] (kf : α → K) (z x : α) (O : List α) : (setR lt kf z x O).length ≤ O.length + 1 := by
  have h := sN_few (lt := lt) kf z x O O.length
  unfold setR
  split
  · rename_i h1; rw [if_pos h1] at h; exact h
  · rename_i h1; rw [if_neg h1] at h; simp; omega
end
section
variable {K V : Type} {lt : K → K → Bool}
end
end Go.Proofs.Ytbpgfmcnpifmdaa
end

section
namespace Go.Proofs.Ytbpgfmcnpifmdaa
open Go.RowKit Go Go.Sort
set_option linter.unusedVariables false
set_option maxRecDepth 20000

set_option maxRecDepth 100000 in
theorem mset_empty {w : World} {q n : Nat} {vb u : Value} (hh : HeadAt w q n vb) : Calls Try.prog 17 #[.pointer (some ⟨q, 0, none⟩), .agg #[.string ⟨#[]⟩, u]] w (fun e w' => e = .returned (.int .i64 2) ∧ Below w.heap.size w w') := by
  have hb := alloc_below w (.cells #[.string ⟨#[]⟩, u] 30)
  obtain ⟨m0, -, -, -⟩ := map_cells (show HeadAt _ q n vb from heap_below hh hb)
  obtain ⟨r0, r1, -⟩ := row_cells (heap_alloc_new w (.cells #[.string ⟨#[]⟩, u] 30))
  have HB := Lib.hid hb
  clear hb hh
  go_enter Try.func17, Try.ntmps17
  go_wp2_with (go_at_call 60; (with_reducible refine (smade_c m0).mono ?_); rintro e9 w9 ⟨rfl, rfl⟩)
  go_ret
  exact ⟨rfl, HB.out⟩
end Go.Proofs.Ytbpgfmcnpifmdaa
end

section
namespace Go.Proofs.Ytbpgfmcnpifmdaa
open Go.RowKit Go Go.Sort Go.Lib
set_option linter.unusedVariables false
set_option maxRecDepth 20000

/-- Where the appending of one block's copy stands. -/
def CpPh (Wb : World) (B q' : Nat) (v : Value) (LB : List Blk) (rows : List Rw) : Nat → (Nat → Value) → World → Prop
  | 0, _, W => Below Wb.heap.size Wb W
  | 1, xs, W => ∃ g c, xs 6 = .slice (some ⟨g, 0, none⟩) rows.length c ∧ Wb.heap.size ≤ g ∧ At 2 30 Rw.arr W g 0 c rows ∧ Below Wb.heap.size Wb W
  | 2, xs, W => ∃ g c gv, xs 7 = .slice (some ⟨gv, 0, none⟩) 1 1 ∧ W.heap[gv]? = some (.cells #[.slice (some ⟨g, 0, none⟩) rows.length c] 107 (0, 0)) ∧ Wb.heap.size ≤ g ∧ At 2 30 Rw.arr W g 0 c rows ∧ Below Wb.heap.size Wb W
  | 3, xs, W => ∃ g c, OwnL 1 107 Blk.arr W B (xs 8) (LB ++ [⟨g, 0, c, rows⟩]) ∧ Wb.heap.size ≤ g ∧ At 2 30 Rw.arr W g 0 c rows ∧ ∃ W0, Below Wb.heap.size Wb W0 ∧ W0.grownBy W v.ownBlock
  | _, _, W => ∃ g c v' W4, OwnL 1 107 Blk.arr W4 B v' (LB ++ [⟨g, 0, c, rows⟩]) ∧ Wb.heap.size ≤ g ∧ At 2 30 Rw.arr W4 g 0 c rows ∧ (∃ W0, Below Wb.heap.size Wb W0 ∧ W0.grownBy W4 v.ownBlock) ∧ W = W4.setCell ⟨q', 2, none⟩ v'
theorem CpPh.below {Wb W : World} {B q' : Nat} {v : Value} {LB : List Blk} {rows : List Rw} {p : Nat} {xs : Nat → Value} (hp : p ≤ 2) (h : CpPh Wb B q' v LB rows p xs W) : Below Wb.heap.size Wb W := by
  match p, hp, h with
  | 0, _, h => exact h
  | 1, _, h => obtain ⟨_, _, _, _, _, h⟩ := h; exact h
  | 2, _, h => obtain ⟨_, _, _, _, _, _, _, h⟩ := h; exact h
end Go.Proofs.Ytbpgfmcnpifmdaa
end

section
namespace Go.Proofs.Ytbpgfmcnpifmdaa
open Go.RowKit Go Go.Sort
set_option linter.unusedVariables false
set_option maxRecDepth 20000

/-- A sum that is asked about up to 20000. -/
def satA (n k : Nat) : Nat := if n + k ≤ 20000 then n + k else 20001
set_option maxHeartbeats 12000000 in
theorem radd20_c (n k : Nat) (hn : n ≤ 20001) (hk : k ≤ 9223372036854775807) (w : World) : Calls Try.prog 29 #[.int .i64 (n : Int), .int .i64 (k : Int), .int .i64 20000] w (fun e w' => e = .returned (.int .i64 ((satA n k : Nat) : Int)) ∧ w = w') := by
  obtain ⟨R, hR⟩ : ∃ R, satA n k = R := ⟨_, rfl⟩
  rw [hR]
  unfold satA at hR
  by_cases h1 : 20000 < n
  · have h1i : (20000 : Int) < (n : Int) := by omega
    obtain rfl : 20001 = R := by rw [← hR, if_neg (by omega)]
    clear hR
    go_enter Try.func29, Try.ntmps29
    go_wp2
    go_ret
    exact ⟨rfl, rfl⟩
  · have h1i : ¬ (20000 : Int) < (n : Int) := by omega
    by_cases h2 : 20000 < k
    · have h2i : (20000 : Int) < (k : Int) := by omega
      obtain rfl : 20001 = R := by rw [← hR, if_neg (by omega)]
      clear hR
      go_enter Try.func29, Try.ntmps29
      go_wp2
      go_ret
      exact ⟨rfl, rfl⟩
    · have h2i : ¬ (20000 : Int) < (k : Int) := by omega
      have hs1 : 20000 - (k : Int) ≤ 9223372036854775807 := by omega
      have hs2 : -9223372036854775808 ≤ 20000 - (k : Int) := by omega
      by_cases h3 : n + k ≤ 20000
      · have h3i : ¬ 20000 - (k : Int) < (n : Int) := by omega
        have HR := Lib.hid (show (n : Int) + (k : Int) = (R : Int) by rw [← hR, if_pos h3]; omega)
        have ha1 : (n : Int) + (k : Int) ≤ 9223372036854775807 := by omega
        clear hR
        go_enter Try.func29, Try.ntmps29
        go_wp2
        go_ret
        exact ⟨by rw [← HR.out]; go_num, rfl⟩
      · have h3i : 20000 - (k : Int) < (n : Int) := by omega
        obtain rfl : 20001 = R := by rw [← hR, if_neg (by omega)]
        clear hR
        go_enter Try.func29, Try.ntmps29
        go_wp2
        go_ret
        exact ⟨rfl, rfl⟩
/-- Two maps that have nothing in common that is turned. -/
structure Two (W : World) (qa : Nat) (va : Value) (BA : List Blk) (qb : Nat) (vb : Value) (BB : List Blk) : Prop where
  a : MapIn W qa va BA
  b : MapIn W qb vb BB
  ab : ∀ k, foot qa va BA k → ¬ foot qb vb BB k ∧ ¬ cellB BB k
  ba : ∀ k, foot qb vb BB k → ¬ cellB BA k
theorem Two.swap {W : World} {qa qb : Nat} {va vb : Value} {BA BB : List Blk} (h : Two W qa va BA qb vb BB) : Two W qb vb BB qa va BA :=
  ⟨h.b, h.a, fun k hk => ⟨fun h2 => (h.ab k h2).1 hk, h.ba k hk⟩, fun k hk => (h.ab k hk).2⟩
theorem Two.below {W W' : World} {qa qb : Nat} {va vb : Value} {BA BB : List Blk} (h : Two W qa va BA qb vb BB) (hb : Below W.heap.size W W') : Two W' qa va BA qb vb BB := ⟨h.a.below hb, h.b.below hb, h.ab, h.ba⟩
/-- One of the two is turned. -/
theorem Two.turn {W W' : World} {qa qb : Nat} {va vb : Value} {BA BB : List Blk} {R : List Rp} (h : Two W qa va BA qb vb BB) (hd : MDone qa va BA R W W') :
    ∃ va' BA', Two W' qa va' BA' qb vb BB ∧ (rowsOf BA').map Rw.pr = R ∧ Turn (foot qa va BA) W W' ∧ (∀ k, foot qa va' BA' k → foot qa va BA k ∨ W.heap.size ≤ k) ∧ (∀ k, cellB BA' k → cellB BA k ∨ W.heap.size ≤ k) := by
  obtain ⟨va', BA', h1, h2, h3, h4, h5⟩ := hd
  refine ⟨va', BA', ⟨h1, h.b.keep fun k hk => h3.block k (h.b.lt hk) (fun hf => ?_), fun k hk => ?_, fun k hk hc => ?_⟩, h2, h3, h4, h5⟩
  · rcases hk with hk | hk
    · exact (h.ab k hf).1 hk
    · exact (h.ab k hf).2 hk
  · rcases h4 k hk with h6 | h6
    · exact h.ab k h6
    · exact ⟨fun h7 => by have := h.b.lt (.inl h7); omega, fun h7 => by have := h.b.lt (.inr h7); omega⟩
  · rcases h5 k hc with h6 | h6
    · exact h.ba k hk h6
    · have := h.b.lt (.inl hk); omega
/-- Both are laid behind all that was. -/
def TwoAbove (B : Nat) (qa : Nat) (va : Value) (BA : List Blk) (qb : Nat) (vb : Value) (BB : List Blk) : Prop := (∀ k, foot qa va BA k → B ≤ k) ∧ ∀ k, foot qb vb BB k → B ≤ k
/-- The rows that keys make. -/
def keyR (R : List Rp) (k : List UInt8) : List Rp := if k = [] then R else setR Op.bytesLess Prod.fst ([], []) (k, []) R
def keysR (ks : List (List UInt8)) : List Rp := ks.foldl keyR []
theorem setR_asc {R : List Rp} {r : Rp} (h : KAsc Op.bytesLess R) : KAsc Op.bytesLess (setR Op.bytesLess Prod.fst ([], []) r R) := by
  rw [setR_eq strictT Prod.fst _ _ _ h]
  unfold KAsc at h ⊢
  refine List.pairwise_append.2 ⟨h.filter _, List.pairwise_cons.2 ⟨fun b hb => (List.mem_filter.1 hb).2, h.filter _⟩, fun a ha b hb => ?_⟩
  have h1 := (List.mem_filter.1 ha).2
  rcases List.mem_cons.1 hb with rfl | hb
  · exact h1
  · exact strictT.tr _ _ _ h1 (List.mem_filter.1 hb).2
theorem mem_setR {R : List Rp} {r z : Rp} (h : KAsc Op.bytesLess R) : z ∈ setR Op.bytesLess Prod.fst ([], []) r R ↔ z = r ∨ (z ∈ R ∧ z.1 ≠ r.1) := by
  rw [setR_eq strictT Prod.fst _ _ _ h, List.mem_append, List.mem_cons, List.mem_filter, List.mem_filter]
  constructor
  · rintro (⟨h1, h2⟩ | rfl | ⟨h1, h2⟩)
    · exact .inr ⟨h1, fun e => by simp only [e, strictT.irr] at h2; cases h2⟩
    · exact .inl rfl
    · exact .inr ⟨h1, fun e => by simp only [e, strictT.irr] at h2; cases h2⟩
  · rintro (rfl | ⟨h1, h2⟩)
    · exact .inr (.inl rfl)
    · cases h3 : Op.bytesLess z.1 r.1 with
      | true => exact .inl ⟨h1, by first | rfl | exact h3⟩
      | false =>
        cases h4 : Op.bytesLess r.1 z.1 with
        | true => exact .inr (.inr ⟨h1, by first | rfl | exact h4⟩)
        | false => exact absurd (strictT.tot _ _ h3 h4) h2
theorem keyR_asc {R : List Rp} (k : List UInt8) (h : KAsc Op.bytesLess R) : KAsc Op.bytesLess (keyR R k) := by
  unfold keyR
  split
  · exact h
  · exact setR_asc h
theorem keysR_snoc (ks : List (List UInt8)) (k : List UInt8) : keysR (ks ++ [k]) = keyR (keysR ks) k := by simp [keysR]
theorem keysR_facts : ∀ (n : Nat) (ks : List (List UInt8)), ks.length = n → KAsc Op.bytesLess (keysR ks) ∧ (∀ z, z ∈ keysR ks ↔ z.2 = [] ∧ z.1 ∈ ks ∧ z.1 ≠ []) ∧ (keysR ks).length ≤ n
  | 0, ks, h => by
    obtain rfl := List.eq_nil_of_length_eq_zero h
    exact ⟨List.Pairwise.nil, fun z => by simp [keysR], Nat.le_refl _⟩
  | n + 1, ks, h => by
    obtain ⟨ks', k, rfl⟩ : ∃ ks' k, ks = ks' ++ [k] := by
      rcases List.eq_nil_or_concat ks with rfl | ⟨a, b, rfl⟩
      · simp at h
      · exact ⟨a, b, by rw [List.concat_eq_append]⟩
    obtain ⟨h1, h2, h3⟩ := keysR_facts n ks' (by simpa using h)
    rw [keysR_snoc]
    refine ⟨keyR_asc k h1, fun z => ?_, ?_⟩
    · unfold keyR
      split
      · rename_i e
        subst e
        rw [h2, List.mem_append, List.mem_singleton]
        constructor
        · rintro ⟨a, b, c⟩; exact ⟨a, .inl b, c⟩
        · rintro ⟨a, b | b, c⟩
          · exact ⟨a, b, c⟩
          · exact absurd b c
      · rename_i e
        rw [mem_setR h1, h2, List.mem_append, List.mem_singleton]
        constructor
        · rintro (rfl | ⟨⟨a, b, c⟩, -⟩)
          · exact ⟨rfl, .inr rfl, e⟩
          · exact ⟨a, .inl b, c⟩
        · rintro ⟨a, b, c⟩
          by_cases e2 : z.1 = k
          · exact .inl (by rw [← e2]; exact Prod.ext rfl a)
          · exact .inr ⟨⟨a, b.resolve_right e2, c⟩, e2⟩
    · unfold keyR
      split
      · omega
      · have := setR_few (lt := Op.bytesLess) Prod.fst ([], []) (k, []) (keysR ks')
        omega
/-- Keys set in another order make the same rows. -/
theorem keysR_same {ks ks' : List (List UInt8)} (h : ∀ k, k ∈ ks ↔ k ∈ ks') : keysR ks = keysR ks' := by
  obtain ⟨h1, h2, -⟩ := keysR_facts _ ks rfl
  obtain ⟨h3, h4, -⟩ := keysR_facts _ ks' rfl
  exact kasc_ext strictT h1 h3 fun z => by rw [h2, h4, h]
theorem keysR_look {ks : List (List UInt8)} {k : List UInt8} (h : k ∈ ks) : (look (keysR ks) k).isSome = decide (k ≠ []) := by
  obtain ⟨h1, h2, -⟩ := keysR_facts _ ks rfl
  by_cases e : k = []
  · subst e
    rw [look_none_iff.2 (fun r hr e => ((h2 r).1 hr).2.2 e)]
    rfl
  · rw [mem_look strictT h1 ((h2 (k, [])).2 ⟨rfl, h, e⟩)]
    simp [e]
theorem scan_whole {R : List Rp} {n : Int} (h : (R.length : Int) ≤ n) : scanP R [] [] n = R := by
  unfold scanP
  have e1 : R.filter (fun r => !Op.bytesLess r.1 []) = R := filter_all fun r _ => by cases r.1 <;> rfl
  have e2 := List.takeWhile_append_of_pos (p := fun r : Rp => ([] : List UInt8).isEmpty || Op.bytesLess r.1 []) (l₁ := R) (l₂ := []) (fun r _ => rfl)
  rw [List.append_nil, List.takeWhile_nil, List.append_nil] at e2
  rw [e1, e2]
  exact List.take_of_length_le (by omega)
end Go.Proofs.Ytbpgfmcnpifmdaa
end

section
namespace Go.Proofs.Ytbpgfmcnpifmdaa
open Go.RowKit Go Go.Sort Go.Deep
set_option linter.unusedVariables false
set_option maxRecDepth 20000

def strArr (k : List UInt8) : Array Value := #[.string (text k)]
theorem open_strs {H : Type} {enc : TypeId × Value → H} {W : World} {a : Option Addr} {len cap : Nat} {d : DataW H} {p : List MemPlace} (h : DataW.Trod enc Try.prog W 0 (fun _ => true) true 48 (.slice a len cap) d p) :
    ∃ l, Ls 1 strArr [] W a len cap l ∧ ∀ k ∈ l, k.length ≤ 9223372036854775807 := by
  have hc : Try.prog.cellsOf 9 = 1 := by kernel_rfl
  obtain ⟨fuel, hf⟩ := h
  rcases open_slice Try.underlying48 hf with ⟨hcs, hx⟩ | ⟨x, l, c, m, n, D, Pl, hcs, _, hl, hm, hmm, hx, hcell⟩
  · simp [Value.cells] at hcs
    obtain ⟨rfl, rfl, rfl⟩ := hcs
    exact ⟨[], ⟨rfl, Nat.le_refl _, by omega, .inl rfl⟩, fun c hc => (nomatch hc)⟩
  · simp [Value.cells] at hcs
    obtain ⟨rfl, rfl, rfl⟩ := hcs
    simp only [if_true] at hmm
    subst hmm
    rw [hc] at hcell
    have key : ∀ i, i < m → ∃ q : List UInt8, (∀ j u, (strArr q)[j]? = some u → W.cell? ((x.add (i * 1)).add j) = some u) ∧ q.length ≤ 9223372036854775807 := by
      intro i hi
      obtain ⟨cs', h1, h2⟩ := hcell i hi
      obtain ⟨_, h3l, h3⟩ := World.cells?_some h1
      obtain ⟨s, e2, _, w2⟩ := DataW.trod_string Try.underlying9 h2
      subst e2
      refine ⟨s.data.toList, fun j u hj => ?_, (by
        have hw2 : s.data.toList.length ≤ maxLen := by simpa using w2
        unfold maxLen at hw2
        exact hw2)⟩
      have hjl : j < 1 := by
        have := (Array.getElem?_eq_some_iff.1 hj).1
        exact this
      obtain rfl : j = 0 := by omega
      have h4 := h3 0 hjl
      rw [h4]
      exact hj
    obtain ⟨V0, hV0⟩ := choose_at key
    obtain ⟨V, hV⟩ : ∃ V : Nat → List UInt8, ∀ i, i < m → ((∀ j u, (strArr (V i))[j]? = some u → W.cell? ((x.add (i * 1)).add j) = some u) ∧ (V i).length ≤ 9223372036854775807) := by
      refine ⟨fun i => (V0 i).getD [], fun i hi => ?_⟩
      obtain ⟨q, hq, hp⟩ := hV0 i hi
      simp only [hq, Option.getD_some]
      exact hp
    have hgd : ∀ i, i < len → ((List.range len).map V).getD i [] = V i := fun i hi => by simp [List.getD, hi]
    refine ⟨(List.range len).map V, ⟨by simp, hl, by unfold maxLen at hm; omega, ?_⟩, ?_⟩
    · by_cases hz : m = 0
      · exact .inl hz
      · right
        obtain ⟨b, off, spot⟩ := x
        have h0 := (hV 0 (by omega)).1 0 _ rfl
        have hspot : spot = none := by simpa [Addr.add] using World.cell?_spot h0
        subst hspot
        refine ⟨b, off, rfl, fun i hi j u hj => ?_⟩
        rw [hgd i hi] at hj
        have hq := (hV i (by omega)).1
        have e1 : (⟨b, off, none⟩ : Addr).add (i * 1) = ⟨b, off + i * 1, none⟩ := by
          by_cases h0 : i * 1 = 0
          · rw [h0]; rfl
          · simp [Addr.add]
            omega
        rw [e1] at hq
        have e2 : (⟨b, off + i * 1, none⟩ : Addr).add j = ⟨b, off + i * 1 + j, none⟩ := by
          by_cases h0 : j = 0
          · subst h0; rfl
          · simp [Addr.add, h0]
        have h5 := hq j u hj
        rw [e2] at h5
        exact h5
    · intro g hg
      obtain ⟨i, hi, rfl⟩ := List.mem_map.1 hg
      exact (hV i (by have := List.mem_range.1 hi; omega)).2
/-- Set of a row without cells, whatever its key. -/
theorem msetk_c {w : World} {q : Nat} {vb : Value} {BS : List Blk} (h : MapIn w q vb BS) (hf : (rowsOf BS).length ≤ 900000) (kk : List UInt8) :
    Calls Try.prog 17 #[.pointer (some ⟨q, 0, none⟩), .agg #[.string (text kk), .slice none 0 0]] w (fun e w' => (∃ v, e = .returned v) ∧ MDone q vb BS (keyR ((rowsOf BS).map Rw.pr) kk) w w') := by
  by_cases hk : kk = []
  · subst hk
    refine (mset_empty h.head).mono fun e w' hp => ⟨⟨_, hp.1⟩, vb, BS, h.below hp.2, ?_, Turn.of_below hp.2, fun k hk => .inl hk, fun k hk => .inl hk⟩
    unfold keyR
    rw [if_pos rfl]
  · refine (mset_c h hf (cls_none w) (by omega) hk).mono fun e w' hp => ⟨⟨_, hp.1⟩, ?_⟩
    unfold keyR
    rw [if_neg hk]
    exact hp.2
theorem GotPost.none {t : ByteArray} {w w' : World} {e : Ending} (h : GotPost none t w e w') : e = .returned (.tuple #[.agg #[.string ⟨#[]⟩, .slice none 0 0], .bool false]) ∧ Below w.heap.size w w' := by
  rcases h with ⟨_, _, _, h, _⟩ | ⟨_, h⟩
  · cases h
  · exact h
theorem GotPost.some {cs : List Cl} {t : ByteArray} {w w' : World} {e : Ending} (h : GotPost (some cs) t w e w') : ∃ a c, e = .returned (.tuple #[.agg #[.string t, .slice a cs.length c], .bool true]) ∧ OwnC w' w.heap.size (.slice a cs.length c) cs ∧ Below w.heap.size w w' := by
  rcases h with ⟨_, a, c, h, h2⟩ | ⟨h, _⟩
  · injection h with h
    subst h
    exact ⟨a, c, h2⟩
  · cases h
/-- The keys, turned. -/
def rotK (l : List (List UInt8)) (T : Nat) : List (List UInt8) := (List.range l.length).map (fun i => l.getD ((i + T) % l.length) [])
theorem rot_take {l : List (List UInt8)} {T i : Nat} (hi : i < l.length) : (rotK l T).take (i + 1) = (rotK l T).take i ++ [l.getD ((i + T) % l.length) []] := by
  unfold rotK
  rw [List.take_add_one, List.getElem?_map, List.getElem?_range hi]
  rfl
theorem rot_len (l : List (List UInt8)) (T : Nat) : (rotK l T).length = l.length := by simp [rotK]
theorem rot_mem {l : List (List UInt8)} {T : Nat} (hT : T ≤ l.length) (k : List UInt8) : k ∈ l ↔ k ∈ rotK l T := by
  unfold rotK
  rw [List.mem_map]
  constructor
  · intro h
    obtain ⟨j, hj, rfl⟩ := List.getElem_of_mem h
    refine ⟨(j + (l.length - T)) % l.length, List.mem_range.2 (Nat.mod_lt _ (by omega)), ?_⟩
    have e : ((j + (l.length - T)) % l.length + T) % l.length = j := by
      rw [Nat.mod_add_mod, show j + (l.length - T) + T = j + l.length by omega, Nat.add_mod_right, Nat.mod_eq_of_lt hj]
    rw [e, List.getD_eq_getElem?_getD, List.getElem?_eq_getElem hj]
    rfl
  · rintro ⟨i, hi, rfl⟩
    have hi := List.mem_range.1 hi
    have h := Nat.mod_lt (i + T) (show 0 < l.length by omega)
    rw [List.getD_eq_getElem?_getD, List.getElem?_eq_getElem h]
    exact List.getElem_mem h
theorem takeK_snoc {l : List (List UInt8)} {i : Nat} (hi : i < l.length) : l.take (i + 1) = l.take i ++ [l.getD i []] := by
  rw [List.take_add_one, List.getElem?_eq_getElem hi, List.getD_eq_getElem?_getD, List.getElem?_eq_getElem hi]
  rfl
set_option maxRecDepth 100000 in
set_option maxHeartbeats 12800000 in
theorem sorder_walk {w : World} {x : Option Addr} {n cap : Nat} {l : List (List UInt8)} (hl : Ls 1 strArr [] w x n cap l) (hs : ∀ k ∈ l, k.length ≤ 9223372036854775807) (turn : Int) :
    Calls Try.prog 4 #[.slice x n cap, .int .i64 turn] w (Tells (.bool true) w) := by
  have hle := hl.le
  have hmax := hl.max
  have hll := hl.len
  by_cases h200 : 200 < n
  · have h2i : (200 : Int) < (n : Int) := by omega
    clear hl hs hll
    go_enter Try.func4, Try.ntmps4
    go_wp2_with (go_at_call 15; (with_reducible refine (slives_c _).mono ?_); rintro e8 w8 ⟨rfl, hb8⟩)
    go_ret
    exact ⟨rfl, hb8⟩
  · have h2i : ¬ (200 : Int) < (n : Int) := by omega
    have HL := Lib.hid hl
    have HS := Lib.hid hs
    have HLL := Lib.hid hll
    have hb1 := alloc_below w (.cells #[.bool true, .int .i64 0, .slice none 0 0] 57)
    have hm1 := MapIn.new w
    have hb2 := alloc_below (w.alloc (.cells #[.bool true, .int .i64 0, .slice none 0 0] 57)) (.cells #[.bool true, .int .i64 0, .slice none 0 0] 57)
    have hm2 := MapIn.new (w.alloc (.cells #[.bool true, .int .i64 0, .slice none 0 0] 57))
    have hm1' := hm1.below hb2
    have hsz := World.size_alloc w (.cells #[.bool true, .int .i64 0, .slice none 0 0] 57)
    have hbb := hb1.trans (hb2.mono hb1.size)
    clear hl hs hll hm1 hb1 hb2
    go_enter Try.func4, Try.ntmps4
    go_upto_region 6 with (go_at_call 13; (with_reducible refine (snew_c _).mono ?_); rintro e1 w1 ⟨rfl, rfl⟩)
    obtain ⟨W2, hW2⟩ : ∃ X, (w.alloc (.cells #[.bool true, .int .i64 0, .slice none 0 0] 57)).alloc (.cells #[.bool true, .int .i64 0, .slice none 0 0] 57) = X := ⟨_, rfl⟩
    obtain ⟨qb, hqb⟩ : ∃ z, (w.alloc (.cells #[.bool true, .int .i64 0, .slice none 0 0] 57)).heap.size = z := ⟨_, rfl⟩
    obtain ⟨qa, hqa⟩ : ∃ z, w.heap.size = z := ⟨_, rfl⟩
    rw [hW2, hqb] at hm2
    rw [hW2, hqa] at hm1'
    rw [hqb, hqa] at hsz
    rw [hW2] at hbb
    have hfa : ∀ k, foot qa (.slice none 0 0) [] k → k = qa := by
      rintro k (h | h | ⟨b, hb, -⟩)
      · exact h
      · cases h
      · cases hb
    have hfb : ∀ k, foot qb (.slice none 0 0) [] k → k = qb := by
      rintro k (h | h | ⟨b, hb, -⟩)
      · exact h
      · cases h
      · cases hb
    have hTW : Two W2 qa (.slice none 0 0) [] qb (.slice none 0 0) [] := ⟨hm1', hm2, fun k hk => ⟨fun h2 => by have := hfa k hk; have := hfb k h2; omega, fun ⟨b, hb, _⟩ => (nomatch hb)⟩, fun k _ ⟨b, hb, _⟩ => (nomatch hb)⟩
    have HTW := Lib.hid hTW
    have HAB := Lib.hid (show TwoAbove w.heap.size qa (.slice none 0 0) [] qb (.slice none 0 0) [] from ⟨fun k hk => by have := hfa k hk; omega, fun k hk => by have := hfb k hk; omega⟩)
    have HBB := Lib.hid hbb
    rw [hqa]
    simp only [hW2, ← hsz]
    have HQA := Lib.hid hqa
    clear hfa hfb hTW hm1' hm2 hsz hqa hqb hW2 hbb
    go_upto_region 6 with (fail)
    obtain ⟨tu, htu⟩ : ∃ tu : Nat, IntKind.u64.wrap turn = (tu : Int) := ⟨(IntKind.u64.wrap turn).toNat, by
      have : 0 ≤ IntKind.u64.wrap turn := by simp [IntKind.wrap, IntKind.signed, IntKind.bits]; omega
      omega⟩
    go_loopw [7, 25] (fun c j wr => ∃ (i cn : Nat) (va vb : Value) (BA BB : List Blk), i ≤ n ∧ j = .int .i64 (i : Int) ∧ c = .int .i64 (cn : Int) ∧ cn ≤ 20000 ∧ Two wr qa va BA qb vb BB ∧ (rowsOf BA).map Rw.pr = keysR (l.take i) ∧ (rowsOf BB).map Rw.pr = keysR ((rotK l tu).take i) ∧ TwoAbove w.heap.size qa va BA qb vb BB ∧ Below w.heap.size w wr) (fun _ j _ => n - (intOf j).toNat)
    case atStart => exact ⟨0, 0, _, _, [], [], Nat.zero_le _, rfl, rfl, Nat.zero_le _, HTW.out, rfl, rfl, HAB.out, HBB.out⟩
    case round =>
      clear HTW HAB HBB
      obtain ⟨i, cn, va, vb, BA, BB, hi, rfl, rfl, hcn, htw, hra, hrb, hab, hb⟩ := hrel
      have hlen : ∀ (R : List Rw) (ks : List (List UInt8)) (j : Nat), R.map Rw.pr = keysR (ks.take j) → R.length ≤ j := fun R ks j h => by
        have h1 := congrArg List.length h
        rw [List.length_map] at h1
        have h2 := (keysR_facts _ (ks.take j) rfl).2.2
        rw [List.length_take] at h2
        omega
      have hla := hlen _ _ _ hra
      have hlb := hlen _ _ _ hrb
      by_cases hlt : i < n
      · have hii : (i : Int) < (n : Int) := by omega
        have hic : (i : Int) < (cap : Int) := by omega
        obtain ⟨bo, off, rfl, hat⟩ := HL.out.at hlt
        have hT : tu % n < n := Nat.mod_lt _ (by omega)
        obtain ⟨T, hTe⟩ : ∃ z, tu % n = z := ⟨_, rfl⟩
        rw [hTe] at hT
        have hJ : (i + tu) % n < n := Nat.mod_lt _ (by omega)
        have hJe : (i + T) % n = (i + tu) % n := by rw [← hTe, Nat.add_mod_mod]
        have hX1 : (0 : Int) ≤ ((i : Int) + (tu : Int)) % (n : Int) := Int.emod_nonneg _ (by omega)
        have hX2 : ((i : Int) + (tu : Int)) % (n : Int) < (n : Int) := Int.emod_lt_of_pos _ (by omega)
        have hX4 : ((i : Int) + (tu : Int)) % (n : Int) < (cap : Int) := by omega
        have hX3 : (((i : Int) + (tu : Int)) % (n : Int)).toNat = (i + tu) % n := by
          have h9 : (((i + tu) % n : Nat) : Int) = ((i : Int) + (tu : Int)) % (n : Int) := by simp
          rw [← h9]
          exact Int.toNat_natCast _
        obtain ⟨bo', off', e', hat'⟩ := HL.out.at hJ
        injection e' with e'
        injection e' with e1 e2
        subst e1 e2
        have c0 : wr.cell? ⟨bo, off + i, none⟩ = some (.string (text (l.getD i []))) := by
          have h9 := hat wr hb 0 _ rfl
          rw [Nat.mul_one, Nat.add_zero] at h9
          exact h9
        have c1 : wr.cell? ⟨bo, off + (i + tu) % n, none⟩ = some (.string (text (l.getD ((i + tu) % n) []))) := by
          have h9 := hat' wr hb 0 _ rfl
          rw [Nat.mul_one, Nat.add_zero] at h9
          exact h9
        have htA : l.take (i + 1) = l.take i ++ [l.getD i []] := takeK_snoc (by have := HLL.out; omega)
        have htB : (rotK l tu).take (i + 1) = (rotK l tu).take i ++ [l.getD ((i + tu) % n) []] := by
          have h9 := rot_take (l := l) (T := tu) (i := i) (by have := HLL.out; omega)
          rw [HLL.out] at h9
          exact h9
        have hkl : (l.getD i []).length ≤ 9223372036854775807 := HS.out _ (by
          rw [List.getD_eq_getElem?_getD, List.getElem?_eq_getElem (by have := HLL.out; omega)]
          exact List.getElem_mem _)
        obtain ⟨ka, hka⟩ : ∃ z, l.getD i [] = z := ⟨_, rfl⟩
        obtain ⟨kb, hkb⟩ : ∃ z, l.getD ((i + tu) % n) [] = z := ⟨_, rfl⟩
        rw [hka] at c0 htA hkl
        rw [hkb] at c1 htB
        have HTA := Lib.hid htA
        have HTB := Lib.hid htB
        have HAD := Lib.hid (fun W => radd20_c cn ka.length (by omega) hkl W)
        have HSZ := Lib.hid (show ((text ka).size : Int) = (ka.length : Int) by rw [text_size])
        have HTW := Lib.hid htw
        have HRA := Lib.hid hra
        have HRB := Lib.hid hrb
        have HAB := Lib.hid hab
        have HB := Lib.hid hb
        clear hat hat' htA htB hka hkb htw hra hrb hab hb hlen
        have hsz := HSZ.out
        go_upto_region 11 with (go_at_call 29; (with_reducible refine (HAD.out _).mono ?_); rintro e3 w3 ⟨rfl, rfl⟩)
        clear hsz c0 c1 HAD HSZ
        by_cases hsat : satA cn ka.length ≤ 20000
        · have hsi : ¬ (20000 : Int) < ((satA cn ka.length : Nat) : Int) := by omega
          obtain ⟨cn', hcn'⟩ : ∃ z, satA cn ka.length = z := ⟨_, rfl⟩
          rw [hcn'] at hsat hsi ⊢
          clear hcn'
          have HSA := Lib.hid (msetk_c HTW.out.a (by omega) ka)
          go_upto_region 14 with (go_at_call 17; (with_reducible refine HSA.out.mono ?_); rintro e4 w4 ⟨⟨v4, rfl⟩, hd4⟩)
          obtain ⟨va', BA', htw4, hra4, ht4, hf4, -⟩ := HTW.out.turn hd4
          have HT4 := Lib.hid htw4
          have HR4 := Lib.hid hra4
          have HTN4 := Lib.hid ht4
          have HF4 := Lib.hid hf4
          have HSB := Lib.hid (msetk_c htw4.b (by omega) kb)
          clear hd4 htw4 hra4 ht4 hf4 HSA
          go_wp2_with (go_at_call 17; (with_reducible refine HSB.out.mono ?_); rintro e5 w5 ⟨⟨v5, rfl⟩, hd5⟩)
          obtain ⟨vb', BB', htw5, hrb5, ht5, hf5, -⟩ := HT4.out.swap.turn hd5
          have HT5 := Lib.hid htw5.swap
          have HR5 := Lib.hid hrb5
          have HTN5 := Lib.hid ht5
          have HF5 := Lib.hid hf5
          have HB4 := Lib.hid (HB.out.trans (HTN4.out.below HB.out.size HAB.out.1))
          have HB5 := Lib.hid (HB4.out.trans (HTN5.out.below HB4.out.size HAB.out.2))
          clear hd5 htw5 hrb5 ht5 hf5 HSB
          go_roundw
          case rel => exact ⟨i + 1, cn', va', vb', BA', BB', by omega, by go_num, rfl, hsat, HT5.out, by rw [HR4.out, HRA.out, HTA.out, keysR_snoc], by rw [HR5.out, HRB.out, HTB.out, keysR_snoc], ⟨fun k hk => (HF4.out k hk).elim (HAB.out.1 k) (fun h => Nat.le_trans HB.out.size h), fun k hk => (HF5.out k hk).elim (HAB.out.2 k) (fun h => Nat.le_trans HB4.out.size h)⟩, HB5.out⟩
          case measure => simp [intOf]; omega
        · have hsi : (20000 : Int) < ((satA cn ka.length : Nat) : Int) := by omega
          go_wp2_with (go_at_call 15; (with_reducible refine (slives_c _).mono ?_); rintro e8 w8 ⟨rfl, hb8⟩)
          go_ret
          exact ⟨rfl, HB.out.trans (hb8.mono HB.out.size)⟩
      · obtain rfl : i = n := by omega
        rw [List.take_of_length_le (by have := HLL.out; omega)] at hra
        rw [List.take_of_length_le (by have := HLL.out; rw [rot_len]; omega)] at hrb
        have hrt : rotK l tu = rotK l (tu % i) := by
          unfold rotK
          rw [HLL.out]
          refine List.map_congr_left fun j _ => ?_
          rw [Nat.add_mod_mod]
        have hsame : keysR (rotK l tu) = keysR l := by
          rw [hrt]
          by_cases h0 : i = 0
          · have : l = [] := List.eq_nil_of_length_eq_zero (by rw [HLL.out, h0])
            subst this
            rfl
          · exact (keysR_same (rot_mem (by rw [HLL.out]; exact Nat.le_of_lt (Nat.mod_lt _ (by omega))))).symm
        rw [hsame] at hrb
        have hsa : Calls Try.prog 24 #[.pointer (some ⟨qa, 0, none⟩), .string ⟨#[]⟩, .string ⟨#[]⟩, .int .i64 1000] wr (fun e w' => ∃ v L, e = .returned v ∧ OwnRs w' wr.heap.size v L ∧ L.map Rw.pr = scanP ((rowsOf BA).map Rw.pr) [] [] 1000 ∧ Below wr.heap.size wr w') := mscanp_c htw.a (by omega) [] [] 1000
        have hkl : (keysR l).length ≤ i := by
          have h9 := (keysR_facts _ l rfl).2.2
          rw [HLL.out] at h9
          exact h9
        rw [hra, scan_whole (by omega)] at hsa
        have HSA := Lib.hid hsa
        have HTW := Lib.hid htw
        have HRA := Lib.hid hra
        have HRB := Lib.hid hrb
        have HAB := Lib.hid hab
        have HB := Lib.hid hb
        have HKL := Lib.hid hkl
        clear hsa htw hra hrb hab hb hlen hsame hrt hla hlb hkl
        go_upto_region 17 with (go_at_call 24; (with_reducible refine HSA.out.mono ?_); rintro e3 w3 ⟨v, L1, rfl, ho3, hl3, hb3⟩)
        obtain ⟨a3, c3, rfl, hrw3⟩ := ho3.all
        have hasc : KAsc Op.bytesLess (L1.map Rw.pr) := by rw [hl3]; exact (keysR_facts _ l rfl).1
        obtain ⟨m, hm⟩ : ∃ z, L1.length = z := ⟨_, rfl⟩
        have hmk : m = (keysR l).length := by rw [← hm, ← hl3, List.length_map]
        rw [hm] at hrw3 ⊢
        have hle3 := hrw3.1.le
        have hmax3 := hrw3.1.max
        have HRW3 := Lib.hid hrw3
        have HL3 := Lib.hid hl3
        have HASC := Lib.hid hasc
        have HTW3 := Lib.hid (HTW.out.below hb3)
        have HB3 := Lib.hid (HB.out.trans (hb3.mono HB.out.size))
        have HM := Lib.hid hm
        have HMK := Lib.hid hmk
        clear ho3 hl3 hb3 hrw3 hasc hm hmk HSA HTW HB
        go_wp2
        go_loopw [67] (fun j wz => ∃ i2 : Nat, i2 ≤ m ∧ j = .int .i64 (i2 : Int) ∧ Below w3.heap.size w3 wz) (fun j _ => m - (intOf j).toNat)
        case atStart => exact ⟨0, Nat.zero_le _, rfl, Below.refl _ _⟩
        case round =>
          obtain ⟨i2, hi2, rfl, hbz⟩ := hrel
          have HBZ := Lib.hid hbz
          by_cases hlt2 : i2 < m
          · have hii : (i2 : Int) < (m : Int) := by omega
            have hic : (i2 : Int) < (c3 : Int) := by omega
            by_cases h0 : i2 = 0
            · subst h0
              clear hbz
              go_upto_region 20 with (fail)
              go_quiet (fail)
              go_wp2
              go_roundw
              case rel => exact ⟨1, by omega, by go_num, below_drewN HBZ.out _⟩
              case measure => simp [intOf]; omega
            · obtain ⟨p, hp⟩ : ∃ p, i2 = p + 1 := ⟨i2 - 1, by omega⟩
              have hpw : IntKind.i64.wrap ((i2 : Int) - 1) = (p : Int) := by rw [IntKind.wrap_i64]; omega
              have hpw2 : IntKind.i64.wrap (p : Int) = (p : Int) := by rw [IntKind.wrap_i64]; omega
              have hpm : (p : Int) < (m : Int) := by omega
              have hpc : (p : Int) < (c3 : Int) := by omega
              have hg0 : decide (0 < i2) = true := decide_eq_true (by omega)
              obtain ⟨b3, off3, rfl, hat3⟩ := HRW3.out.1.at hlt2
              obtain ⟨b3', off3', e', hat3'⟩ := HRW3.out.1.at (k := p) (by omega)
              injection e' with e'
              injection e' with e1 e2
              subst e1 e2
              have d1 : wr.cell? ⟨b3, off3 + i2 * 2, none⟩ = some (.string (text (L1.getD i2 Rw.zero).k)) := hat3 wr hbz 0 _ rfl
              have d0 : wr.cell? ⟨b3, off3 + p * 2, none⟩ = some (.string (text (L1.getD p Rw.zero).k)) := hat3' wr hbz 0 _ rfl
              have hless : Op.bytesLess (L1.getD p Rw.zero).k (L1.getD i2 Rw.zero).k = true := by
                have h9 := HASC.out
                unfold KAsc at h9
                rw [List.pairwise_map, List.pairwise_iff_getElem] at h9
                have h8 := h9 p i2 (by have := HM.out; omega) (by have := HM.out; omega) (by omega)
                rw [List.getD_eq_getElem?_getD, List.getD_eq_getElem?_getD, List.getElem?_eq_getElem (by have := HM.out; omega), List.getElem?_eq_getElem (by have := HM.out; omega)]
                exact h8
              have htl := text_lss (L1.getD p Rw.zero).k (L1.getD i2 Rw.zero).k
              rw [hless] at htl
              obtain ⟨u1, hu1⟩ : ∃ z, text (L1.getD p Rw.zero).k = z := ⟨_, rfl⟩
              obtain ⟨u2, hu2⟩ : ∃ z, text (L1.getD i2 Rw.zero).k = z := ⟨_, rfl⟩
              rw [hu1] at d0 htl
              rw [hu2] at d1 htl
              clear hbz hat3 hat3' hless hu1 hu2 hp
              go_upto_region 20 with (fail)
              go_quiet (fail)
              go_wp2
              go_roundw
              case rel => exact ⟨i2 + 1, by omega, by go_num, below_drewN HBZ.out _⟩
              case measure => simp [intOf]; omega
          · obtain rfl : i2 = m := by omega
            clear hbz
            go_wp2
            go_loopw [89] (fun j wz => ∃ i3 : Nat, i3 ≤ i ∧ j = .int .i64 (i3 : Int) ∧ Below w3.heap.size w3 wz) (fun j _ => i - (intOf j).toNat)
            case atStart => exact ⟨0, Nat.zero_le _, rfl, HBZ.out⟩
            case round =>
              obtain ⟨i3, hi3, rfl, hbz⟩ := hrel
              have HTZ := Lib.hid (HTW3.out.below hbz)
              by_cases hlt3 : i3 < i
              · have hii : (i3 : Int) < (i : Int) := by omega
                have hic : (i3 : Int) < (cap : Int) := by omega
                obtain ⟨bo, off, rfl, hat⟩ := HL.out.at hlt3
                have c0 : wr.cell? ⟨bo, off + i3, none⟩ = some (.string (text (l.getD i3 []))) := by
                  have h9 := hat wr (HB3.out.trans (hbz.mono HB3.out.size)) 0 _ rfl
                  rw [Nat.mul_one, Nat.add_zero] at h9
                  exact h9
                have hmem : l.getD i3 [] ∈ l := by
                  rw [List.getD_eq_getElem?_getD, List.getElem?_eq_getElem (by have := HLL.out; omega)]
                  exact List.getElem_mem _
                have hlk := keysR_look hmem
                obtain ⟨kk, hkk⟩ : ∃ z, l.getD i3 [] = z := ⟨_, rfl⟩
                rw [hkk] at c0 hlk
                have hra1 := congrArg List.length HRA.out
                rw [List.length_map] at hra1
                have hgt := mgetr_c HTZ.out.a (by have := HKL.out; omega) kk
                rw [HRA.out] at hgt
                have hul : (text kk).toList.isEmpty = kk.isEmpty := by rw [text_toList]
                obtain ⟨LK, hLK⟩ : ∃ z, look (keysR l) kk = z := ⟨_, rfl⟩
                rw [hLK] at hlk hgt
                obtain ⟨tk, htk⟩ : ∃ z, text kk = z := ⟨_, rfl⟩
                rw [htk] at c0 hgt hul
                have HGT := Lib.hid hgt
                have HBZ3 := Lib.hid hbz
                clear hat hmem hkk hgt hLK htk hbz hra1
                cases LK with
                | none =>
                  have hke : kk.isEmpty = true := by
                    cases kk with
                    | nil => rfl
                    | cons _ _ => simp at hlk
                  rw [hke] at hul
                  clear hlk hke
                  go_upto_region 27 with (go_at_call 22; (with_reducible refine HGT.out.mono ?_); intro e5 w5 hp5; obtain ⟨rfl, hb5⟩ := hp5.none)
                  have hal := alloc_below w5 (.cells #[.string ⟨#[]⟩, .slice none 0 0] 30)
                  have HB6 := Lib.hid (HBZ3.out.trans ((hb5.trans (hal.mono hb5.size)).mono HBZ3.out.size))
                  clear hb5 hal c0
                  go_wp2
                  go_roundw
                  case rel => exact ⟨i3 + 1, by omega, by go_num, HB6.out⟩
                  case measure => simp [intOf]; omega
                | some cs9 =>
                  have hke : kk.isEmpty = false := by
                    cases kk with
                    | nil => simp at hlk
                    | cons _ _ => rfl
                  rw [hke] at hul
                  clear hlk hke
                  go_upto_region 27 with (go_at_call 22; (with_reducible refine HGT.out.mono ?_); intro e5 w5 hp5; obtain ⟨a5, c5, rfl, ho5, hb5⟩ := hp5.some)
                  have hal := alloc_below w5 (.cells #[.string tk, .slice a5 cs9.length c5] 30)
                  have HB6 := Lib.hid (HBZ3.out.trans ((hb5.trans (hal.mono hb5.size)).mono HBZ3.out.size))
                  clear hb5 hal c0 ho5
                  go_wp2
                  go_roundw
                  case rel => exact ⟨i3 + 1, by omega, by go_num, HB6.out⟩
                  case measure => simp [intOf]; omega
              · obtain rfl : i3 = i := by omega
                have hra2 : (rowsOf BA).length = i2 := by
                  have h9 := congrArg List.length HRA.out
                  rw [List.length_map] at h9
                  rw [h9, HMK.out]
                have hrb2 : (rowsOf BB).length = i2 := by
                  have h9 := congrArg List.length HRB.out
                  rw [List.length_map] at h9
                  rw [h9, HMK.out]
                have hi2 : i2 ≤ 200 := by have := HKL.out; have := HMK.out; omega
                have hhd := HTZ.out.a.head
                rw [hra2] at hhd
                have HLN := Lib.hid (mlen_c hhd)
                have hsb : Calls Try.prog 24 #[.pointer (some ⟨qb, 0, none⟩), .string ⟨#[]⟩, .string ⟨#[]⟩, .int .i64 1000] wr (fun e w' => ∃ v L, e = .returned v ∧ OwnRs w' wr.heap.size v L ∧ L.map Rw.pr = scanP ((rowsOf BB).map Rw.pr) [] [] 1000 ∧ Below wr.heap.size wr w') := mscanp_c HTZ.out.b (by omega) [] [] 1000
                clear hrb2 hi2
                rw [HRB.out, scan_whole (by have := HKL.out; omega)] at hsb
                have HSB := Lib.hid hsb
                have HBZ3 := Lib.hid hbz
                clear hra2 hhd hsb hbz
                go_wp2_with (first
                  | (go_at_call 28; (with_reducible refine HLN.out.mono ?_); rintro e5 w5 ⟨rfl, rfl⟩)
                  | (go_at_call 24; (with_reducible refine HSB.out.mono ?_); rintro e6 w6 ⟨v6, L6, rfl, ho6, hl6, hb6⟩; obtain ⟨a6, c6, rfl, hrw6⟩ := ho6.all; have HRW6 := Lib.hid hrw6; have HL6 := Lib.hid hl6; have HB6 := Lib.hid (HBZ3.out.trans (hb6.mono HBZ3.out.size)); clear ho6 hl6 hb6 hrw6)
                  | (go_at_call 26; (with_reducible refine (rall2_c (HRW3.out.below HB6.out) HRW6.out).mono ?_); rintro e7 w7 ⟨rfl, hb7⟩; rw [show decide (L1.map Rw.pr = L6.map Rw.pr) = true from decide_eq_true (HL3.out.trans HL6.out.symm)]; have HB7 := Lib.hid (HB6.out.trans (hb7.mono HB6.out.size)); clear hb7)
                  | (go_at_call 15; (with_reducible refine (slives_c _).mono ?_); rintro e8 w8 ⟨rfl, hb8⟩; have HB8 := Lib.hid (HB7.out.trans (hb8.mono HB7.out.size)); clear hb8))
                go_ret
                exact ⟨rfl, HB3.out.trans (HB8.out.mono HB3.out.size)⟩
end Go.Proofs.Ytbpgfmcnpifmdaa
end

