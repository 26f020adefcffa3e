/-
  Merged: E0 MB E1 I4 I5 I6 I7 I8 I9 IA IB IC ID.
-/
import Derived.Deep.QuietTactic
import Derived.StillTail
import Derived.Lib.QuietBelow
import Derived.Test.YtjkifdjjcfempaaDoorRows
import Derived.WalkKit
import Derived.Lib.Hide
import Derived.BigQuiet
import Derived.BigRegion
import Derived.Deep.Cut
import Derived.Deep.MidRow
import Derived.Great.BuildSlice
import Derived.Outline
import Derived.OwnWalk
import Derived.Laws.Rows
import Derived.ChangeKeysEq
import Derived.Laws.StructEq
import Derived.WalkSpells
import Derived.WalkLawsBesides
import Derived.Laws.CopyOwn
import Derived.WalkSmall
import Derived.Lib.LaidTab
import Derived.Deep.RegionWith
import Derived.Lib.MinMax
import Derived.WideShapes
import Derived.ChangeSame
import Derived.OpenShut
import Derived.Deep.Slices
import Derived.Deep.AppendSrc
import Derived.Lib.AppendZerosOnto
import Derived.Lib.SliceRun
import Derived.Lib.Walk
import Derived.Lib.OthersKept
import Derived.Laws.RangeAny
import Derived.Maps.OwnOps
import Derived.Maps.Views
import Derived.ChangeSlices
import Derived.ChangeArms
import Derived.Deep.DeepAppendWide
import Derived.OrdersIn
import Derived.TacticsIn
import Derived.RangeFuncNested
import Derived.RangeFuncBound
import Derived.RangeFuncCalls
import Derived.RangeFuncLeaves
import Derived.Maps.AppendAt
import Derived.Shelf.Abstract
import Derived.OwnWalkIn
import Derived.TacticsInMore
import Derived.LoopNIn
import Derived.LoopIn
import Derived.DeepKeys4
import Derived.Maps.Own
import Derived.Maps.Range
import Derived.Sort.Grow
import Derived.Shelf.SlSortCmp.WholeK
import Derived.Sort.MapsRangeIn
import Derived.Shelf.Small.Bits
import Derived.Test.YtjkifdjjcfempaaDoorProg
import Derived.Test.YtjkifdjjcfempaaDoorSC3

section
namespace Go.Proofs.YtjkifdjjcfempaaDoor
open Go.RowKit Go Go.Sort
set_option linter.unusedVariables false
set_option maxRecDepth 20000

section
variable {α : Type} {sz : Nat} {arr : α → Array Value} {z : α}
theorem lCells_length (hs : ∀ c, (arr c).size = sz) (l : List α) : (lCells arr l).length = l.length * sz := by
  induction l with
  | nil => simp [lCells]
  | cons c l ih =>
    simp only [lCells, List.flatMap_cons, List.length_append, List.length_cons] at ih ⊢
    rw [ih, Array.length_toList, hs c, Nat.succ_mul]
    omega
theorem OwnL.of_block {ty : TypeId} {w w' : World} {B : Nat} {v : Value} {l : List α} (h : OwnL sz ty arr w B v l) (hb : ∀ q, v.ownBlock = some q → w'.heap[q]? = w.heap[q]?) : OwnL sz ty arr w' B v l := by
  obtain ⟨hlen, ⟨ev, hn⟩ | ⟨g, cap, cur, ev, hB, hg, hnc, hcm, hcs, htake⟩⟩ := h
  · exact ⟨hlen, .inl ⟨ev, hn⟩⟩
  · exact ⟨hlen, .inr ⟨g, cap, cur, ev, hB, (hb g (by subst ev; rfl)).trans hg, hnc, hcm, hcs, htake⟩⟩
end
end Go.Proofs.YtjkifdjjcfempaaDoor
end

section
namespace Go.Proofs.YtjkifdjjcfempaaDoor
open Go.RowKit Go Go.Sort
set_option linter.unusedVariables false
set_option maxRecDepth 20000

attribute [local go_sem] Oper.semAt_some
theorem KP.putObj {n₀ : Nat} {Bs : Nat → Prop} (W : World) (l : Nat) (o o' : Obj) (hl : n₀ ≤ l) (hb : ∀ k, Bs k → k < l) (h : W.heap[l]? = some o) : KP n₀ Bs W (W.putObj l o') :=
  ⟨(Below.refl n₀ W).grown (grownBy_putObj' W l o') (by have := (Array.getElem?_eq_some_iff.1 h).1; omega) (fun k e => by cases e; omega),
   fun k o hk ho => (World.putObj_heap_other (by have := hb k hk; omega)).trans ho⟩
theorem grown_none {W W' : World} (h : Below W.heap.size W W') : W.grownBy W' none := ⟨h.os, h.tape, h.output, h.size, fun i hi _ => h.block i hi⟩
end Go.Proofs.YtjkifdjjcfempaaDoor
end

section
namespace Go.Proofs.YtjkifdjjcfempaaDoor
open Go.RowKit Go Go.Sort
set_option linter.unusedVariables false
set_option maxRecDepth 20000

theorem Wr.ext' {a b : Wr} (h1 : a.k = b.k) (h2 : a.i = b.i) (h3 : a.g = b.g) (h4 : a.v = b.v) : a = b := by
  cases a; cases b; simp_all
end Go.Proofs.YtjkifdjjcfempaaDoor
end

section
namespace Go.Proofs.YtjkifdjjcfempaaDoor
open Go.RowKit Go Go.Sort Go.Maps Go.WideMaps
set_option linter.unusedVariables false
set_option maxRecDepth 20000

def FitW (x : Wr) : Prop := x.k.length ≤ maxLen ∧ IsI64 x.i
def plW (x : Wr) : Lit := plL x.k x.i
theorem plW_pl {x y : Wr} (hx : FitW x) (hy : FitW y) (h : plW x = plW y) : x.pl = y.pl := by
  obtain ⟨e1, e2⟩ := place_inj hx.1 hx.2 hy.1 hy.2 h
  unfold Wr.pl
  rw [e1, e2]
theorem plW_of {x y : Wr} (h : x.pl = y.pl) : plW x = plW y := by
  injection h with e1 e2
  unfold plW
  rw [e1, e2]
theorem plW_lit (x : Wr) : WideAt.IsKeyLit (plW x) := by unfold plW plL; simp [WideAt.IsKeyLit]
theorem wrD_inj {x y : Wr} (h : wrD x = wrD y) : x = y := by
  obtain ⟨k, i, g, v⟩ := x
  obtain ⟨k', i', g', v'⟩ := y
  simp [wrD] at h
  obtain ⟨rfl, rfl, rfl, rfl⟩ := h
  rfl
theorem wrElem_inv (v : Value) (y : DataW Unit × List MemPlace) (h : wrElem v = some y) : ∃ c : Wr, v = .agg c.arr := by
  unfold wrElem at h
  split at h
  · rename_i cs
    split at h
    · rename_i k i g t e
      refine ⟨⟨k.toList, i, g, t.toList⟩, ?_⟩
      have : cs = #[.string k, .int .i64 i, .bool g, .string t] := by
        apply Array.ext'
        exact e
      rw [this]
      have ht : ∀ s : ByteArray, s = text s.toList := fun s => by
        obtain ⟨⟨d⟩⟩ := s
        exact (congrArg text (text_toList d)).symm
      simp only [Wr.arr]
      rw [← ht k, ← ht t]
    · cases h
  · cases h
/-- No two writes of a sorted list are of one place. -/
theorem ws_one {l : List Wr} (h : WS l) {x y : Wr} (hx : x ∈ l) (hy : y ∈ l) (e : x.pl = y.pl) : x = y := by
  unfold WS at h
  induction l with
  | nil => cases hx
  | cons a l ih =>
    rw [List.pairwise_cons] at h
    rcases List.mem_cons.1 hx with h1 | h1
    · rcases List.mem_cons.1 hy with h2 | h2
      · rw [h1, h2]
      · have := h.1 y h2
        rw [← h1, ahead_pl e] at this
        cases this
    · rcases List.mem_cons.1 hy with h2 | h2
      · have := h.1 x h1
        rw [← h2, ahead_pl e.symm] at this
        cases this
      · exact ih h.2 h1 h2
theorem canonN_mem (l : List Wr) : ∀ k, k ≤ l.length → ∀ z ∈ canonN l k, z ∈ l
  | 0, _, z, hz => by cases hz
  | k + 1, hk, z, hz => by
    rcases (cins_mem (canonN_ws l k)).1 hz with rfl | ⟨h1, _⟩
    · rw [List.getD_eq_getElem?_getD, List.getElem?_eq_getElem (by omega)]
      exact List.getElem_mem _
    · exact canonN_mem l k (by omega) z h1
theorem owns_place_below {w w' : World} {R : Value → Option (DataW Unit × List MemPlace)} {B k : Nat} {D : DataW Unit} (h : w.ownsMap Tryd.prog 47 R B k D) (hb : Below w.heap.size w w') : w'.ownsMap Tryd.prog 47 R B k D := by
  have hlt := h.lt
  obtain ⟨es, clock, h1, rest⟩ := h
  exact ⟨es, clock, (hb.block B hlt).trans h1, rest⟩
/-- What the map tells behind k writes. -/
def MapW (l : List Wr) (k : Nat) (D : DataW Unit) : Prop :=
  IsMap D ∧ (∀ x ∈ canonN l k, ∀ z, D.atKey (plW x) z = wrD x) ∧ (∀ q, has D q = true → ∃ x ∈ canonN l k, q = plW x)
theorem mapW_none (l : List Wr) : MapW l 0 (.map []) := ⟨isMap_empty, fun x hx => (by cases hx), fun q hq => (by cases hq)⟩
theorem mapW_step {l : List Wr} (hf : ∀ x ∈ l, FitW x) {k : Nat} (hk : k < l.length) {D : DataW Unit} (h : MapW l k D) {y : Wr} (hy : l.getD k Wr.zero = y) : MapW l (k + 1) (D.put (plW y) (wrD y)) := by
  have hyl : y ∈ l := by
    rw [← hy, List.getD_eq_getElem?_getD, List.getElem?_eq_getElem hk]
    exact List.getElem_mem _
  have hm : ∀ z, z ∈ canonN l (k + 1) ↔ z = y ∨ (z ∈ canonN l k ∧ z.pl ≠ y.pl) := fun z => by
    show z ∈ cinsS (l.getD k Wr.zero) (canonN l k) ↔ _
    rw [hy]
    exact cins_mem (canonN_ws l k)
  refine ⟨h.1.put _ _, fun x hx z => ?_, fun q hq => ?_⟩
  · rcases (hm x).1 hx with rfl | ⟨h1, h2⟩
    · exact atKey_put_same h.1 (plW_lit _) _ _
    · rw [atKey_put_other (fun e => h2 (plW_pl (hf x (canonN_mem l k (by omega) x h1)) (hf y hyl) e))]
      exact h.2.1 x h1 z
  · by_cases e : q = plW y
    · exact ⟨y, (hm y).2 (.inl rfl), e⟩
    · rw [has_put_other e] at hq
      obtain ⟨x, hx, rfl⟩ := h.2.2 q hq
      exact ⟨x, (hm x).2 (.inr ⟨hx, fun e' => e (plW_of e')⟩), rfl⟩
/-- What has come out so far. -/
def GotW (O : List Wr) (left : Lit → Bool) (xs : List Wr) : Prop := xs.Nodup ∧ ∀ z, z ∈ xs ↔ (z ∈ O ∧ left (plW z) = false)
theorem gotW_start {l : List Wr} {k : Nat} {D : DataW Unit} (h : MapW l k D) : GotW (canonN l k) (has D) [] :=
  ⟨List.nodup_nil, fun z => ⟨fun hz => (by cases hz), fun ⟨h1, h2⟩ => by rw [has_true_of_atKey (h.2.1 z h1)] at h2; cases h2⟩⟩
theorem gotW_entry {l : List Wr} {k : Nat} {D : DataW Unit} (h : MapW l k D) {c : Wr} {kl : Lit} (hat : ∀ z, D.atKey kl z = wrD c) : c ∈ canonN l k ∧ kl = plW c := by
  obtain ⟨x, hx, rfl⟩ := h.2.2 kl (has_true_of_atKey hat)
  obtain rfl : x = c := wrD_inj ((h.2.1 x hx .nil).symm.trans (hat .nil))
  exact ⟨hx, rfl⟩
theorem gotW_step {l : List Wr} (hf : ∀ x ∈ l, FitW x) {k : Nat} (hk : k ≤ l.length) {left : Lit → Bool} {xs : List Wr} (h : GotW (canonN l k) left xs) {c : Wr} (hc : c ∈ canonN l k) (hl : left (plW c) = true) : GotW (canonN l k) (fun z => left z && !z.sameKey (plW c)) (xs ++ [c]) := by
  refine ⟨List.nodup_append.2 ⟨h.1, List.nodup_cons.2 ⟨List.not_mem_nil, List.nodup_nil⟩, fun a ha b hb => ?_⟩, fun z => ?_⟩
  · simp only [List.mem_singleton] at hb
    subst hb
    rintro rfl
    have := ((h.2 a).1 ha).2
    rw [hl] at this
    cases this
  · rw [List.mem_append, List.mem_singleton, h.2 z]
    constructor
    · rintro (⟨h1, h2⟩ | rfl)
      · exact ⟨h1, by simp [h2]⟩
      · exact ⟨hc, by simp [WideAt.sameKey_self (plW_lit _)]⟩
    · rintro ⟨h1, h2⟩
      simp only [Bool.and_eq_false_iff, Bool.not_eq_false'] at h2
      rcases h2 with h2 | h2
      · exact .inl ⟨h1, h2⟩
      · have hf1 := hf z (canonN_mem l k hk z h1)
        have hf2 := hf c (canonN_mem l k hk c hc)
        exact .inr (ws_one (canonN_ws l k) h1 hc (plW_pl hf1 hf2 (WideAt.sameKey_eq h2)))
theorem gotW_end {O : List Wr} {left : Lit → Bool} {xs : List Wr} (h : GotW O left xs) (hl : ∀ q, left q = false) : xs.Nodup ∧ ∀ z, z ∈ xs ↔ z ∈ O :=
  ⟨h.1, fun z => by rw [h.2 z, hl]; simp⟩
theorem len_of_sub {α : Type} [BEq α] [LawfulBEq α] : ∀ {xs O : List α}, xs.Nodup → (∀ z ∈ xs, z ∈ O) → xs.length ≤ O.length
  | [], _, _, _ => Nat.zero_le _
  | x :: xs, O, hn, h => by
    rw [List.nodup_cons] at hn
    have hx := h x (List.mem_cons_self ..)
    have h1 : xs.length ≤ (O.erase x).length := len_of_sub hn.2 fun z hz => (List.mem_erase_of_ne (fun e : z = x => hn.1 (by rw [← e]; exact hz))).2 (h z (List.mem_cons_of_mem _ hz))
    have h2 : 0 < O.length := List.length_pos_of_mem hx
    rw [List.length_erase_of_mem hx] at h1
    simp only [List.length_cons]
    omega
theorem gotW_few {O : List Wr} {left : Lit → Bool} {xs : List Wr} (h : GotW O left xs) : xs.length ≤ O.length := len_of_sub h.1 fun z hz => ((h.2 z).1 hz).1
/-- Sorted, and with the members of a list without repeats that is in order: that list. -/
theorem ws_of_sorted {O ys : List Wr} (hO : WS O) (hn : ys.Nodup) (hm : ∀ z, z ∈ ys ↔ z ∈ O) (hs : ys.Pairwise (fun a b => aheadS b a = false)) : ys = O := by
  refine ws_ext ?_ hO hm
  unfold WS
  have h1 : ys.Pairwise (fun a b => a ≠ b ∧ aheadS b a = false) := List.Pairwise.and hn hs
  refine h1.imp_of_mem fun {a b} ha hb ⟨h2, h3⟩ => ?_
  cases h4 : aheadS a b with
  | true => rfl
  | false => exact absurd (ws_one hO ((hm a).1 ha) ((hm b).1 hb) (ahead_tot h4 h3)) h2
end Go.Proofs.YtjkifdjjcfempaaDoor
end

section
namespace Go.Proofs.YtjkifdjjcfempaaDoor
open Go.RowKit Go Go.Sort Go.Maps Go.WideMaps
set_option linter.unusedVariables false
set_option maxRecDepth 20000

def wenc (x : Wr) : Array Value := #[.agg x.arr]
attribute [local go_sem] Oper.semAt_some
set_option maxRecDepth 100000 in
set_option maxHeartbeats 6400000 in
theorem wvals_tells {l : List Wr} (hf : ∀ x ∈ l, FitW x) {k : Nat} (hk : k ≤ l.length) {D : DataW Unit} (hM : MapW l k D) {w : World} {b nn Bm N : Nat} (hm : w.heap[Bm]? = some (.cells #[.map (some b)] 45 (0, 0)))
    (hown : w.ownsMap Tryd.prog 47 wrElem b nn D) (hN : 1 ≤ N) :
    SeqTells Fence.wide N Tryd.prog 59 26 #[.pointer (some ⟨Bm, 0, none⟩)] wenc KeepsWalks (fun pre _ => pre.length < (canonN l k).length) (fun _ => True)
      (fun xs _ => xs.Nodup ∧ ∀ z, z ∈ xs ↔ z ∈ canonN l k) (fun _ _ => True) w := fun q J Jx W hW hJ hY h0 => by
  have hBm := (Array.getElem?_eq_some_iff.1 hm).1
  have hmW : W.cell? ⟨Bm, 0, none⟩ = some (.map (some b)) := by
    have := (hW.block Bm hBm).trans hm
    simp [World.cell?, this]
  have hownW : W.ownsMap Tryd.prog 47 wrElem b nn D := owns_place_below hown hW
  have HM := Lib.hid hM
  have HF := Lib.hid hf
  have HYY := Lib.hid @hY
  clear hm hown hW hBm hM hf hY
  refine callsIn_of_wp Tryd.func26 rfl trivial ?_ rfl
  simp only [Tryd.ntmps26, List.size_toArray, List.length_cons, List.length_nil, Nat.reduceAdd, Nat.reduceSub, Array.replicate_succ, Array.replicate_zero, List.push_toArray, List.append_toArray, List.nil_append, List.cons_append]
  gi_wp2_with (first
    | (gi_at_range; refine wpListIn_range_own _ rfl _ 45 rfl 47 28 place_law Tryd.underlying45 wrElem b nn D rfl hownW ?_; intro w0 hrg0 hg0 hs0)
    | gi_in)
  try go_frame
  gi_loopw [4] (fun _ wr => ∃ (left : Lit → Bool) (cnt : Nat) (ps : List Wr), wr.ranges Tryd.prog 47 wrElem b W.heap.size nn D left cnt ∧ GotW (canonN l k) left ps ∧ J ps wr)
    (fun _ wr => wr.rangeLeft b W.heap.size)
  case atStart =>
    exact ⟨_, _, [], hrg0, gotW_start HM.out, hJ [] W w0 none h0 hg0 (fun r e => by cases e)⟩
  case round =>
    obtain ⟨left, cnt, ps, hrg, hC, hJs⟩ := hrel
    gi_wp2_with (first
      | (gi_at_next; refine wpListIn_next_ranges _ rfl _ rfl 47 place_law wrElem (fun v : Value => v) (fun c : Wr => .agg c.arr) (fun key kl _ => ⟨key, rfl⟩) wrElem_inv b W.heap.size nn _ _ _ rfl hrg ?_ ?_)
      | gi_in)
    · intro hc0 hl0
      gi_wp2
      go_end0
      exact ⟨⟨_, rfl⟩, .inl ⟨ps, gotW_end hC hl0, hJs⟩⟩
    · intro x c kl yd yp w2 cnt2 hkey hlk hv hat hrg2 hlt hg2 hs2 hen
      rw [wrElem_mk] at hv
      obtain rfl : wrD c = yd := (Prod.mk.inj (Option.some.inj hv)).1
      obtain ⟨hcO, rfl⟩ := gotW_entry HM.out hat
      have hC2 := gotW_step HF.out hk hC hcO hlk
      have hJ2 : J ps w2 := hJ ps wr w2 (some W.heap.size) hJs hg2 (fun r e => by cases e; obtain ⟨o, ho, hw⟩ := hrg.iter_walk; exact ⟨Nat.le_refl _, o, ho, .inl hw⟩)
      have hlen := gotW_few hC2
      rw [List.length_append, List.length_singleton] at hlen
      have hJ3 : J ps (w2.alloc (.cells c.arr 28)) := hJ ps w2 _ none hJ2 (grown_none (alloc_below _ _)) (fun r e => by cases e)
      have hrg3 := hrg2.of_walks (KeepsWalks.alloc w2 (.cells c.arr 28))
      obtain ⟨fn, tmps, assign, body, hy, hR⟩ := HYY.out ps c _ hJ3 (by omega)
      have HRR := Lib.hid @hR
      have HRG := Lib.hid hrg
      have HRG3 := Lib.hid hrg3
      have HC2 := Lib.hid hC2
      clear hs2 hR hC hC2 hat hv hkey hcO hJs hJ2 hJ3 hlen hrg hrg2 hrg3 hg2
      obtain ⟨ck, ci, cg, cv⟩ := c
      simp only [wenc, Wr.arr] at hy hen ⊢
      gi_wp2
      refine HRR.out.mono ?_
      rintro e W3 (⟨rfl, hJ4, hk3, -⟩ | ⟨rfl, hJx4, -⟩)
      · gi_wp2
        have hrg4 := HRG3.out.of_walks hk3
        go_roundw
        case rel => exact ⟨_, cnt2, ps ++ [⟨ck, ci, cg, cv⟩], hrg4, HC2.out, hJ4⟩
        case measure => rw [hrg4.left_eq, HRG.out.left_eq]; exact hlt
      · gi_wp2
        refine bodyPost_ret (results_none rfl _ _ _) rfl ?_
        exact ⟨⟨_, rfl⟩, .inr ⟨ps ++ [⟨ck, ci, cg, cv⟩], trivial, hJx4⟩⟩
end Go.Proofs.YtjkifdjjcfempaaDoor
end

section
namespace Go.Proofs.YtjkifdjjcfempaaDoor
open Go.RowKit Go Go.Sort
set_option linter.unusedVariables false
set_option maxRecDepth 20000

theorem OwnW.typed {W : World} {B : Nat} {v : Value} {L : List Wr} (h : OwnW W B v L) {q : Nat} (hq : v.ownBlock = some q) : ∃ cur fr, W.heap[q]? = some (.cells cur 28 fr) := by
  obtain ⟨hlen, ⟨ev, hn⟩ | ⟨g, cap, cur, ev, hB, hg, hnc, hcm, hcs, htake⟩⟩ := h
  · subst ev; cases hq
  · subst ev
    obtain rfl : g = q := Option.some.inj hq
    exact ⟨cur, _, hg⟩
theorem OwnW.of_keep {X Y : World} {B : Nat} {v : Value} {L : List Wr} (h : OwnW X B v L) (hk : ∀ (q : Nat) (cs : Array Value) (fr : Nat × Nat), X.heap[q]? = some (.cells cs 28 fr) → Y.heap[q]? = X.heap[q]?) : OwnW Y B v L := by
  refine OwnL.of_block h fun q hq => ?_
  obtain ⟨cur, fr, hc⟩ := h.typed hq
  exact hk q cur fr hc
theorem wpListIn_append_wr {F : Fence} {n' : Nat} {w : World} {ops : Array Oper} {rest : List Oper} {o : Oper} {ac : Act} {Q : Exit → Act → World → Prop} (hgd : o.guard = none) (os ox : Operand)
    (ho : o.op = .call { callee := .builtin .append, args := #[os, ox], argTypes := #[22, 22] })
    {base : Nat} {u : Value} {l : List Wr} (hs : ac.eval os = u) (hown : OwnW w base u l) (k : List UInt8) (i : Int) (g : Bool) (v : List UInt8) {e9 : TypeId}
    (hx : ac.eval ox = .slice (some ⟨w.heap.size, 0, none⟩) 1 1) (h63 : l.length ≤ 1000000000) (hbase : base ≤ w.heap.size)
    (h : ∀ v' w', OwnW w' base v' (l ++ [⟨k, i, g, v⟩]) → (w.alloc (.cells #[.string (text k), .int .i64 i, .bool g, .string (text v)] e9)).grownBy w' u.ownBlock → wpListIn F n' Tryd.prog ops Q rest (ac.put o.dst v') w') :
    wpListIn F n' Tryd.prog ops Q (o :: rest) ac (w.alloc (.cells #[.string (text k), .int .i64 i, .bool g, .string (text v)] e9)) := by
  obtain ⟨i0, hi, hz0, hz1, hz2⟩ := info_parts Tryd.infoW
  refine wpListIn_append_own (P := Tryd.prog) (w.alloc (.cells #[.string (text k), .int .i64 i, .bool g, .string (text v)] e9)) hgd os ox 22 ho base 28 i0 _ 4 48 Tryd.underlying22 hi hz0 hz1 hz2 rfl (by decide) u l.length (lCells Wr.arr l) hs (World.ownsRow.alloc hown _)
    ⟨w.heap.size, 0, none⟩ 1 1 [.string (text k), .int .i64 i, .bool g, .string (text v)] hx rfl ?_ ?_ (by unfold maxLen; omega) (by omega) (by simp; omega) ?_
  · intro j v' hj
    rw [addr_add, Nat.zero_add, cell_of_row _ _ j #[.string (text k), .int .i64 i, .bool g, .string (text v)] e9 (0, 0) (by rw [heap_alloc_new])]
    rw [← hj]; simp
  · intro u hu
    simp only [List.mem_cons, List.not_mem_nil, or_false] at hu
    rcases hu with rfl | rfl | rfl | rfl <;> rfl
  · intro v' w' h2 h3 _
    refine h v' w' ?_ h3
    show World.ownsRow _ _ _ _ _ _ _
    rw [List.length_append, lCells_append]
    exact h2
theorem SeqTells.later {α : Type} {F : Fence} {n : Nat} {P : Program} {T : TypeId} {g : Nat} {lb : Array Value} {encs : α → Array Value} {Kp : World → World → Prop} {Qx : List α → α → Prop} {G : α → Prop} {S Sp : List α → World → Prop} {w w' : World}
    (h : SeqTells F n P T g lb encs Kp Qx G S Sp w) (hb : Below w.heap.size w w') : SeqTells F n P T g lb encs Kp Qx G S Sp w' :=
  fun l J Jx W hW hJ hY h0 => h l J Jx W (hb.trans (hW.mono hb.size)) hJ hY h0
/-- Between two rounds. -/
def ApI (B n₀ B9 : Nat) (w : World) (xs : List Wr) (W : World) : Prop :=
  ∃ v, OwnW W B9 v xs ∧ W.heap[B]? = some (.cells #[v] 22 (0, 0)) ∧ Below n₀ w W ∧ B9 ≤ W.heap.size
theorem ApI.own {B n₀ B9 B8 : Nat} {w : World} (h1 : n₀ ≤ B8) (h2 : n₀ ≤ B9) : OwnT B8 59 (ApI B n₀ B9 w) := by
  rintro xs X Y row ⟨v, ho, hb, hw, hs⟩ hg hr
  exact ⟨v, ho.of_keep fun q cs fr h => (turn_keep hg hr h (by decide)).trans h.symm, turn_keep hg hr hb (by decide), turn_below hg hr h1 (Nat.le_trans h2 hs) hw, Nat.le_trans hs hg.size⟩
def ApA (tm : Nat → Wr → Array Value) (z : Wr) (a' : Act) (W : World) : Prop := ∃ g, W.heap[g]? = some (.cells z.arr 28 (0, 0)) ∧ a' = { tmps := tm g z, defers := [] }
theorem ApA.own {tm : Nat → Wr → Array Value} {B8 : Nat} (z : Wr) (a' : Act) : OwnFrom B8 (fun (_ : Unit) W => ApA tm z a' W) := by
  rintro _ X Y row ⟨g, hb, e⟩ hg hr
  have hr' := fun r e => (hr r e).2
  exact ⟨g, grownBy_keeps_cells hg hr' hb rfl |>.trans hb, e⟩
/-- What a call leaves that lays a list of writes. -/
def ApPost (S : List Wr → Prop) (w : World) (e : Ending) (w' : World) : Prop := ∃ v xs, e = .returned v ∧ S xs ∧ OwnW w' w.heap.size v xs ∧ Below w.heap.size w w'
theorem OwnW.base {W : World} {B B' : Nat} {v : Value} {L : List Wr} (h : OwnW W B v L) (hB : B' ≤ B) : OwnW W B' v L := by
  refine ⟨h.1, ?_⟩
  rcases h.2 with hn | ⟨g, cap, cur, hv, hbg, rest⟩
  · exact .inl hn
  · exact .inr ⟨g, cap, cur, hv, Nat.le_trans hB hbg, rest⟩
attribute [local go_sem] Oper.semAt_some

set_option maxRecDepth 100000 in
set_option maxHeartbeats 6400000 in
theorem appseq_c {w : World} {gf : Nat} {lb : Array Value} {S : List Wr → Prop} {M : Nat} (hM : M ≤ 1000000000) (hen : ∀ args w, (callFunc gf args).run Tryd.prog w = .ok (.enter gf args) w)
    (hseq : SeqTells Fence.wide 2 Tryd.prog 59 gf lb wenc KeepsWalks (fun pre _ => pre.length < M) (fun _ => True) (fun xs _ => S xs) (fun _ _ => True) w) :
    Calls Tryd.prog 40 #[.slice none 0 0, .func (.func gf) #[] lb] w (ApPost S w) := by
  have hb0 := alloc_below w (.cells #[.slice none 0 0] 22)
  have e0 := heap_alloc_new w (.cells #[.slice none 0 0] 22)
  have hsz0 : (w.alloc (.cells #[.slice none 0 0] 22)).heap.size = w.heap.size + 1 := by simp
  refine (callsIn_wide (n := 3)).1 ?_
  refine callsIn_of_wp_marks Tryd.func40 rfl trivial ?_ rfl
  simp only [Tryd.ntmps40, List.size_toArray, List.length_cons, List.length_nil, Nat.reduceAdd, Nat.reduceSub, Array.replicate_succ, Array.replicate_zero, List.push_toArray, List.append_toArray, List.nil_append, List.cons_append]
  gi_wp2_with fail
  obtain ⟨W0, hW0⟩ : ∃ X, w.alloc (.cells #[.slice none 0 0] 22) = X := ⟨_, rfl⟩
  obtain ⟨B, hB⟩ : ∃ q, w.heap.size = q := ⟨_, rfl⟩
  have HBe := Lib.hid hB
  rw [hW0] at hb0 e0 hsz0 ⊢
  rw [hB] at e0 hsz0 ⊢
  clear hW0 hB
  have hn9 : w.heap.size ≤ W0.heap.size := hb0.size
  have HSZ0 := Lib.hid hsz0
  refine wpIn_range_tells (F := Fence.wide) rfl (by omega) (gf := gf) (lb := lb) rfl trivial hen
    (hseq.later hb0)
    KeepsWalks.trans (fun W l o o' hl h ho hw => KeepsWalks.putObj _ h hw)
    (fun xs X Y row hs hg hr => hs) (fun xs X Y row hs hg hr => hs) (fun _ => rfl)
    (ApI B w.heap.size W0.heap.size w) (fun _ _ _ => False) (ApI.own hn9 hn9) (fun c xs X Y row hs hg hr => hs) ⟨.slice none 0 0, OwnL.nil _ _ _, e0, hb0, Nat.le_refl _⟩
    (ApA (fun g z => #[.slice none 0 0, .func (.func gf) #[] lb, .pointer (some ⟨B, 0, none⟩), undef, .slice none 0 0, .pointer (some ⟨g, 0, none⟩), .func (.func gf) #[] lb, .agg z.arr, undef, undef, undef, undef, undef])) (fun z a' => ApA.own z a') ?assign ?body ?done ?stop
  case assign =>
    clear hsz0
    rintro q pre z W K ⟨v, ho, hb, hw, hs2⟩ hq hK
    dsimp only [wenc]
    obtain ⟨zk, zi, zg, zv⟩ := z
    have HK := Lib.hid @hK
    have HKP := Lib.hid (KeepsWalks.alloc W (.cells (Wr.arr ⟨zk, zi, zg, zv⟩) 28))
    have HI := Lib.hid ((ApI.own hn9 hn9).from.alloc (.cells (Wr.arr ⟨zk, zi, zg, zv⟩) 28) (show ApI B w.heap.size W0.heap.size w pre W from ⟨_, ho, hb, hw, hs2⟩))
    clear hK ho hb hw hs2 hq
    simp only [Wr.arr] at HKP HI ⊢
    gi_wp2
    exact HK.out _ _ ((KeepsOthers.alloc _ _).from _) HKP.out HI.out ⟨W.heap.size, heap_alloc_new W _, rfl⟩
  case body =>
    clear hsz0
    rintro q pre z a' W ⟨v, ho, hb, hw, hs2⟩ ⟨g, hgz, rfl⟩ hq
    obtain ⟨a0, c0, ev, -⟩ := OwnL.ls (z := Wr.zero) wr_size ho
    subst ev
    obtain ⟨zk, zi, zg, zv⟩ := z
    simp only [Wr.arr] at hgz ⊢
    obtain ⟨r0, r1, r2, r3⟩ := wr_cells' hgz
    have d0 : W.cell? ⟨B, 0, none⟩ = some (.slice a0 pre.length c0) := by rw [cell_of_row _ B 0 _ _ (0, 0) hb]; rfl
    have HO := Lib.hid ho
    have HS2 := Lib.hid hs2
    have hfin : ∀ (v' : Value) (w' : World), OwnW w' W0.heap.size v' (pre ++ [⟨zk, zi, zg, zv⟩]) → (W.alloc (.cells #[.string (text zk), .int .i64 zi, .bool zg, .string (text zv)] 28)).grownBy w' (Value.ownBlock (.slice a0 pre.length c0)) →
        (∃ cs, w'.heap[B]? = some (.cells cs 22 (0, 0)) ∧ cs.size = 1) ∧ RoundPost W0.heap.size KeepsWalks (fun _ => True) (ApI B w.heap.size W0.heap.size w) (fun _ _ _ => False) pre ⟨zk, zi, zg, zv⟩ W .normal { tmps := #[], defers := [] } (w'.setCell ⟨B, 0, none⟩ v') := fun v' w' ho' hg' => by
      have hlow : ∀ j, j < W0.heap.size → w'.heap[j]? = W.heap[j]? := fun j hj =>
        (hg'.block j (by simp; omega) (fun e => by have := (ho.lt j e.symm).1; omega)).trans (Below.heap_alloc W _ j (by omega))
      have hbw := (hlow B (by have := HSZ0.out; omega)).trans hb
      have hbel : Below w.heap.size W w' := ((Below.refl _ W).alloc (by have := hw.size; omega) _).grown hg' (by have := hw.size; simp; omega) (fun k e => by have := (ho.lt k e).1; omega)
      have hnw : ∀ (j : Nat) (o : Obj), (Value.slice a0 pre.length c0).ownBlock = some j → (W.alloc (.cells #[.string (text zk), .int .i64 zi, .bool zg, .string (text zv)] 28)).heap[j]? = some o → o.isCells = true := fun j o e h => by
        obtain ⟨cur, fr, hx⟩ := OwnW.typed (W := W.alloc (.cells #[.string (text zk), .int .i64 zi, .bool zg, .string (text zv)] 28)) (OwnL.kept ho (alloc_below W _)) e
        rw [hx] at h
        cases h
        rfl
      refine ⟨⟨_, hbw, rfl⟩, (((KeepsOthers.alloc _ _).trans (KeepsOthers.of_grownBy hg' hnw)).trans (KeepsOthers.setCell _ _ _)).from _, ((KeepsWalks.alloc _ _).trans (KeepsWalks.of_grownBy hg' (fun j o e h => by have := hnw j o e h; cases o <;> first | rfl | cases this))).trans (KeepsWalks.setCell _ _ _), trivial, ?_⟩
      refine ⟨v', OwnW.of_keep ho' fun q cs fr h => heap_setCell_other _ _ _ _ (fun e => ?_), (heap_setCell_same _ B 0 _ _ _ hbw).trans rfl, (hw.trans (hbel.mono (Nat.le_refl _))).setCell (p := ⟨B, 0, none⟩) (by have := HBe.out; simp; omega) _, by simp only [World.size_setCell]; exact Nat.le_trans hs2 (Nat.le_trans (alloc_below W _).size hg'.size)⟩
      subst e
      rw [hbw] at h
      injection h with h
      injection h with _ h _
      exact absurd h (by decide)
    have HFIN := Lib.hid hfin
    clear hfin ho hb hw hs2 hgz
    gi_wp2_with (gi_at_builtin; refine wpListIn_append_wr rfl _ _ rfl (u := .slice a0 pre.length c0) rfl HO.out zk zi zg zv rfl (by omega) HS2.out ?_; intro v' w' ho' hg'; obtain ⟨⟨cs9, hx9, hz9⟩, hr9⟩ := HFIN.out v' w' ho' hg'; obtain ⟨a8, c8, e8, -⟩ := OwnL.ls (z := Wr.zero) wr_size ho'; rw [List.length_append, List.length_singleton] at e8; subst e8; have HR9 := Lib.hid hr9; clear hr9 ho' hg'; have dfw : w'.frozen? ⟨B, 0, none⟩ = false := frozen_of_row _ B 0 _ _ hx9; have d0w : w'.cell? ⟨B, 0, none⟩ = some (cs9.getD 0 undef) := by rw [cell_of_row _ B 0 _ _ (0, 0) hx9]; simp [Array.getD, hz9])
    exact HR9.out
  case done =>
    clear hsz0
    rintro D xs W hD hxs ⟨v, ho, hb, hw, hs2⟩ hK
    obtain ⟨a0, c0, ev, -⟩ := OwnL.ls (z := Wr.zero) wr_size ho
    subst ev
    have d0 : W.cell? ⟨B, 0, none⟩ = some (.slice a0 xs.length c0) := by rw [cell_of_row _ B 0 _ _ (0, 0) hb]; rfl
    have HO := Lib.hid ho
    have HW := Lib.hid hw
    have HX := Lib.hid hxs
    clear ho hw hb hxs
    gi_wp2
    refine ⟨by simp, .inl ⟨_, _, rfl, run_takeDeferred hK, ?_⟩⟩
    refine ⟨_, results_tmp rfl _ _ _, _, xs, rfl, HX.out, ?_, ?_⟩
    · exact (HO.out.of_keep (Y := W.putObj D (.deferred none)) (fun q cs fr h => World.putObj_heap_other (fun e => by subst e; rw [hK] at h; cases h))).base hn9
    · exact HW.out.trans (belowK_b (w := w) (Nat.le_refl _) W D _ _ (by have := HBe.out; have := HSZ0.out; omega) hK rfl rfl)
  case stop =>
    rintro D c pre W hD - h
    exact h.elim
end Go.Proofs.YtjkifdjjcfempaaDoor
end

section
namespace Go.Proofs.YtjkifdjjcfempaaDoor
open Go.RowKit Go Go.Sort
set_option linter.unusedVariables false
set_option maxRecDepth 20000

theorem collect_c {w : World} {gf : Nat} {lb : Array Value} {S : List Wr → Prop} {M : Nat} (hM : M ≤ 1000000000) (hen : ∀ args w, (callFunc gf args).run Tryd.prog w = .ok (.enter gf args) w)
    (hseq : SeqTells Fence.wide 2 Tryd.prog 59 gf lb wenc KeepsWalks (fun pre _ => pre.length < M) (fun _ => True) (fun xs _ => S xs) (fun _ _ => True) w) :
    Calls Tryd.prog 24 #[.func (.func gf) #[] lb] w (ApPost S w) := by
  have h1 := Lib.hid (appseq_c hM hen hseq)
  clear hseq hen
  go_enter Tryd.func24, Tryd.ntmps24
  go_wp2_with (go_at_call 40; (with_reducible refine h1.out.mono ?_); rintro e9 w9 ⟨v, xs, rfl, hS, ho, hb⟩)
  go_ret
  exact ⟨v, xs, rfl, hS, ho, hb⟩
theorem values_c (mb : Option Nat) (w : World) :
    Calls Tryd.prog 16 #[.map mb] w (fun e w' => e = .returned (.func (.func 26) #[] #[.pointer (some ⟨w.heap.size, 0, none⟩)]) ∧ w' = w.alloc (.cells #[.map mb] 45)) := by
  go_enter Tryd.func16, Tryd.ntmps16
  go_wp2
  go_ret
  exact ⟨rfl, rfl⟩
end Go.Proofs.YtjkifdjjcfempaaDoor
end

section
namespace Go.Proofs
open Go.Shelf
def Tryd.sortW_ren : Go.Shelf.Ren := ⟨fun | 6 => 25 | 15 => 42 | 14 => 41 | 28 => 59 | 29 => 60 | 20 => 51 | 21 => 52 | 22 => 53 | 23 => 54 | 24 => 55 | 25 => 56 | 26 => 57 | 27 => 58 | 46 => 64 | 47 => 65 | 48 => 66 | 49 => 67 | 50 => 68 | 57 => 71 | n => n, fun | 22 => 22 | 24 => 28 | 25 => 53 | 3 => 3 | 39 => 30 | 0 => 0 | 53 => 98 | 55 => 100 | 4 => 4 | 46 => 91 | 45 => 90 | 50 => 95 | 5 => 5 | 9 => 9 | 66 => 103 | 70 => 107 | 76 => 109 | 77 => 110 | n => n, fun | n => n⟩
theorem Tryd.sortW : Go.Proofs.SlLaysF0.n6 Tryd.prog Tryd.sortW_ren := {
  mixed := by kernel_rfl
  f6 := ⟨Tryd.f25.name, by decide, Tryd.func25.trans (congrArg some (by kernel_rfl))⟩
  f14 := ⟨Tryd.f41.name, by decide, Tryd.func41.trans (congrArg some (by kernel_rfl))⟩
  f15 := Tryd.func42.trans (congrArg some (by kernel_rfl))
  f20 := ⟨Tryd.f51.name, by decide, Tryd.func51.trans (congrArg some (by kernel_rfl))⟩
  f21 := ⟨Tryd.f52.name, by decide, Tryd.func52.trans (congrArg some (by kernel_rfl))⟩
  f22 := ⟨Tryd.f53.name, by decide, Tryd.func53.trans (congrArg some (by kernel_rfl))⟩
  f23 := ⟨Tryd.f54.name, by decide, Tryd.func54.trans (congrArg some (by kernel_rfl))⟩
  f24 := ⟨Tryd.f55.name, by decide, Tryd.func55.trans (congrArg some (by kernel_rfl))⟩
  f25 := ⟨Tryd.f56.name, by decide, Tryd.func56.trans (congrArg some (by kernel_rfl))⟩
  f26 := ⟨Tryd.f57.name, by decide, Tryd.func57.trans (congrArg some (by kernel_rfl))⟩
  f27 := ⟨Tryd.f58.name, by decide, Tryd.func58.trans (congrArg some (by kernel_rfl))⟩
  f28 := Tryd.func59.trans (congrArg some (by kernel_rfl))
  f29 := Tryd.func60.trans (congrArg some (by kernel_rfl))
  f46 := ⟨Tryd.f64.name, by decide, Tryd.func64.trans (congrArg some (by kernel_rfl))⟩
  f47 := Tryd.func65.trans (congrArg some (by kernel_rfl))
  f48 := Tryd.func66.trans (congrArg some (by kernel_rfl))
  f49 := ⟨Tryd.f67.name, by decide, Tryd.func67.trans (congrArg some (by kernel_rfl))⟩
  f50 := ⟨Tryd.f68.name, by decide, Tryd.func68.trans (congrArg some (by kernel_rfl))⟩
  f57 := ⟨Tryd.f71.name, by decide, Tryd.func71.trans (congrArg some (by kernel_rfl))⟩
  t0 := Tryd.underlying0
  a0 := Tryd.isAgg0
  z0 := Tryd.sizeOf0
  v0 := Tryd.zeroValue0
  t3 := Tryd.underlying3
  a3 := Tryd.isAgg3
  z3 := Tryd.sizeOf3
  v3 := Tryd.zeroValue3
  t4 := Tryd.underlying4
  a4 := Tryd.isAgg4
  z4 := Tryd.sizeOf4
  v4 := Tryd.zeroValue4
  t5 := Tryd.underlying5
  a5 := Tryd.isAgg5
  z5 := Tryd.sizeOf5
  v5 := Tryd.zeroValue5
  t9 := Tryd.underlying9
  a9 := Tryd.isAgg9
  z9 := Tryd.sizeOf9
  v9 := Tryd.zeroValue9
  t22 := Tryd.underlying22
  a22 := Tryd.isAgg22
  z22 := Tryd.sizeOf22
  v22 := Tryd.zeroValue22
  t25 := Tryd.underlying53
  a25 := Tryd.isAgg53
  z25 := Tryd.sizeOf53
  v25 := Tryd.zeroValue53
  t39 := Tryd.underlying30
  a39 := Tryd.isAgg30
  z39 := Tryd.sizeOf30
  v39 := Tryd.zeroValue30
  t45 := Tryd.underlying90
  a45 := Tryd.isAgg90
  z45 := Tryd.sizeOf90
  v45 := Tryd.zeroValue90
  t46 := Tryd.underlying91
  a46 := Tryd.isAgg91
  z46 := Tryd.sizeOf91
  v46 := Tryd.zeroValue91
  t50 := Tryd.underlying95
  a50 := Tryd.isAgg95
  z50 := Tryd.sizeOf95
  v50 := Tryd.zeroValue95
  t53 := Tryd.underlying98
  a53 := Tryd.isAgg98
  z53 := Tryd.sizeOf98
  v53 := Tryd.zeroValue98
  t55 := Tryd.underlying100
  a55 := Tryd.isAgg100
  z55 := Tryd.sizeOf100
  v55 := Tryd.zeroValue100
  t66 := Tryd.underlying103
  a66 := Tryd.isAgg103
  z66 := Tryd.sizeOf103
  v66 := Tryd.zeroValue103
  t70 := Tryd.underlying107
  a70 := Tryd.isAgg107
  z70 := Tryd.sizeOf107
  v70 := Tryd.zeroValue107
  t76 := Tryd.underlying109
  a76 := Tryd.isAgg109
  z76 := Tryd.sizeOf109
  v76 := Tryd.zeroValue109
  t77 := Tryd.underlying110
  a77 := Tryd.isAgg110
  z77 := Tryd.sizeOf110
  v77 := Tryd.zeroValue110 }
def Tryd.lays125_ren : Go.Shelf.Ren := ⟨fun | 125 => 42 | 128 => 59 | 129 => 60 | n => n, fun | 46 => 30 | 3 => 3 | 51 => 98 | 53 => 100 | 4 => 4 | 5 => 5 | 9 => 9 | n => n, fun | n => n⟩
theorem Tryd.lays125 : Go.Proofs.Lays.n125 Tryd.prog Tryd.lays125_ren := {
  mixed := by kernel_rfl
  f125 := Tryd.func42.trans (congrArg some (by kernel_rfl))
  f128 := Tryd.func59.trans (congrArg some (by kernel_rfl))
  f129 := Tryd.func60.trans (congrArg some (by kernel_rfl))
  t3 := Tryd.underlying3
  a3 := Tryd.isAgg3
  z3 := Tryd.sizeOf3
  v3 := Tryd.zeroValue3
  t4 := Tryd.underlying4
  a4 := Tryd.isAgg4
  z4 := Tryd.sizeOf4
  v4 := Tryd.zeroValue4
  t5 := Tryd.underlying5
  a5 := Tryd.isAgg5
  z5 := Tryd.sizeOf5
  v5 := Tryd.zeroValue5
  t9 := Tryd.underlying9
  a9 := Tryd.isAgg9
  z9 := Tryd.sizeOf9
  v9 := Tryd.zeroValue9
  t46 := Tryd.underlying30
  a46 := Tryd.isAgg30
  z46 := Tryd.sizeOf30
  v46 := Tryd.zeroValue30
  t51 := Tryd.underlying98
  a51 := Tryd.isAgg98
  z51 := Tryd.sizeOf98
  v51 := Tryd.zeroValue98
  t53 := Tryd.underlying100
  a53 := Tryd.isAgg100
  z53 := Tryd.sizeOf100
  v53 := Tryd.zeroValue100 }
theorem Tryd.bits_Len (x : Int) (w : World) (h0 : 0 ≤ x) (h1 : x ≤ 18446744073709551615) :
    Calls Tryd.prog 42 #[.int .u64 x] w fun e w' => e = .returned (.int .i64 (Lib.bitLen x.toNat)) ∧ w' = w := Any.bits_Len Tryd.lays125 x w h0 h1
end Go.Proofs
end

section
namespace Go.Proofs.YtjkifdjjcfempaaDoor
open Go.RowKit Go Go.Sort Go.Shelf
set_option linter.unusedVariables false
set_option maxRecDepth 20000

theorem encW_arr (c : Wr) : encW c = c.arr.toList := rfl
theorem getW (d : Array Wr) (i : Nat) (h : i < d.size) : d[i]! = d.toList.getD i Wr.zero := by
  rw [getElem!_pos d i h, List.getD_eq_getElem?_getD, List.getElem?_eq_getElem (by simpa using h)]
  simp
theorem flat_list (d : Array Wr) : (flatK encW 4 d).toList = lCells Wr.arr d.toList := by
  apply List.ext_getElem?
  intro t
  by_cases h : t < d.size * 4
  · have h1 : (flatK encW 4 d).toList[t]? = some ((flatK encW 4 d)[t]!) := by
      rw [Array.getElem?_toList, getElem!_pos _ t (by simpa using h), Array.getElem?_eq_getElem (by simpa using h)]
    have e : t = (t / 4) * 4 + t % 4 := by omega
    have hq : t / 4 < d.size := by omega
    have h2 := lCells_get (z := Wr.zero) wr_size d.toList (t / 4) (t % 4) (by simpa using hq) (by omega)
    rw [← e] at h2
    rw [h1, get_flatK _ _ _ _ h, h2, getW d _ hq, encW_arr]
    obtain ⟨c, hc⟩ : ∃ c, d.toList.getD (t / 4) Wr.zero = c := ⟨_, rfl⟩
    rw [hc]
    have h3 : t % 4 = 0 ∨ t % 4 = 1 ∨ t % 4 = 2 ∨ t % 4 = 3 := by omega
    rcases h3 with h3 | h3 | h3 | h3 <;> rw [h3] <;> rfl
  · rw [List.getElem?_eq_none (by rw [Array.length_toList, size_flatK]; omega), List.getElem?_eq_none (by rw [lCells_length wr_size, Array.length_toList]; omega)]
theorem put_take (F cur : Array Value) (h : F.size ≤ cur.size) : (putCells id 0 F cur).toList.take F.size = F.toList := by
  apply List.ext_getElem?
  intro t
  by_cases ht : t < F.size
  · rw [List.getElem?_take_of_lt ht, Array.getElem?_toList, Array.getElem?_toList]
    unfold putCells
    rw [Array.getElem?_mapIdx, Array.getElem?_eq_getElem (show t < cur.size by omega), Array.getElem?_eq_getElem ht]
    simp [ht]
  · rw [List.getElem?_eq_none (by rw [List.length_take]; omega), List.getElem?_eq_none (by rw [Array.length_toList]; omega)]
theorem heap_mapBlock_same {w : World} {b : Nat} {c : Array Value} {e : TypeId} {fr : Nat × Nat} (f : Array Value → Array Value) (h : w.heap[b]? = some (.cells c e fr)) : (mapBlock w b f).heap[b]? = some (.cells (f c) e fr) := by
  unfold mapBlock
  simp [Array.getElem?_modify, h, onCells]
theorem heap_mapBlock_other {w : World} {b k : Nat} (f : Array Value → Array Value) (h : k ≠ b) : (mapBlock w b f).heap[k]? = w.heap[k]? := by
  unfold mapBlock
  simp [Array.getElem?_modify, Ne.symm h]
theorem sorted_own {w : World} {B b cap n : Nat} {cur : Array Value} {d d' : Array Wr} {os : Array Obj} (hb : w.heap[b]? = some (.cells cur 28 (0, 0))) (hB : B ≤ b) (hs : d'.size = d.size) (h1 : d.size ≤ cap) (h2 : cap ≤ maxLen) (h3 : cur.size = cap * 4) :
    OwnW (sortWorldK encW 4 w b 0 n d' os) B (.slice (some ⟨b, 0, none⟩) d.size cap) d'.toList ∧ (∀ B0, B0 ≤ b → B0 ≤ w.heap.size → Below B0 w (sortWorldK encW 4 w b 0 n d' os)) := by
  have hlt : b < w.heap.size := (Array.getElem?_eq_some_iff.1 hb).1
  have hsz : (putRowK encW 4 (Sort.ahead w n) b 0 d').heap.size = w.heap.size := by
    unfold putRowK putRow mapBlock Sort.ahead
    simp
  have hF : (flatK encW 4 d').size ≤ cur.size := by rw [size_flatK, hs, h3]; omega
  refine ⟨⟨?_, .inr ⟨b, cap, putCells id 0 (flatK encW 4 d') cur, ?_, hB, ?_, ?_, h2, ?_, ?_⟩⟩, fun B0 hB0 hB1 => ⟨rfl, rfl, rfl, ?_, fun k hk => ?_⟩⟩
  · rw [lCells_length wr_size]
  · rw [Array.length_toList, hs]
  · unfold sortWorldK
    show (_ ++ os)[b]? = _
    rw [Array.getElem?_append_left (by rw [hsz]; exact hlt)]
    exact heap_mapBlock_same _ hb
  · rw [Array.length_toList, hs]; exact h1
  · rw [← h3]; unfold putCells; simp
  · rw [← flat_list, Array.length_toList, ← size_flatK encW 4 d']
    exact put_take _ _ hF
  · unfold sortWorldK grow
    simp only [Array.size_append, hsz]
    omega
  · unfold sortWorldK
    show (_ ++ os)[k]? = _
    rw [Array.getElem?_append_left (by rw [hsz]; omega)]
    exact heap_mapBlock_other _ (by omega)
theorem holds_own {w : World} {b cap : Nat} {cur : Array Value} {xs : List Wr} (hb : w.heap[b]? = some (.cells cur 28 (0, 0))) (h1 : xs.length ≤ cap) (h3 : cur.size = cap * 4) (ht : cur.toList.take (xs.length * 4) = lCells Wr.arr xs) : HoldsK encW 4 w b 0 xs.toArray := by
  intro j hj
  rw [size_flatK] at hj
  simp only [List.size_toArray] at hj
  refine ⟨?_, frozen_of_row _ b _ _ _ hb⟩
  have hf := flat_list xs.toArray
  change _ = lCells Wr.arr xs at hf
  have e1 : cur[j]? = some ((flatK encW 4 xs.toArray)[j]!) := by
    rw [getElem!_pos _ j (by simpa using hj)]
    have h4 : cur.toList[j]? = (lCells Wr.arr xs)[j]? := by rw [← ht, List.getElem?_take_of_lt hj]
    have h5 : (flatK encW 4 xs.toArray)[j]? = some ((flatK encW 4 xs.toArray)[j]'(by simpa using hj)) := Array.getElem?_eq_getElem _
    rw [Array.getElem?_toList, ← hf, Array.getElem?_toList, h5] at h4
    exact h4
  rw [cell_of_row _ b _ _ _ (0, 0) hb, Nat.zero_add, e1]
  rfl
/-- What a sort leaves. -/
def SortPost (B : Nat) (v : Value) (xs : List Wr) (w : World) (e : Ending) (w' : World) : Prop :=
  e = .returned (.tuple #[]) ∧ ∃ ys, OwnW w' B v ys ∧ ys.Perm xs ∧ ys.Pairwise (fun a b => aheadS b a = false) ∧ Below B w w'
theorem ins_none (p : Option Addr) (cap : Nat) (fv : Value) (w : World) : Calls Tryd.prog 51 #[.slice p 0 cap, .int .i64 0, .int .i64 0, fv] w (fun e w' => e = .returned (.tuple #[]) ∧ w' = w) := by
  go_enter Tryd.func51, Tryd.ntmps51
  go_wp2
  refine wp_loop_rounds 1 ?_
  rw [rounds_succ]
  go_wp2
  go_end0
  exact ⟨rfl, rfl⟩
theorem pdq_none (p : Option Addr) (cap : Nat) (lim : Int) (fv : Value) (w : World) : Calls Tryd.prog 41 #[.slice p 0 cap, .int .i64 0, .int .i64 0, .int .i64 lim, fv] w (fun e w' => e = .returned (.tuple #[]) ∧ w' = w) := by
  have hi := Lib.hid (fun W => ins_none p cap fv W)
  go_enter Tryd.func41, Tryd.ntmps41
  go_wp2
  refine wp_loop_rounds 1 ?_
  rw [rounds_succ]
  go_wp2_with (go_at_call 51; (with_reducible refine (hi.out _).mono ?_); rintro e9 w9 ⟨rfl, rfl⟩)
  (try simp only [Exit.inBlock, Exit.then])
  refine bodyPost_ret (results_none rfl _ _ _) rfl ?_
  exact ⟨rfl, rfl⟩
theorem sort_none (p : Option Addr) (cap : Nat) (fv : Value) (w : World) : Calls Tryd.prog 25 #[.slice p 0 cap, fv] w (fun e w' => e = .returned (.tuple #[]) ∧ w' = w) := by
  have hi := Lib.hid (fun lim W => pdq_none p cap lim fv W)
  have hl := Lib.hid (fun W => Tryd.bits_Len 0 W (by omega) (by omega))
  go_enter Tryd.func25, Tryd.ntmps25
  go_wp2_with (first
    | (go_at_call 42; (with_reducible refine (hl.out _).mono ?_); rintro e9 w9 ⟨rfl, rfl⟩)
    | (go_at_call 41; (with_reducible refine (hi.out _ _).mono ?_); rintro e9 w9 ⟨rfl, rfl⟩))
  go_end0
  exact ⟨rfl, rfl⟩
theorem sort_c {w : World} {B : Nat} {v : Value} {xs : List Wr} (ho : OwnW w B v xs) (hn : xs.length ≤ 1000000000) (hB : B ≤ w.heap.size) : Calls Tryd.prog 25 #[v, .func (.func 17) #[] #[]] w (SortPost B v xs w) := by
  obtain ⟨hl, ⟨rfl, h0⟩ | ⟨b, cap, cur, rfl, hBb, hb, hc, hm, hcs, ht⟩⟩ := id ho
  · obtain rfl : xs = [] := List.eq_nil_of_length_eq_zero h0
    refine (sort_none none 0 _ w).mono ?_
    rintro e w' ⟨rfl, rfl⟩
    exact ⟨rfl, [], ho, List.Perm.refl _, List.Pairwise.nil, Below.refl _ _⟩
  · have hlt : b < w.heap.size := (Array.getElem?_eq_some_iff.1 hb).1
    have hcon : Calls Tryd.prog 25 #[.slice (some ⟨b, 0, none⟩) xs.toArray.size cap, .func (.func 17) #[] #[]] w _ :=
      AnyQ.slices_SortFunc Tryd.sortW 4 Tryd.isAgg28 Tryd.sizeOf28 encW (fun _ => rfl) (fun x v hv => by simp [encW] at hv; rcases hv with rfl | rfl | rfl | rfl <;> rfl) ordS swo_ord 17 #[] b 0 cap xs.toArray w (enters_of Tryd.func17 (by kernel_rfl) rfl) (order_lays b 0 _ w) (holds_own hb hc hcs ht) hlt (by simp; omega)
    simp only [List.size_toArray] at hcon
    refine hcon.mono ?_
    rintro e w' ⟨rfl, d', n, os, ⟨p1, -, p3⟩, hso, rfl⟩
    have hd : d'.size = xs.toArray.size := p1
    have h9 := sorted_own (n := n) (os := os) (d := xs.toArray) (d' := d') (B := B) hb hBb hd (by simpa using hc) hm hcs
    simp only [List.size_toArray] at h9
    refine ⟨rfl, d'.toList, h9.1, ?_, ?_, h9.2 B hBb hB⟩
    · have hx : d'.extract 0 xs.length = d' := by
        rw [← List.size_toArray, ← hd]
        exact Array.extract_size
      rw [hx] at p3
      have hy : xs.toArray.extract 0 xs.length = xs.toArray := by
        rw [← List.size_toArray]
        exact Array.extract_size
      rw [hy] at p3
      exact p3
    · rw [List.pairwise_iff_getElem]
      intro i j hi hj hij
      have hd2 : d'.size = xs.length := by simpa using hd
      rw [Array.length_toList] at hi hj
      have h8 := hso i j (Nat.zero_le _) hij (by omega)
      rw [lt_ord, getElem!_pos d' i hi, getElem!_pos d' j hj] at h8
      simpa using h8
end Go.Proofs.YtjkifdjjcfempaaDoor
end

section
namespace Go.Proofs.YtjkifdjjcfempaaDoor
open Go.RowKit Go Go.Sort
set_option linter.unusedVariables false
set_option maxRecDepth 20000

theorem sorted_c {w : World} {gf : Nat} {lb : Array Value} {S : List Wr → Prop} {M : Nat} (hM : M ≤ 1000000000) (hS : ∀ xs, S xs → xs.length ≤ 1000000000) (hen : ∀ args w, (callFunc gf args).run Tryd.prog w = .ok (.enter gf args) w)
    (hseq : SeqTells Fence.wide 2 Tryd.prog 59 gf lb wenc KeepsWalks (fun pre _ => pre.length < M) (fun _ => True) (fun xs _ => S xs) (fun _ _ => True) w) :
    Calls Tryd.prog 15 #[.func (.func gf) #[] lb, .func (.func 17) #[] #[]] w (ApPost (fun ys => ∃ xs, S xs ∧ ys.Perm xs ∧ ys.Pairwise (fun a b => aheadS b a = false)) w) := by
  have h1 := Lib.hid (collect_c hM hen hseq)
  clear hseq hen
  go_enter Tryd.func15, Tryd.ntmps15
  go_wp2_with (first
    | (go_at_call 24; (with_reducible refine h1.out.mono ?_); rintro e9 w9 ⟨v, xs, rfl, hX, ho, hb⟩; have hs := Lib.hid (sort_c ho (hS xs hX) hb.size); have HX := Lib.hid hX; have HB := Lib.hid hb; clear hX ho hb)
    | (go_at_call 25; (with_reducible refine hs.out.mono ?_); rintro e8 w8 ⟨rfl, ys, ho, hp, hso, hb⟩))
  go_ret
  exact ⟨v, ys, rfl, ⟨xs, HX.out, hp, hso⟩, ho, HB.out.trans hb⟩
end Go.Proofs.YtjkifdjjcfempaaDoor
end

section
namespace Go.Proofs.YtjkifdjjcfempaaDoor
open Go.RowKit Go Go.Sort Go.Maps Go.WideMaps
set_option linter.unusedVariables false
set_option maxRecDepth 20000

theorem canon_sorted {l xs ys : List Wr} (h1 : xs.Nodup ∧ ∀ z, z ∈ xs ↔ z ∈ canonN l l.length) (h2 : ys.Perm xs) (h3 : ys.Pairwise (fun a b => aheadS b a = false)) : ys = canonS l :=
  ws_of_sorted (canon_ws l) (h2.nodup_iff.2 h1.1) (fun z => (h2.mem_iff).trans (h1.2 z)) h3
set_option maxRecDepth 100000 in
set_option maxHeartbeats 6400000 in
theorem canon_c {w : World} {x : Option Addr} {m cap : Nat} {l : List Wr} (hl : Wrs w x m cap l) (hf : ∀ y ∈ l, FitW y) (hm : m ≤ 1000000) : Calls Tryd.prog 7 #[.slice x m cap] w (WrsPost (canonS l) w) := by
  have hll := hl.len
  have hle := hl.le
  have hmax := hl.max
  have HL := Lib.hid hl
  have HF := Lib.hid hf
  have HLL := Lib.hid hll
  clear hl hf hll
  have hmm := @run_makeMap Tryd.prog
  go_enter Tryd.func7, Tryd.ntmps7
  go_upto_region 2 with (fail)
  go_wp2
  go_loopw [9] (fun i wr => ∃ k : Nat, k ≤ m ∧ i = .int .i64 (k : Int) ∧ (∃ D, wr.ownsMap Tryd.prog 47 wrElem w.heap.size k D ∧ MapW l k D) ∧ Below w.heap.size w wr) (fun i _ => m - (intOf i).toNat)
  case atStart => exact ⟨0, by omega, rfl, ⟨_, World.ownsMap_made _ _ _ _, mapW_none l⟩, (Below.refl _ _).alloc (Nat.le_refl _) _⟩
  case round =>
    clear hmm
    obtain ⟨k, hk, rfl, ⟨D, hown, hM⟩, hB⟩ := hrel
    by_cases hlt : k < m
    · have hki : (k : Int) < (m : Int) := by omega
      have hkc : (k : Int) < (cap : Int) := by omega
      obtain ⟨bl, offl, rfl, hat⟩ := HL.out.place hlt
      obtain ⟨y, hy⟩ : ∃ y, l.getD k Wr.zero = y := ⟨_, rfl⟩
      have hyl : y ∈ l := by
        rw [← hy, List.getD_eq_getElem?_getD, List.getElem?_eq_getElem (by have := HLL.out; omega)]
        exact List.getElem_mem _
      have hfy := HF.out y hyl
      have hM2 := mapW_step HF.out (by have := HLL.out; omega) hM hy
      rw [hy] at hat
      obtain ⟨kx, ix, gx, vx⟩ := y
      have HM2 := Lib.hid hM2
      have HKEY := Lib.hid (place_key kx ix hfy.1 hfy.2)
      have HPL := Lib.hid (fun W => placeof_c kx ix gx vx W)
      obtain ⟨c0, c1, c2, c3⟩ := hat wr hB
      simp only at c0 c1 c2 c3
      have hgn := heap_alloc_new wr (.cells #[.string (text kx), .int .i64 ix, .bool gx, .string (text vx)] 28)
      have hB1 := hB.alloc hB.size (.cells #[.string (text kx), .int .i64 ix, .bool gx, .string (text vx)] 28)
      have hown1 := hown.alloc (.cells #[.string (text kx), .int .i64 ix, .bool gx, .string (text vx)] 28)
      clear hat hM hM2 hfy hyl hy hown
      go_upto_region 5 with (fail)
      clear c0 c1 c2 c3 hB
      obtain ⟨gb, hgb⟩ : ∃ q, wr.heap.size = q := ⟨_, rfl⟩
      rw [hgb] at hgn ⊢
      have HGB := Lib.hid hgb
      clear hgb
      generalize wr.alloc (.cells #[.string (text kx), .int .i64 ix, .bool gx, .string (text vx)] 28) = W1 at *
      have HCC := Lib.hid (fun W (h : Below W1.heap.size W1 W) => wr_cells (heap_below hgn h))
      have HB1 := Lib.hid hB1
      have HO1 := Lib.hid hown1
      clear hgn hB1 hown1
      refine wp_region_flow_tail 4 [none, none, none, none, none, none, none, none, none, none, none, none, none, some 0, some 1, some 2, some 3, none, none, none, none] (fun i => [u13, u14, u15, u16].getD i undef) [(fun v _ => v = .map (some w.heap.size)), (fun v _ => v = .agg #[.string (text kx), .int .i64 ix, .bool gx, .string (text vx)]), (fun v _ => v = .agg #[.string (text kx), .int .i64 ix]), (fun v _ => v = .agg #[.string (text kx), .int .i64 ix, .bool gx, .string (text vx)])] (fun _ => False) (by kernel_rfl) (by kernel_rfl) (by kernel_rfl) rfl rfl rfl ?_ ?_ ?_
      · intro g hg v X Y hX hY hv
        simp only [List.mem_cons, List.not_mem_nil, or_false] at hg
        rcases hg with rfl | rfl | rfl | rfl
        all_goals first
          | exact hv
          | exact hv.kept hY
      · simp only [flowOpsF, List.take_succ_cons, List.take_zero, and_true]
        refine ⟨?_, ?_, ?_, ?_⟩
        · intro xs W hW hn
          simp only [flowAct, List.zipWith_cons_cons, List.zipWith_nil_left]
          go_wp2_with (fail)
          exact ⟨rfl, _, rfl, Below.refl _ _, rfl, fun h => h.elim⟩
        · intro xs W hW hn
          obtain ⟨c0, c1, c2, c3⟩ := HCC.out W hW
          simp only [flowAct, List.zipWith_cons_cons, List.zipWith_nil_left]
          go_wp2_with (fail)
          exact ⟨rfl, _, rfl, Below.refl _ _, rfl, fun h => h.elim⟩
        · intro xs W hW hn
          simp [flowNeeds, Region.binds] at hn
          simp only [flowAct, List.zipWith_cons_cons, List.zipWith_nil_left]
          try simp only [hn]
          go_wp2_with (go_at_call 14; (with_reducible refine (HPL.out _).mono ?_); rintro e9 w9 ⟨rfl, hb9⟩)
          exact ⟨rfl, _, rfl, hb9, rfl, fun h => h.elim⟩
        · intro xs W hW hn
          obtain ⟨c0, c1, c2, c3⟩ := HCC.out W hW
          simp only [flowAct, List.zipWith_cons_cons, List.zipWith_nil_left]
          go_wp2_with (fail)
          exact ⟨rfl, _, rfl, Below.refl _ _, rfl, fun h => h.elim⟩
      · intro xs W hW hall hfr
        clear hfr
        simp only [flowAll, and_true, Nat.zero_add, Nat.reduceAdd] at hall
        obtain ⟨h0, h1, h2, h3⟩ := hall
        simp only [flowAct, List.zipWith_cons_cons, List.zipWith_nil_left, List.drop_succ_cons, List.drop_zero]
        simp only [h0, h1, h2, h3]
        have hown2 := owns_place_below HO1.out hW
        have hB2 := HB1.out.trans (hW.mono HB1.out.size)
        have HB2 := Lib.hid hB2
        clear hB2 h0 h1 h2 h3
        go_wp2_with (at_mapUpdate; refine wpList_mapUpdate_own _ rfl _ _ _ 45 rfl 47 28 place_law Tryd.underlying45 wrElem w.heap.size k D rfl hown2 (by unfold maxLen; omega) _ _ (plL kx ix) rfl rfl HKEY.out (wrD ⟨kx, ix, gx, vx⟩) [] (wrElem_mk ⟨kx, ix, gx, vx⟩) ?_; intro w3 hown3 hgrow3)
        have HB3 := Lib.hid (HB2.out.grown hgrow3 HB2.out.size (fun j hj => by cases hj; exact Nat.le_refl _))
        have HO3 := Lib.hid hown3
        clear hown3 hgrow3 hown2
        go_wp2
        go_roundw
        case rel => exact ⟨k + 1, by omega, rfl, ⟨_, HO3.out, HM2.out⟩, HB3.out⟩
        case measure => simp [intOf]; omega
    · obtain rfl : k = m := by omega
      have hk1 := hown.lt
      have hbl := alloc_below wr (.cells #[.map (some w.heap.size)] 45)
      have hseq := wvals_tells HF.out (k := k) (by have := HLL.out; omega) hM (w := wr.alloc (.cells #[.map (some w.heap.size)] 45)) (heap_alloc_new wr _) (owns_place_below hown hbl) (N := 2) (by omega)
      have hcl : (canonN l k).length ≤ 1000000 := by
        have := canon_few l k
        omega
      have HSO := Lib.hid (sorted_c (by omega) (fun xs hx => by
        have h1 := len_of_sub hx.1 (fun z hz => (hx.2 z).1 hz)
        omega) (enters_of Tryd.func26 (by kernel_rfl) rfl) hseq)
      have HVA := Lib.hid (fun W => values_c (some w.heap.size) W)
      have HB := Lib.hid hB
      have HB9 := Lib.hid (hB.alloc hB.size (.cells #[.map (some w.heap.size)] 45))
      have hsz := hB.size
      clear hM hown hB hseq hcl hk1 hbl
      go_wp2_with (first
        | (go_at_call 16; (with_reducible refine (HVA.out _).mono ?_); rintro e9 w9 ⟨rfl, rfl⟩)
        | (go_at_call 15; (with_reducible refine HSO.out.mono ?_); rintro e8 w8 ⟨v, ys, rfl, ⟨xs, hx, hp, hs⟩, ho, hb⟩))
      go_ret
      have hys : ys = canonS l := canon_sorted (by rw [HLL.out]; exact hx) hp hs
      rw [← hys]
      refine ⟨v, rfl, ho.base (by simp; omega), HB9.out.trans (hb.mono HB9.out.size)⟩
end Go.Proofs.YtjkifdjjcfempaaDoor
end

section
namespace Go.Proofs.YtjkifdjjcfempaaDoor
open Go.RowKit Go Go.Sort Go.Deep
set_option linter.unusedVariables false
set_option maxRecDepth 20000

/-- append of writes that lie in memory. -/
theorem Ls.srcW {W : World} {a : Option Addr} {n cap : Nat} {L : List Wr} (h : Ls 4 Wr.arr Wr.zero W a n cap L) : n = 0 ∨ ∃ b off, a = some ⟨b, off, none⟩ ∧ ∀ j v, (lCells Wr.arr L)[j]? = some v → W.cell? ((⟨b, off, none⟩ : Addr).add j) = some v := by
  by_cases hn : n = 0
  · exact .inl hn
  · right
    rcases h.adr with h4 | ⟨b, off, rfl, hat⟩
    · have := h.le; omega
    · refine ⟨b, off, rfl, fun j v hj => ?_⟩
      have hjl : j < L.length * 4 := by
        have := (List.getElem?_eq_some_iff.1 hj).1
        rwa [lCells_length (sz := 4) wr_size] at this
      have e := lCells_get (z := Wr.zero) wr_size L (j / 4) (j % 4) (by omega) (Nat.mod_lt _ (by omega))
      rw [show j / 4 * 4 + j % 4 = j by omega, hj] at e
      have := hat (j / 4) (by have := h.len; omega) (j % 4) v e.symm
      rw [addr_add]
      rw [show off + j / 4 * 4 + j % 4 = off + j by omega] at this
      exact this
theorem wrcells_one (L : List Wr) : ∀ v ∈ lCells Wr.arr L, v.oneCell' = true := by
  intro v hv
  obtain ⟨r, hr, hv⟩ := List.mem_flatMap.1 hv
  have hv : v ∈ [Value.string (text r.k), .int .i64 r.i, .bool r.g, .string (text r.v)] := hv
  simp only [List.mem_cons, List.not_mem_nil, or_false] at hv
  rcases hv with rfl | rfl | rfl | rfl <;> rfl
theorem run_append_zero {P : Program} (w : World) (t tx ty e : TypeId) (i : TypeInfo) (ht : P.underlying t = some (.slice e)) (hi : P.info? e = some i) (x : Value) (hs : Src P i.size tx x 0 [] w) :
    (Builtin.append_ #[t, tx] ty #[.slice none 0 0, x]).run P w = .ok (.slice none 0 0) w := by
  rcases hs.kind with ⟨e', hk⟩ | hk <;> simp [Builtin.append_, run_underlying ht, run_underlying hk, sizeOf, typeInfo, hi, hs.len, hs.cells]
theorem wpList_append_wrs {w : World} {ops : Array Oper} {rest : List Oper} {o : Oper} {ac : Act} {Q : Exit → Act → World → Prop} (hgd : o.guard = none) (os ox : Operand)
    (ho : o.op = .call { callee := .builtin .append, args := #[os, ox], argTypes := #[22, 22] })
    {base : Nat} {u : Value} {l M : List Wr} (hs : ac.eval os = u) (hown : OwnW w base u l) {a : Option Addr} {cap : Nat} (hx : ac.eval ox = .slice a M.length cap) (hm : Wrs w a M.length cap M) (h63 : l.length + M.length ≤ 1000000000) (hbase : base ≤ w.heap.size)
    (h : ∀ v' w', OwnW w' base v' (l ++ M) → w.grownBy w' u.ownBlock → wpList Tryd.prog ops Q rest (ac.put o.dst v') w') :
    wpList Tryd.prog ops Q (o :: rest) ac w := by
  obtain ⟨i0, hi, hz0, hz1, hz2⟩ := info_parts Tryd.infoW
  rcases hm.srcW with hz | ⟨b, off, rfl, hsrc⟩
  · have hM : M = [] := List.eq_nil_of_length_eq_zero hz
    subst hM
    refine wpList_plain hgd fun K hK => ?_
    have hsr : Src Tryd.prog i0.size 22 (.slice a 0 cap) 0 [] w := by
      cases a with
      | none => exact Src.ofNil w Tryd.underlying22 cap
      | some a => exact Src.ofSlice w Tryd.underlying22 a 0 cap [] (by simp) (by simp) (by simp)
    rcases hown.2 with ⟨rfl, hn0⟩ | ⟨g, cp, cur, rfl, hB, hgg, hnc, hcm, hcs, htk⟩
    · have hr := run_append_zero (P := Tryd.prog) w 22 22 o.type 28 i0 Tryd.underlying22 hi (.slice a 0 cap) hsr
      unfold Oper.wp execOp
      simp only [ho, resolve, invoke, builtin, Sem.run_bind, Sem.run_pure, Result.andThen_ok, List.map_toArray, List.map_cons, List.map_nil, hs, hx, List.length_nil, hr]
      exact hK _ _ (h _ _ (by rw [List.append_nil]; exact hown) (World.grownBy.refl _ _))
    · have hr := run_append_room_src (P := Tryd.prog) (w := w) 22 22 o.type 28 i0 Tryd.underlying22 hi g 0 l.length cp (.slice a 0 cap) 0 [] hsr (by omega) (fun j hj => absurd hj (by simp)) (fun j hj => absurd hj (by simp))
      have hw : w.setCells g (0 + l.length * i0.size) [] = w := by simp [World.setCells]
      rw [hw] at hr
      unfold Oper.wp execOp
      simp only [ho, resolve, invoke, builtin, Sem.run_bind, Sem.run_pure, Result.andThen_ok, List.map_toArray, List.map_cons, List.map_nil, hs, hx, List.length_nil, hr]
      exact hK _ _ (h _ _ (by rw [List.append_nil]; exact hown) (World.grownBy.refl _ _))
  · refine wpList_append_own_wide (P := Tryd.prog) w hgd os ox 22 ho base 28 i0 _ 4 48 Tryd.underlying22 hi hz0 hz1 hz2 rfl (by decide) u l.length (lCells Wr.arr l) hs hown
      ⟨b, off, none⟩ M.length cap (lCells Wr.arr M) hx (by rw [lCells_length (sz := 4) wr_size]) hsrc (wrcells_one M) (by unfold maxLen; omega) (by omega) hbase ?_
    intro v' w' h2 h3 _
    refine h v' w' ?_ h3
    show World.ownsRow _ _ _ _ _ _ _
    rw [List.length_append, lCells_append]
    exact h2
theorem wpList_append_wrsN {w : World} {ops : Array Oper} {rest : List Oper} {o : Oper} {ac : Act} {Q : Exit → Act → World → Prop} (hgd : o.guard = none) (os ox : Operand)
    (ho : o.op = .call { callee := .builtin .append, args := #[os, ox], argTypes := #[22, 22] })
    {base : Nat} {u : Value} {M : List Wr} (hs : ac.eval os = u) (hown : OwnW w base u []) {a : Option Addr} {m cap : Nat} (hx : ac.eval ox = .slice a m cap) (hm : Wrs w a m cap M) (h63 : m ≤ 1000000000) (hbase : base ≤ w.heap.size)
    (h : ∀ a1 c1 w', OwnW w' base (.slice a1 m c1) M → Wrs w' a1 m c1 M → w.grownBy w' u.ownBlock → wpList Tryd.prog ops Q rest (ac.put o.dst (.slice a1 m c1)) w') :
    wpList Tryd.prog ops Q (o :: rest) ac w := by
  have hl := hm.len
  subst hl
  refine wpList_append_wrs hgd os ox ho hs hown hx hm (by simp; omega) hbase ?_
  intro v' w' h1 h2
  obtain ⟨a1, c1, rfl, h3⟩ := OwnL.wrs (show OwnW w' base v' M from h1)
  exact h a1 c1 w' h1 h3 h2
theorem OwnW.none_made {w : World} {B : Nat} (h : B ≤ w.heap.size) : OwnW (w.alloc (.cells #[] 28)) B (.slice (some ⟨w.heap.size, 0, none⟩) 0 0) [] :=
  ⟨rfl, .inr ⟨w.heap.size, 0, #[], rfl, h, heap_alloc_new _ _, Nat.le_refl _, Nat.zero_le _, rfl, rfl⟩⟩
theorem rwrites_self {w : World} {x2 y2 : Option Addr} {m cap2 m' cap3 : Nat} {la : List Wr} (ha : Wrs w x2 m cap2 la) (hb : Wrs w y2 m' cap3 la) : Calls Tryd.prog 8 #[.slice x2 m cap2, .slice y2 m' cap3] w (Tells (.bool true) w) := by
  have h := rwrites_c ha hb
  rwa [decide_eq_true rfl] at h
theorem open_wrs2 {H : Type} {enc : TypeId × Value → H} {W : World} {a : Option Addr} {len cap : Nat} {d : DataW H} {p : List MemPlace} (h : DataW.Trod enc Tryd.prog W 0 (fun _ => true) true 22 (.slice a len cap) d p) :
    ∃ l, Wrs W a len cap l ∧ WShort l ∧ ∀ c ∈ l, IsI64 c.i := by
  have hc : Tryd.prog.cellsOf 28 = 4 := by kernel_rfl
  obtain ⟨fuel, hf⟩ := h
  rcases open_slice Tryd.underlying22 hf with ⟨hcs, hx⟩ | ⟨x, l, c, m, n, D, Pl, hcs, _, hl, hm, hmm, hx, hcell⟩
  · simp [Value.cells] at hcs
    obtain ⟨rfl, rfl, rfl⟩ := hcs
    exact ⟨[], ⟨rfl, Nat.le_refl _, by omega, .inl rfl⟩, fun c hc => (by cases hc), fun c hc => (by cases hc)⟩
  · simp [Value.cells] at hcs
    obtain ⟨rfl, rfl, rfl⟩ := hcs
    simp only [if_true] at hmm
    subst hmm
    rw [hc] at hcell
    have key : ∀ i, i < m → ∃ q : Wr, (∀ j u, q.arr[j]? = some u → W.cell? ((x.add (i * 4)).add j) = some u) ∧ (q.k.length ≤ 9223372036854775807 ∧ q.v.length ≤ 9223372036854775807) ∧ IsI64 q.i := by
      intro i hi
      obtain ⟨cs', h1, h2⟩ := hcell i hi
      obtain ⟨_, h3l, h3⟩ := World.cells?_some h1
      obtain ⟨k', i', g', v', rfl, hk, hii, hv⟩ := wr_trod (sp := true) h2
      refine ⟨⟨k', i', g', v'⟩, fun j u hj => ?_, ⟨by unfold maxLen at hk; exact hk, by unfold maxLen at hv; exact hv⟩, hii⟩
      have hjl : j < 4 := by
        have := (Array.getElem?_eq_some_iff.1 hj).1
        simpa [Wr.arr] using this
      have h4 := h3 j hjl
      rw [h4]
      rw [← hj]
      simp [Wr.arr]
    obtain ⟨V0, hV0⟩ := choose_at key
    obtain ⟨V, hV⟩ : ∃ V : Nat → Wr, ∀ i, i < m → ((∀ j u, (V i).arr[j]? = some u → W.cell? ((x.add (i * 4)).add j) = some u) ∧ ((V i).k.length ≤ 9223372036854775807 ∧ (V i).v.length ≤ 9223372036854775807) ∧ IsI64 (V i).i) := by
      refine ⟨fun i => (V0 i).getD Wr.zero, fun i hi => ?_⟩
      obtain ⟨q, hq, hp⟩ := hV0 i hi
      simp only [hq, Option.getD_some]
      exact hp
    have hgd : ∀ i, i < len → ((List.range len).map V).getD i Wr.zero = V i := fun i hi => by simp [List.getD, hi]
    refine ⟨(List.range len).map V, ⟨by simp, hl, by unfold maxLen at hm; omega, ?_⟩, ?_, ?_⟩
    · by_cases hz : m = 0
      · exact .inl hz
      · right
        obtain ⟨b, off, spot⟩ := x
        have h0 := (hV 0 (by omega)).1 0 _ rfl
        have hspot : spot = none := by simpa [Addr.add] using World.cell?_spot h0
        subst hspot
        refine ⟨b, off, rfl, fun i hi j u hj => ?_⟩
        rw [hgd i hi] at hj
        have hq := (hV i (by omega)).1
        have e1 : (⟨b, off, none⟩ : Addr).add (i * 4) = ⟨b, off + i * 4, none⟩ := by
          by_cases h0 : i * 4 = 0
          · rw [h0]; rfl
          · simp [Addr.add, h0]
        rw [e1] at hq
        have e2 : (⟨b, off + i * 4, none⟩ : Addr).add j = ⟨b, off + i * 4 + j, none⟩ := by
          by_cases h0 : j = 0
          · subst h0; rfl
          · simp [Addr.add, h0]
        have h5 := hq j u hj
        rw [e2] at h5
        exact h5
    · intro g hg
      obtain ⟨i, hi, rfl⟩ := List.mem_map.1 hg
      exact (hV i (by have := List.mem_range.1 hi; omega)).2.1
    · intro g hg
      obtain ⟨i, hi, rfl⟩ := List.mem_map.1 hg
      exact (hV i (by have := List.mem_range.1 hi; omega)).2.2
end Go.Proofs.YtjkifdjjcfempaaDoor
end

section
namespace Go.Proofs.YtjkifdjjcfempaaDoor
open Go.RowKit Go Go.Sort
set_option linter.unusedVariables false
set_option maxRecDepth 20000

theorem canon_few2 (l : List Wr) : (canonS l).length ≤ l.length := canon_few l _
theorem fitw_canon {l : List Wr} (h : ∀ c ∈ l, FitW c) : ∀ c ∈ canonS l, FitW c := fun c hc => h c (canonN_mem l _ (Nat.le_refl _) c hc)
set_option maxRecDepth 100000 in
set_option maxHeartbeats 6400000 in
theorem chcanon_walk {w : World} {a : Option Addr} {m cap : Nat} {l : List Wr} (hl : Wrs w a m cap l) (hs : WShort l) (hi : ∀ c ∈ l, IsI64 c.i) (hT : TabW w) :
    Calls Tryd.prog 3 #[.slice a m cap] w (Tells (.bool true) w) := by
  have hle := hl.le
  have hmax := hl.max
  have hll := hl.len
  have HLv := Lib.hid (fun W (h : Below w.heap.size w W) => chlives_c (hT.below h))
  have hLT := lightw_c (x := none) (n1 := 0) (cap := 0) (by omega) hl hs
  obtain ⟨L, hL⟩ : ∃ q, decide (lightW 0 l m ≤ 5000) = q := ⟨_, rfl⟩
  rw [hL] at hLT
  cases L with
  | false =>
    have HLT := Lib.hid hLT
    clear hLT hL hl hs hi hll hT
    go_enter Tryd.func3, Tryd.ntmps3
    go_wp2_with (first
      | (go_at_call 5; (with_reducible refine HLT.out.mono ?_); rintro e9 w9 ⟨rfl, hb9⟩; have HB9 := Lib.hid hb9; clear hb9)
      | (go_at_call 6; (with_reducible refine (HLv.out _ HB9.out).mono ?_); rintro e8 w8 ⟨rfl, hb8⟩))
    go_ret
    exact ⟨rfl, HB9.out.trans (hb8.mono HB9.out.size)⟩
  | true =>
    have hfit := lightW_fits (of_decide_eq_true hL)
    have hm5 : m ≤ 500 := by omega
    have HFW := Lib.hid (show ∀ c ∈ l, FitW c from fun c hc => ⟨(hs c hc).1, hi c hc⟩)
    have HLT := Lib.hid hLT
    have HL := Lib.hid hl
    have HLL := Lib.hid hll
    clear hLT hL hl hs hi hll hT hfit
    go_enter Tryd.func3, Tryd.ntmps3
    go_upto_region 3 with (first
      | (go_at_call 5; (with_reducible refine HLT.out.mono ?_); rintro e9 w9 ⟨rfl, hb9⟩; have HB9 := Lib.hid hb9; clear hb9))
    have hO0 := Lib.hid (OwnW.none_made (w := w9) HB9.out.size)
    have hal := alloc_below w9 (.cells #[] 28)
    have HBa := Lib.hid (HB9.out.trans (hal.mono HB9.out.size))
    clear hal
    go_upto_region 4 with (at_builtin; refine wpList_append_wrsN rfl _ _ rfl rfl hO0.out rfl (HL.out.below HBa.out) (by omega) HBa.out.size ?_; intro a1 c1 w1 ho1 hw1 hg1)
    have HB := Lib.hid (HBa.out.grown hg1 HBa.out.size (fun k e => (hO0.out.lt k e).1))
    have H1 := Lib.hid hw1
    clear ho1 hw1 hg1 hO0 HBa HB9 HLT
    obtain ⟨n2, hn2⟩ : ∃ q, (canonS l).length = q := ⟨_, rfl⟩
    have hn2m : n2 ≤ 500 := by
      have := canon_few2 l
      have := HLL.out
      omega
    have HN2 := Lib.hid hn2
    clear hn2
    go_upto_region 5 with (go_at_call 7; (with_reducible refine (canon_c H1.out HFW.out (by omega)).mono ?_); rintro e2 w2 ⟨v2, rfl, ho2, hb2⟩; obtain ⟨a2, c2, e2, hw2⟩ := OwnL.wrs ho2; rw [HN2.out] at e2 hw2; subst e2; have HB := Lib.hid (HB.out.trans (hb2.mono HB.out.size)); have H1 := Lib.hid (H1.out.below hb2); have H2 := Lib.hid hw2; clear ho2 hb2 hw2)
    have hc2 := H2.out.le
    go_upto_region 7 with (first
      | (go_at_call 9; (with_reducible refine (rcanon_c (HL.out.below HB.out) (by omega)).mono ?_); rintro e3 w3 ⟨v3, rfl, ho3, hb3⟩; obtain ⟨a3, c3, e3, hw3⟩ := OwnL.wrs ho3; rw [HN2.out] at e3 hw3; subst e3; have HB := Lib.hid (HB.out.trans (hb3.mono HB.out.size)); have H1 := Lib.hid (H1.out.below hb3); have H2 := Lib.hid (H2.out.below hb3); have H3 := Lib.hid hw3; clear ho3 hb3 hw3)
      | (go_at_call 8; (with_reducible refine (rwrites_self H2.out H3.out).mono ?_); rintro e4 w4 ⟨rfl, hb4⟩; have HB := Lib.hid (HB.out.trans (hb4.mono HB.out.size)); have H1 := Lib.hid (H1.out.below hb4); have H2 := Lib.hid (H2.out.below hb4); clear hb4 H3)
      | (go_at_call 8; (with_reducible refine (rwrites_self H1.out (HL.out.below HB.out)).mono ?_); rintro e5 w5 ⟨rfl, hb5⟩; have HB := Lib.hid (HB.out.trans (hb5.mono HB.out.size)); have H2 := Lib.hid (H2.out.below hb5); clear hb5 H1)
      | (go_at_call 7; (with_reducible refine (canon_c H2.out (fitw_canon HFW.out) (by omega)).mono ?_); rintro e6 w6 ⟨v6, rfl, ho6, hb6⟩; obtain ⟨a6, c6, e6, hw6⟩ := OwnL.wrs ho6; rw [canon_again, HN2.out] at e6 hw6; subst e6; have HB := Lib.hid (HB.out.trans (hb6.mono HB.out.size)); have H2 := Lib.hid (H2.out.below hb6); have H6 := Lib.hid hw6; clear ho6 hb6 hw6)
      | (go_at_call 8; (with_reducible refine (rwrites_self H6.out H2.out).mono ?_); rintro e7 w7 ⟨rfl, hb7⟩; have HB := Lib.hid (HB.out.trans (hb7.mono HB.out.size)); have H2 := Lib.hid (H2.out.below hb7); clear hb7 H6))
    go_upto_region 8 with (fail)
    clear HL HFW HLL
    go_loopw [5] (fun i wr => ∃ k : Nat, i = .int .i64 ((k + 1 : Nat) : Int) ∧ (k + 1 ≤ n2 ∨ k = 0) ∧ Below w7.heap.size w7 wr) (fun i _ => n2 - (intOf i).toNat)
    case atStart => exact ⟨0, rfl, .inr rfl, Below.refl _ _⟩
    case round =>
      obtain ⟨k, rfl, hk, hBW⟩ := hrel
      have HBW := Lib.hid hBW
      by_cases hlt : k + 1 < n2
      · have hki : ((k + 1 : Nat) : Int) < (n2 : Int) := by omega
        have hkc : ((k + 1 : Nat) : Int) < (c2 : Int) := by omega
        have hkd : (k : Int) < (c2 : Int) := by omega
        have hke : (k : Int) < (n2 : Int) := by omega
        obtain ⟨bl, offl, ea, hat⟩ := Wrs.place H2.out hlt
        obtain ⟨bl', offl', eb, hat'⟩ := Wrs.place H2.out (show k < n2 by omega)
        rw [ea] at eb
        injection eb with eb
        injection eb with e1 e2 _
        subst e1 e2 ea
        have hAA := ws_next (canon_ws l) (k := k) (by rw [HN2.out]; exact hlt)
        have hA := ahead_key hAA
        unfold aheadS at hAA
        obtain ⟨c0, c1, -⟩ := hat wr hBW
        obtain ⟨d0, d1, -⟩ := hat' wr hBW
        obtain ⟨⟨kx, ix, gx, vx⟩, hx⟩ : ∃ y, (canonS l).getD k Wr.zero = y := ⟨_, rfl⟩
        obtain ⟨⟨ky, iy, gy, vy⟩, hy⟩ : ∃ y, (canonS l).getD (k + 1) Wr.zero = y := ⟨_, rfl⟩
        rw [hx] at hA hAA d0 d1
        rw [hy] at hA hAA c0 c1
        simp only at hA hAA c0 c1 d0 d1
        have hwk : IntKind.i64.wrap (((k + 1 : Nat) : Int) - 1) = (k : Int) := by
          rw [show ((k + 1 : Nat) : Int) - 1 = (k : Int) by omega]
          simp [IntKind.wrap, IntKind.signed, IntKind.bits]
          omega
        have hte := text_eqb kx ky
        have htm := text_lss kx ky
        have htl := text_lss ky kx
        rw [hA.1] at htl
        have hA2 := hA.2
        obtain ⟨u, hu⟩ : ∃ u, text kx = u := ⟨_, rfl⟩
        obtain ⟨u', hu'⟩ : ∃ u, text ky = u := ⟨_, rfl⟩
        rw [hu] at hte htl htm d0
        rw [hu'] at hte htl htm c0
        have hn4 : k + 1 + 1 ≤ n2 := hlt
        obtain ⟨j, hj⟩ : ∃ j, k + 1 = j := ⟨_, rfl⟩
        rw [hj] at hki hkc hwk c0 c1 ⊢
        have HJ := Lib.hid hj
        have HN4 := Lib.hid hn4
        clear hat hat' hx hy hA hu hu' hBW hk hlt hj hn4
        cases hq : (kx == ky) with
        | false =>
          rw [hq] at hte
          rw [if_pos hq] at hAA
          rw [hAA] at htm
          clear hA2 hq hAA
          go_upto_region 10 with (fail)
          go_quiet (fail)
          go_wp2
          go_roundw
          case rel => exact ⟨k + 1, congrArg (Value.int .i64) (by have := HJ.out; omega), .inl (by have := HN4.out; omega), below_drewN HBW.out _⟩
          case measure => simp [intOf]; have := HJ.out; have := HN4.out; omega
        | true =>
          rw [hq] at hte
          have hlt2 : ix < iy := hA2 (by simpa using hq)
          have hge : ¬ (iy ≤ ix) := by omega
          clear hA2 hq hAA htm
          go_upto_region 10 with (fail)
          go_quiet (fail)
          go_wp2
          go_roundw
          case rel => exact ⟨k + 1, congrArg (Value.int .i64) (by have := HJ.out; omega), .inl (by have := HN4.out; omega), below_drewN HBW.out _⟩
          case measure => simp [intOf]; have := HJ.out; have := HN4.out; omega
      · have hki : ¬ ((k + 1 : Nat) : Int) < (n2 : Int) := by omega
        go_wp2_with (go_at_call 6; (with_reducible refine (HLv.out _ (HB.out.trans (HBW.out.mono HB.out.size))).mono ?_); rintro e8 w8 ⟨rfl, hb8⟩)
        go_ret
        have hz := HB.out.trans (HBW.out.mono HB.out.size)
        exact ⟨rfl, hz.trans (hb8.mono hz.size)⟩
end Go.Proofs.YtjkifdjjcfempaaDoor
end

