/-
  frame.Rows: what the loop's body leaves as it was; what it has collected, against the plain mathematics.
-/
import Derived.Test.YticcmhgahbnboaaDoorRE
import Derived.Maps.AppendAt
namespace Go.Proofs.YticcmhgahbnboaaDoor
open Go.RowKit Go.Shelf Go
set_option linter.unusedVariables false

/-- The bodies of the frames from place a on, behind acc; how many bytes they have; the error. -/
def rowsF : Nat → List UInt8 → Nat → List (List UInt8) → List (List UInt8) × Nat × Int
  | 0, _, a, acc => (acc, a, 0)
  | f + 1, l, a, acc => if l.length ≤ a then (acc, a, 0) else if (openS (l.drop a)).2.2 = 0 then rowsF f l (a + (openS (l.drop a)).2.1.toNat) (acc ++ [(openS (l.drop a)).1]) else (acc, a, (openS (l.drop a)).2.2)
def rowsS (l : List UInt8) : List (List UInt8) × Nat × Int := rowsF (l.length + 1) l 0 []

theorem rowsF_end {f : Nat} {l : List UInt8} {a : Nat} {acc : List (List UInt8)} (h : l.length ≤ a) : rowsF f l a acc = (acc, a, 0) := by
  cases f with
  | zero => rfl
  | succ f => rw [rowsF, if_pos h]
theorem rowsF_stop {f : Nat} {l : List UInt8} {a : Nat} {acc : List (List UInt8)} {m : List UInt8} {k e : Int} (h : a < l.length) (ho : openS (l.drop a) = (m, k, e)) (he : ¬ e = 0) : rowsF (f + 1) l a acc = (acc, a, e) := by
  rw [rowsF, if_neg (by omega), ho, if_neg he]
theorem rowsF_next {f : Nat} {l : List UInt8} {a : Nat} {acc : List (List UInt8)} {m : List UInt8} {k : Int} (h : a < l.length) (ho : openS (l.drop a) = (m, k, 0)) : rowsF (f + 1) l a acc = rowsF f l (a + k.toNat) (acc ++ [m]) := by
  rw [rowsF, if_neg (by omega), ho, if_pos rfl]

def sumX (xs : List Fx) : Int := (xs.map Fx.size).sum
theorem sumX_snoc (xs : List Fx) (x : Fx) : sumX (xs ++ [x]) = sumX xs + x.size := by simp [sumX]

theorem Walked.rows {l : List UInt8} {B : Nat} {W : World} {xs : List Fx} {a : Nat} (h : Walked l B W xs a) (hok : ∀ y ∈ xs, y.e = 0) : ∀ f, rowsF (f + xs.length) l 0 [] = rowsF f l a (xs.map Fx.m) := by
  induction h with
  | nil => intro f; rfl
  | snoc h hok' ha ho hv ih =>
    rename_i pre a x
    intro f
    have hx := hok x (by simp)
    have := ih hok' (f + 1)
    rw [List.length_append, List.length_singleton, show f + (pre.length + 1) = f + 1 + pre.length by omega, this]
    rw [hx] at ho
    rw [rowsF_next ha ho]
    simp
theorem Walked.place {l : List UInt8} {B : Nat} {W : World} {xs : List Fx} {a : Nat} (h : Walked l B W xs a) (hok : ∀ y ∈ xs, y.e = 0) : sumX xs = (a : Int) := by
  induction h with
  | nil => rfl
  | snoc h hok' ha ho hv ih =>
    rename_i pre a x
    have hx := hok x (by simp)
    rw [sumX_snoc, ih hok']
    rcases openS_cases (l.drop a) with ⟨e, he, hne⟩ | ⟨m', k', he, h6, hkl, _⟩
    · rw [ho] at he; injection he with he1 he2; injection he2 with he2 he3; rw [hx] at he3; exact absurd he3.symm hne
    · rw [ho] at he
      injection he with he1 he2
      injection he2 with he2 he3
      omega
theorem Walked.own {l : List UInt8} {B : Nat} {W : World} {xs : List Fx} {a : Nat} (h : Walked l B W xs a) : ∀ x ∈ xs, OwnB W B 5 x.v x.m := by
  induction h with
  | nil => intro x hx; simp at hx
  | snoc h hok' ha ho hv ih =>
    intro y hy
    rcases List.mem_append.1 hy with h1 | h1
    · exact ih y h1
    · rw [List.mem_singleton.1 h1]; exact hv

theorem Walked.last {l : List UInt8} {B : Nat} {W : World} {pre : List Fx} {x : Fx} {a : Nat} (h : Walked l B W (pre ++ [x]) a) :
    ∃ a0, Walked l B W pre a0 ∧ (∀ y ∈ pre, y.e = 0) ∧ a0 < l.length ∧ openS (l.drop a0) = (x.m, x.size, x.e) := by
  generalize hys : pre ++ [x] = ys at h
  cases h with
  | nil => simp at hys
  | snoc h hok ha ho hv =>
    obtain ⟨h1, h2⟩ := List.append_inj' hys rfl
    simp at h2
    subst h1; subst h2
    exact ⟨_, h, hok, ha, ho⟩
theorem Walked.rowsDone {l : List UInt8} {B : Nat} {W : World} {xs : List Fx} (h : Walked l B W xs l.length) (hok : ∀ y ∈ xs, y.e = 0) : rowsS l = (xs.map Fx.m, l.length, 0) ∧ sumX xs = (l.length : Int) := by
  have h1 := (h.le hok).1
  have := h.rows hok (l.length + 1 - xs.length)
  rw [show l.length + 1 - xs.length + xs.length = l.length + 1 by omega] at this
  exact ⟨by unfold rowsS; rw [this, rowsF_end (Nat.le_refl _)], h.place hok⟩
theorem Walked.rowsStop {l : List UInt8} {B : Nat} {W : World} {pre : List Fx} {x : Fx} {a : Nat} (h : Walked l B W (pre ++ [x]) a) (he : ¬ x.e = 0) : ∃ a0 : Nat, rowsS l = (pre.map Fx.m, a0, x.e) ∧ sumX pre = (a0 : Int) := by
  obtain ⟨a0, h0, hok, ha, ho⟩ := h.last
  have h1 := (h0.le hok).1
  have := h0.rows hok (l.length - pre.length + 1)
  rw [show l.length - pre.length + 1 + pre.length = l.length + 1 by omega] at this
  exact ⟨a0, by unfold rowsS; rw [this, rowsF_stop ha ho he], h0.place hok⟩

/-- A slice of byte slices of the call's own. -/
def OwnRows (W : World) (B : Nat) (v : Value) (ls : List (List UInt8)) : Prop :=
  ∃ vs : List Value, W.ownsRow B 22 1 v vs.length vs ∧ vs.length = ls.length ∧ ∀ i, i < ls.length → OwnB W B 5 (vs.getD i undef) (ls.getD i [])
theorem OwnRows.of_walked {W : World} {B B' : Nat} {v : Value} {xs : List Fx} (hB : B ≤ B') (h : W.ownsRow B' 22 1 v xs.length (xs.map Fx.v)) (ho : ∀ x ∈ xs, OwnB W B 5 x.v x.m) : OwnRows W B v (xs.map Fx.m) := by
  refine ⟨xs.map Fx.v, ?_, by simp, fun i hi => ?_⟩
  · rw [List.length_map]
    refine ⟨h.1, ?_⟩
    rcases h.2 with hn | ⟨g, cap, cur, rfl, hb, rest⟩
    · exact .inl hn
    · exact .inr ⟨g, cap, cur, rfl, by omega, rest⟩
  · rw [List.length_map] at hi
    have := ho xs[i] (List.getElem_mem hi)
    simpa [List.getD, hi] using this

/-- What Rows tells. -/
def RowsPost (l : List UInt8) (w : World) (e : Ending) (w' : World) : Prop :=
  ∃ v, e = .returned (.tuple #[v, .int .i64 ((rowsS l).2.1 : Int), .int .i64 (rowsS l).2.2]) ∧ OwnRows w' w.heap.size v (rowsS l).1 ∧ Below w.heap.size w w'

/-- What a step leaves as it was that writes the boxes Bs and a row of slices at or beyond base. -/
structure Leaves (Bs : Nat → Prop) (base : Nat) (W W' : World) : Prop where
  size : W.heap.size ≤ W'.heap.size
  same : ∀ (j : Nat) (o : Obj), W.heap[j]? = some o → ¬ Bs j → (j < base ∨ ∀ cs fr, o ≠ .cells cs 22 fr) → W'.heap[j]? = some o
theorem Leaves.trans {Bs : Nat → Prop} {base : Nat} {X Y Z : World} (h : Leaves Bs base X Y) (k : Leaves Bs base Y Z) : Leaves Bs base X Z :=
  ⟨Nat.le_trans h.size k.size, fun j o hj hb ho => k.same j o (h.same j o hj hb ho) hb ho⟩
theorem Leaves.setCell {Bs : Nat → Prop} {base : Nat} (W : World) {B : Nat} (hB : Bs B) (u : Value) : Leaves Bs base W (W.setCell ⟨B, 0, none⟩ u) :=
  ⟨(KeepsWalks.setCell W _ u).size, fun j o hj hb _ => (Below.heap_setCell W ⟨B, 0, none⟩ u j (fun e => by subst e; exact hb hB)).trans hj⟩
theorem Leaves.alloc {Bs : Nat → Prop} {base : Nat} (W : World) (o : Obj) : Leaves Bs base W (W.alloc o) :=
  ⟨by simp, fun j o' hj _ _ => (Below.heap_alloc W o j (Array.getElem?_eq_some_iff.1 hj).1).trans hj⟩
theorem Leaves.append {Bs : Nat → Prop} {base : Nat} {W w1 : World} {v : Value} {k : Nat} {xs : List Value} (hrow : W.ownsRow base 22 1 v k xs) (hgrow : W.grownBy w1 v.ownBlock) : Leaves Bs base W w1 := by
  refine ⟨hgrow.size, fun j o hj hb ho => (hgrow.block j (Array.getElem?_eq_some_iff.1 hj).1 ?_).trans hj⟩
  rcases hrow.2 with ⟨rfl, _⟩ | ⟨g, cap, cur, rfl, hbg, hg, _⟩
  · simp [Value.ownBlock]
  · intro e'
    obtain rfl : j = g := by simpa [Value.ownBlock] using e'
    rcases ho with h | h
    · omega
    · rw [hg] at hj; cases hj; exact h _ _ rfl
theorem Leaves.keeps {Bs : Nat → Prop} {base B : Nat} {W W' : World} (h : Leaves Bs base W W') (hb : ∀ j, Bs j → j < B) : KeepsFrom B W W' :=
  ⟨h.size, fun j o hB hj ho => h.same j o hj (fun hh => by have := hb j hh; omega) (.inr (fun cs fr e => by subst e; cases ho))⟩
theorem Leaves.boxed {Bs : Nat → Prop} {base : Nat} {W W' : World} (h : Leaves Bs base W W') {B : Nat} {t : TypeId} {v : Value} (hb : Boxed W B t v) (hB : ¬ Bs B) (hlt : B < base) : Boxed W' B t v := h.same B _ hb hB (.inl hlt)
end Go.Proofs.YticcmhgahbnboaaDoor
