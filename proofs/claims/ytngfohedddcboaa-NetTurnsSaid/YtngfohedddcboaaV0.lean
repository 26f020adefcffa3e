/-
  Pairs of ints that are handed about (arrays of two, structs of two): what the walks read of them.
-/
import Derived.Test.YtngfohedddcboaaHT
import Derived.WalkKit
import Derived.Lib.Hide
import Derived.BigQuiet
import Derived.BigRegion
import Derived.Deep.Cut
import Derived.Deep.MidRow
import Derived.Great.BuildSlice
import Derived.Outline
import Derived.OwnWalk
import Derived.Laws.Rows
import Derived.ChangeKeysEq
import Derived.Laws.StructEq
namespace Go.Proofs.Ytngfohedddcboaa
open Go.RowKit Go Go.Sort
set_option linter.unusedVariables false

/-- A value comes back; what was there stays. -/
def Tells (v : Value) (w : World) (e : Ending) (w' : World) : Prop := e = .returned v ∧ Below w.heap.size w w'
/-- .. met in a world of the class. -/
theorem tells_grown {P : Program} {f : FuncId} {args : Array Value} {w : World} {v : Value} (h : ∀ W, Calls P f args W (Tells v W)) (d : Nat) (os : Array Obj) :
    Calls P f args (grow (redrawn w d) os) fun e w'' => e = .returned v ∧ ∃ p : Regrown, w'' = grow (redrawn w p.d) p.os :=
  Calls.regrown_of (h _)

/-- A pair that lies at a block's head. -/
def Pair (W : World) (g : Nat) (t : TypeId) (a b : Int) : Prop := W.heap[g]? = some (.cells #[.int .i64 a, .int .i64 b] t (0, 0))
theorem Pair.lt {W : World} {g : Nat} {t : TypeId} {a b : Int} (h : Pair W g t a b) : g < W.heap.size := (Array.getElem?_eq_some_iff.1 h).1
theorem Pair.kept {W W' : World} {g : Nat} {t : TypeId} {a b : Int} (h : Pair W g t a b) (hb : Below W.heap.size W W') : Pair W' g t a b := (hb.block g h.lt).trans h
theorem Pair.c0 {W : World} {g : Nat} {t : TypeId} {a b : Int} (h : Pair W g t a b) : W.cell? ⟨g, 0, none⟩ = some (.int .i64 a) := by
  rw [cell_of_row W g 0 _ t (0, 0) h]; rfl
theorem Pair.c1 {W : World} {g : Nat} {t : TypeId} {a b : Int} (h : Pair W g t a b) : W.cell? ⟨g, 1, none⟩ = some (.int .i64 b) := by
  rw [cell_of_row W g 1 _ t (0, 0) h]; rfl
theorem Pair.fz {W : World} {g : Nat} {t : TypeId} {a b : Int} (h : Pair W g t a b) (i : Nat) : W.frozen? ⟨g, i, none⟩ = false := frozen_of_row W g i _ t h
theorem Pair.new (W : World) (t : TypeId) (a b : Int) : Pair (W.alloc (.cells #[.int .i64 a, .int .i64 b] t)) W.heap.size t a b := heap_alloc_new W _
theorem Pair.alloc {W : World} {g : Nat} {t : TypeId} {a b : Int} (h : Pair W g t a b) (o : Obj) : Pair (W.alloc o) g t a b := (Below.heap_alloc W o g h.lt).trans h
theorem Pair.other {W : World} {g : Nat} {t : TypeId} {a b : Int} (h : Pair W g t a b) (p : Addr) (v : Value) (hne : g ≠ p.block) : Pair (W.setCell p v) g t a b :=
  (heap_setCell_other W p g v hne).trans h
theorem Pair.set0 {W : World} {g : Nat} {t : TypeId} {a b : Int} (h : Pair W g t a b) (x : Int) : Pair (W.setCell ⟨g, 0, none⟩ (.int .i64 x)) g t x b := by
  unfold Pair; rw [heap_setCell_same W g 0 _ t _ h]; rfl
theorem Pair.set1 {W : World} {g : Nat} {t : TypeId} {a b : Int} (h : Pair W g t a b) (x : Int) : Pair (W.setCell ⟨g, 1, none⟩ (.int .i64 x)) g t a x := by
  unfold Pair; rw [heap_setCell_same W g 1 _ t _ h]; rfl
theorem drewN_below {w0 w : World} {B : Nat} (h : Below B w0 w) (n : Nat) : Below B w0 (w.drewN n) := ⟨h.os, h.tape, h.output, h.size, h.block⟩
theorem alloc_below (w : World) (o : Obj) : Below w.heap.size w (w.alloc o) := (Below.refl _ w).alloc (Nat.le_refl _) o
theorem Pair.second (W : World) (o1 : Obj) (t : TypeId) (a b : Int) : Pair ((W.alloc o1).alloc (.cells #[.int .i64 a, .int .i64 b] t)) (W.heap.size + 1) t a b := by
  have h := Pair.new (W.alloc o1) t a b
  rwa [World.size_alloc] at h
theorem second_below (W : World) (o1 o2 : Obj) : Below W.heap.size W ((W.alloc o1).alloc o2) := (alloc_below W o1).alloc (by simp) o2
theorem res_cell_tmp {P : Program} {fn : Func} {p q : Tmp} {ty : TypeId} (h : fn.results = #[.cell p ty, .tmp q]) (tmps : Array Value) (w : World) (g : Nat) (t : TypeId) (cs : Array Value) (fr : Nat × Nat) (d : TypeDesc) (v : Value)
    (hp : tmps.getD p undef = .pointer (some ⟨g, 0, none⟩)) (hq : tmps.getD q undef = v) (hg : w.heap[g]? = some (.cells cs t fr))
    (hu : P.underlying ty = some d) (hd : (match d with | .struct _ | .array _ _ => true | _ => false) = true) (hi : (P.info? ty).map (·.size) = some cs.size) :
    (results fn tmps).run P w = .ok (.tuple #[.agg cs, v]) w := by
  have hp' : tmps[p]?.getD undef = .pointer (some ⟨g, 0, none⟩) := by simpa using hp
  have hq' : tmps[q]?.getD undef = v := by simpa using hq
  simp [results, h, hp', hq', asAddr, run_loadVar_row w g t ty cs fr d hg hu hd hi]
theorem Pair.third (W : World) (o1 o2 : Obj) (t : TypeId) (a b : Int) : Pair (((W.alloc o1).alloc o2).alloc (.cells #[.int .i64 a, .int .i64 b] t)) (W.heap.size + 1 + 1) t a b := by
  have h := Pair.new ((W.alloc o1).alloc o2) t a b
  rwa [World.size_alloc, World.size_alloc] at h
theorem third_below (W : World) (o1 o2 o3 : Obj) : Below W.heap.size W (((W.alloc o1).alloc o2).alloc o3) := ((alloc_below W o1).alloc (by simp) o2).alloc (by simp; omega) o3

/-- A slice of pairs of the world. -/
structure Prs (w : World) (a : Option Addr) (n cap : Nat) (l : List (Int × Int)) : Prop where
  len : l.length = n
  le : n ≤ cap
  max : cap ≤ 9223372036854775807
  adr : cap = 0 ∨ ∃ b off, a = some ⟨b, off, none⟩ ∧ ∀ i, i < n → w.cell? ⟨b, off + i * 2, none⟩ = some (.int .i64 (l.getD i (0, 0)).1) ∧ w.cell? ⟨b, off + i * 2 + 1, none⟩ = some (.int .i64 (l.getD i (0, 0)).2)
theorem Prs.below {w w' : World} {a : Option Addr} {n cap : Nat} {l : List (Int × Int)} (h : Prs w a n cap l) (hb : Below w.heap.size w w') : Prs w' a n cap l := by
  refine ⟨h.len, h.le, h.max, ?_⟩
  rcases h.adr with h4 | ⟨b, off, rfl, hc⟩
  · exact .inl h4
  · refine .inr ⟨b, off, rfl, fun i hi => ?_⟩
    obtain ⟨h1, h2⟩ := hc i hi
    exact ⟨by rw [hb.cell (World.block_lt_of_cell? w _ h1)]; exact h1, by rw [hb.cell (World.block_lt_of_cell? w _ h2)]; exact h2⟩
end Go.Proofs.Ytngfohedddcboaa
