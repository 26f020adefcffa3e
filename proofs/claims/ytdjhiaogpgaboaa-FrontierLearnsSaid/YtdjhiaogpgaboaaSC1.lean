/-
  Merged: HT V0 NM NW Ap PW DF DT CS CP FR1 YL K0 K1 K2 TX K3 K4 K6 KE Q0 JB CX YA YC YO MA MB MD MH MI ML MM MQ U9 FR2 FR4 FR5 FR6 FR7 FR8 FR9 FRA FRC FRD E0.
-/
import Derived.Deep.QuietTactic
import Derived.StillTail
import Derived.Lib.QuietBelow
import Derived.Test.YtdjhiaogpgaboaaRows
import Derived.WalkKit
import Derived.Lib.Hide
import Derived.BigQuiet
import Derived.BigRegion
import Derived.Deep.Cut
import Derived.Deep.MidRow
import Derived.Great.BuildSlice
import Derived.Outline
import Derived.OwnWalk
import Derived.Laws.Rows
import Derived.ChangeKeysEq
import Derived.Laws.StructEq
import Derived.WalkSpells
import Derived.WalkLawsBesides
import Derived.Laws.CopyOwn
import Derived.WalkSmall
import Derived.Lib.LaidTab
import Derived.Deep.RegionWith
import Derived.Lib.MinMax
import Derived.WideShapes
import Derived.ChangeSame
import Derived.OpenShut
import Derived.Deep.Slices
import Derived.OrdersIn
import Derived.TacticsIn
import Derived.RangeFuncNested
import Derived.RangeFuncBound
import Derived.RangeFuncCalls
import Derived.RangeFuncLeaves
import Derived.Deep.AppendSrc
import Derived.Lib.AppendZerosOnto
import Derived.Lib.SliceRun
import Derived.Lib.Walk
import Derived.Lib.OthersKept
import Derived.Laws.RangeAny
import Derived.Maps.OwnOps
import Derived.Maps.Views
import Derived.ChangeSlices
import Derived.ChangeArms
import Derived.Deep.DeepAppendWide
import Derived.Maps.AppendAt
import Derived.Shelf.Abstract
import Derived.OwnWalkIn
import Derived.TacticsInMore
import Derived.LoopNIn
import Derived.LoopIn

section
namespace Go.Proofs.Ytdjhiaogpgaboaa
open Go Go.RowKit
set_option linter.unusedVariables false

section
variable {P : Program} {ops : Array Oper} {md : Region.Mode} {C : World → Prop}

/-- Everything of the head from k on is waited for by one behind it, up to the tail's first. -/
def sinkFrom (md : Region.Mode) (ops : Array Oper) (k n : Nat) : Bool :=
  (List.range n).all fun i => decide (i < k) || (List.range (n + 1)).any fun j => decide (i < j) && Region.waitsFor md ops j i
/-- What is listed on the way through the head. -/
structure HdInv (md : Region.Mode) (ops : Array Oper) (k n : Nat) (listed : Array Bool) : Prop where
  head : HeadInv md ops n listed
  first : ∀ i, i < k → listed.getD i true = true
theorem HdInv.set {k n j : Nat} {listed : Array Bool} (h : HdInv md ops k n listed) (hj : j ∈ Region.ready md ops listed) (hjn : j < n) : HdInv md ops k n (listed.setIfInBounds j true) := by
  refine ⟨h.head.set hj hjn, fun i hi => ?_⟩
  by_cases hij : j = i
  · subst hij
    have := (mem_ready.1 hj).1
    rw [h.first j hi] at this
    cases this
  · rw [getD_set_ne true hij]; exact h.first i hi
theorem HdInv.waits {k n : Nat} (hs : sinkFrom md ops k n = true) (hc : Region.chainB md ops n = true) {listed : Array Bool} (inv : HdInv md ops k n listed) :
    ∀ (d i : Nat), n - i = d → i < n → listed.getD i true = false → ∀ t, n ≤ t → t ∉ Region.ready md ops listed := by
  intro d
  induction d using Nat.strongRecOn with
  | _ d ih =>
    intro i hd hi hun t ht hr
    obtain ⟨_, ot, hot, hall⟩ := mem_ready.1 hr
    have htl : t < ops.size := (Array.getElem?_eq_some_iff.1 hot).1
    by_cases htn : t = n
    · subst htn
      have h1 := List.all_eq_true.1 hs i (List.mem_range.2 hi)
      simp only [Bool.or_eq_true, decide_eq_true_eq] at h1
      rcases h1 with h1 | h1
      · rw [inv.first i h1] at hun; cases hun
      · obtain ⟨j, hj, hj2⟩ := List.any_eq_true.1 h1
        simp only [Bool.and_eq_true, decide_eq_true_eq] at hj2
        obtain ⟨oj, hoj, e, he, hb, hon⟩ := Region.waitsFor_spec hj2.2
        have hjle : j ≤ t := by have := List.mem_range.1 hj; omega
        by_cases hjt : j = t
        · subst hjt
          have : oj = ot := Option.some.inj (hoj.symm.trans hot)
          subst this
          have h2 := hall e he hb
          rw [hon, getD_both hun] at h2
          cases h2
        · cases hl : listed.getD j false with
          | true =>
            have h2 := inv.head.closed j oj hoj hl e he hb
            rw [hon, getD_both hun] at h2
            cases h2
          | false =>
            have hjs : j < listed.size := by rw [inv.head.size]; omega
            exact ih (t - j) (by omega) j rfl (by omega) (getD_in hjs hl) t (Nat.le_refl _) hr
    · have h1 := List.all_eq_true.1 hc t (List.mem_range.2 htl)
      simp only [Bool.or_eq_true, decide_eq_true_eq] at h1
      rcases h1 with h1 | h1
      · omega
      · obtain ⟨o', ho', e, he, hb, hon⟩ := Region.waitsFor_spec h1
        have : o' = ot := Option.some.inj (ho'.symm.trans hot)
        subst this
        have h2 := hall e he hb
        rw [hon, getD_both (inv.head.tail (t - 1) (by omega) (by omega))] at h2
        cases h2

end
end Go.Proofs.Ytdjhiaogpgaboaa
end

section
namespace Go.Proofs.Ytdjhiaogpgaboaa
open Go.RowKit Go Go.Sort
set_option linter.unusedVariables false

/-- A value comes back; what was there stays. -/
def Tells (v : Value) (w : World) (e : Ending) (w' : World) : Prop := e = .returned v ∧ Below w.heap.size w w'
/-- A pair that lies at a block's head. -/
def Pair (W : World) (g : Nat) (t : TypeId) (a b : Int) : Prop := W.heap[g]? = some (.cells #[.int .i64 a, .int .i64 b] t (0, 0))
theorem Pair.lt {W : World} {g : Nat} {t : TypeId} {a b : Int} (h : Pair W g t a b) : g < W.heap.size := (Array.getElem?_eq_some_iff.1 h).1
theorem Pair.kept {W W' : World} {g : Nat} {t : TypeId} {a b : Int} (h : Pair W g t a b) (hb : Below W.heap.size W W') : Pair W' g t a b := (hb.block g h.lt).trans h
theorem Pair.c0 {W : World} {g : Nat} {t : TypeId} {a b : Int} (h : Pair W g t a b) : W.cell? ⟨g, 0, none⟩ = some (.int .i64 a) := by
  rw [cell_of_row W g 0 _ t (0, 0) h]; rfl
theorem Pair.c1 {W : World} {g : Nat} {t : TypeId} {a b : Int} (h : Pair W g t a b) : W.cell? ⟨g, 1, none⟩ = some (.int .i64 b) := by
  rw [cell_of_row W g 1 _ t (0, 0) h]; rfl
theorem Pair.fz {W : World} {g : Nat} {t : TypeId} {a b : Int} (h : Pair W g t a b) (i : Nat) : W.frozen? ⟨g, i, none⟩ = false := frozen_of_row W g i _ t h
theorem Pair.new (W : World) (t : TypeId) (a b : Int) : Pair (W.alloc (.cells #[.int .i64 a, .int .i64 b] t)) W.heap.size t a b := heap_alloc_new W _
theorem Pair.alloc {W : World} {g : Nat} {t : TypeId} {a b : Int} (h : Pair W g t a b) (o : Obj) : Pair (W.alloc o) g t a b := (Below.heap_alloc W o g h.lt).trans h
theorem Pair.other {W : World} {g : Nat} {t : TypeId} {a b : Int} (h : Pair W g t a b) (p : Addr) (v : Value) (hne : g ≠ p.block) : Pair (W.setCell p v) g t a b :=
  (heap_setCell_other W p g v hne).trans h
theorem Pair.set0 {W : World} {g : Nat} {t : TypeId} {a b : Int} (h : Pair W g t a b) (x : Int) : Pair (W.setCell ⟨g, 0, none⟩ (.int .i64 x)) g t x b := by
  unfold Pair; rw [heap_setCell_same W g 0 _ t _ h]; rfl
theorem Pair.set1 {W : World} {g : Nat} {t : TypeId} {a b : Int} (h : Pair W g t a b) (x : Int) : Pair (W.setCell ⟨g, 1, none⟩ (.int .i64 x)) g t a x := by
  unfold Pair; rw [heap_setCell_same W g 1 _ t _ h]; rfl
theorem drewN_below {w0 w : World} {B : Nat} (h : Below B w0 w) (n : Nat) : Below B w0 (w.drewN n) := ⟨h.os, h.tape, h.output, h.size, h.block⟩
theorem alloc_below (w : World) (o : Obj) : Below w.heap.size w (w.alloc o) := (Below.refl _ w).alloc (Nat.le_refl _) o
theorem Pair.second (W : World) (o1 : Obj) (t : TypeId) (a b : Int) : Pair ((W.alloc o1).alloc (.cells #[.int .i64 a, .int .i64 b] t)) (W.heap.size + 1) t a b := by
  have h := Pair.new (W.alloc o1) t a b
  rwa [World.size_alloc] at h
theorem second_below (W : World) (o1 o2 : Obj) : Below W.heap.size W ((W.alloc o1).alloc o2) := (alloc_below W o1).alloc (by simp) o2
theorem res_cell_tmp {P : Program} {fn : Func} {p q : Tmp} {ty : TypeId} (h : fn.results = #[.cell p ty, .tmp q]) (tmps : Array Value) (w : World) (g : Nat) (t : TypeId) (cs : Array Value) (fr : Nat × Nat) (d : TypeDesc) (v : Value)
    (hp : tmps.getD p undef = .pointer (some ⟨g, 0, none⟩)) (hq : tmps.getD q undef = v) (hg : w.heap[g]? = some (.cells cs t fr))
    (hu : P.underlying ty = some d) (hd : (match d with | .struct _ | .array _ _ => true | _ => false) = true) (hi : (P.info? ty).map (·.size) = some cs.size) :
    (results fn tmps).run P w = .ok (.tuple #[.agg cs, v]) w := by
  have hp' : tmps[p]?.getD undef = .pointer (some ⟨g, 0, none⟩) := by simpa using hp
  have hq' : tmps[q]?.getD undef = v := by simpa using hq
  simp [results, h, hp', hq', asAddr, run_loadVar_row w g t ty cs fr d hg hu hd hi]
/-- A slice of pairs of the world. -/
structure Prs (w : World) (a : Option Addr) (n cap : Nat) (l : List (Int × Int)) : Prop where
  len : l.length = n
  le : n ≤ cap
  max : cap ≤ 9223372036854775807
  adr : cap = 0 ∨ ∃ b off, a = some ⟨b, off, none⟩ ∧ ∀ i, i < n → w.cell? ⟨b, off + i * 2, none⟩ = some (.int .i64 (l.getD i (0, 0)).1) ∧ w.cell? ⟨b, off + i * 2 + 1, none⟩ = some (.int .i64 (l.getD i (0, 0)).2)
theorem Prs.below {w w' : World} {a : Option Addr} {n cap : Nat} {l : List (Int × Int)} (h : Prs w a n cap l) (hb : Below w.heap.size w w') : Prs w' a n cap l := by
  refine ⟨h.len, h.le, h.max, ?_⟩
  rcases h.adr with h4 | ⟨b, off, rfl, hc⟩
  · exact .inl h4
  · refine .inr ⟨b, off, rfl, fun i hi => ?_⟩
    obtain ⟨h1, h2⟩ := hc i hi
    exact ⟨by rw [hb.cell (World.block_lt_of_cell? w _ h1)]; exact h1, by rw [hb.cell (World.block_lt_of_cell? w _ h2)]; exact h2⟩
end Go.Proofs.Ytdjhiaogpgaboaa
end

section
namespace Go.Proofs.Ytdjhiaogpgaboaa
open Go.RowKit

/-- Byte i of l, as a number. -/
def by8 (l : List UInt8) (i : Nat) : Int := ((l.getD i 0).toNat : Int)
/-- A byte slice of the world: length n, reading as the bytes l. -/
structure Bys (w : World) (a : Option Addr) (n cap : Nat) (l : List UInt8) : Prop where
  len : l.length = n
  le : n ≤ cap
  max : cap ≤ 9223372036854775807
  adr : cap = 0 ∨ ∃ b off, a = some ⟨b, off, none⟩ ∧ ∀ i, i < n → w.cell? ⟨b, off + i, none⟩ = some (.int .u8 (by8 l i))

theorem by8_take (l : List UInt8) (q i : Nat) (h : i < q) : by8 (l.take q) i = by8 l i := by
  unfold by8; simp [List.getD, h]
theorem by8_drop (l : List UInt8) (q i : Nat) : by8 (l.drop q) i = by8 l (q + i) := by
  unfold by8; simp [List.getD, List.getElem?_drop]
theorem addr_add (b off i : Nat) : (⟨b, off, none⟩ : Addr).add i = ⟨b, off + i, none⟩ := by
  by_cases h0 : i = 0
  · subst h0; rfl
  · simp [Addr.add, h0]

/-- The first q bytes of a slice. -/
theorem Bys.take {w : World} {a : Option Addr} {n cap : Nat} {l : List UInt8} (h : Bys w a n cap l) {q : Nat} (hq : q ≤ n) : Bys w a q cap (l.take q) := by
  obtain ⟨h1, h2, h3, h4⟩ := h
  refine ⟨by simp; omega, by omega, h3, ?_⟩
  rcases h4 with h4 | ⟨b, off, rfl, hc⟩
  · exact .inl h4
  · exact .inr ⟨b, off, rfl, fun i hi => by rw [by8_take l q i hi]; exact hc i (by omega)⟩
theorem Bys.drop {w : World} {a : Option Addr} {n cap : Nat} {l : List UInt8} (h : Bys w a n cap l) {q : Nat} (hq : q ≤ n) : Bys w (a.map (fun x => x.add q)) (n - q) (cap - q) (l.drop q) := by
  obtain ⟨h1, h2, h3, h4⟩ := h
  refine ⟨by simp; omega, by omega, by omega, ?_⟩
  rcases h4 with h4 | ⟨b, off, rfl, hc⟩
  · exact .inl (by omega)
  · exact .inr ⟨b, off + q, by rw [Option.map_some, addr_add], fun i hi => by rw [by8_drop, Nat.add_assoc]; exact hc (q + i) (by omega)⟩

theorem Bys.below {w w' : World} {a : Option Addr} {n cap : Nat} {l : List UInt8} (h : Bys w a n cap l) (hb : Below w.heap.size w w') : Bys w' a n cap l := by
  obtain ⟨h1, h2, h3, h4⟩ := h
  refine ⟨h1, h2, h3, ?_⟩
  rcases h4 with h4 | ⟨b, off, rfl, hc⟩
  · exact .inl h4
  · refine .inr ⟨b, off, rfl, fun i hi => ?_⟩
    have := hc i hi
    rw [hb.cell (World.block_lt_of_cell? w _ this)]; exact this

end Go.Proofs.Ytdjhiaogpgaboaa
end

section
namespace Go.Proofs.Ytdjhiaogpgaboaa
open Go.RowKit

/-- Three numbers come back, and the world is as it was. -/
def Ret3 (t : Int × Int × Int) (w : World) (e : Ending) (w' : World) : Prop := e = .returned (.tuple #[.int .i64 t.1, .int .i64 t.2.1, .int .i64 t.2.2]) ∧ w = w'
theorem Ret3.mk {x y z : Int} {t : Int × Int × Int} {w : World} (h : t = (x, y, z)) : Ret3 t w (.returned (.tuple #[.int .i64 x, .int .i64 y, .int .i64 z])) w := by
  subst h; exact ⟨rfl, rfl⟩

end Go.Proofs.Ytdjhiaogpgaboaa
end

section
namespace Go.Proofs.Ytdjhiaogpgaboaa
open Go.RowKit
set_option linter.unusedVariables false

/-- Bytes as cells. -/
def u8v (l : List UInt8) : List Value := l.map (fun c => Value.int .u8 (c.toNat : Int))
theorem u8v_length (l : List UInt8) : (u8v l).length = l.length := by simp [u8v]
theorem u8v_get (l : List UInt8) (i : Nat) (h : i < l.length) : (u8v l)[i]? = some (.int .u8 (by8 l i)) := by
  simp [u8v, by8, List.getD, h]
/-- The text of bytes. -/
def text (l : List UInt8) : ByteArray := ⟨l.toArray⟩

/-- The cells behind a slice's address. -/
theorem Bys.cells {w : World} {a : Option Addr} {n cap : Nat} {l : List UInt8} (h : Bys w a n cap l) (hn : 0 < n) :
    ∃ ad, a = some ad ∧ ∀ j v, (u8v l)[j]? = some v → w.cell? (ad.add j) = some v := by
  obtain ⟨h1, h2, h3, h4⟩ := h
  rcases h4 with h4 | ⟨b, off, rfl, hc⟩
  · omega
  · refine ⟨_, rfl, fun j v hv => ?_⟩
    have hj : j < l.length := by
      have := (List.getElem?_eq_some_iff.1 hv).1
      rwa [u8v_length] at this
    rw [u8v_get l j hj] at hv
    rw [addr_add, ← hv]
    exact hc j (by omega)

section
variable {P : Program}
/-- A slice of the call's own that reads as the bytes l. -/
def OwnB (w : World) (B : Nat) (e : TypeId) (v : Value) (l : List UInt8) : Prop := w.ownsRow B e 1 v l.length (u8v l)

/-- A row of its own that is not empty lies at a block's head. -/
theorem OwnB.row {w : World} {B : Nat} {e : TypeId} {v : Value} {l : List UInt8} (h : OwnB w B e v l) (hl : 0 < l.length) :
    ∃ g cap, v = .slice (some ⟨g, 0, none⟩) l.length cap ∧ OwnB w B e (.slice (some ⟨g, 0, none⟩) l.length cap) l := by
  have h' := h
  rcases h'.2 with ⟨rfl, hn⟩ | ⟨g, cap, cur, rfl, _⟩
  · omega
  · exact ⟨g, cap, rfl, h⟩

end

theorem OwnB.kept {w w' : World} {B : Nat} {e : TypeId} {v : Value} {l : List UInt8} (h : OwnB w B e v l) (hb : Below w.heap.size w w') : OwnB w' B e v l := by
  refine ⟨h.1, ?_⟩
  rcases h.2 with hn | ⟨g, cap, cur, rfl, hB, hg, rest⟩
  · exact .inl hn
  · exact .inr ⟨g, cap, cur, rfl, hB, by rw [hb.block g (Array.getElem?_eq_some_iff.1 hg).1]; exact hg, rest⟩
theorem OwnB.lt {w : World} {B : Nat} {e : TypeId} {v : Value} {l : List UInt8} (h : OwnB w B e v l) : ∀ k, v.ownBlock = some k → B ≤ k ∧ k < w.heap.size := World.ownsRow.lt h
theorem OwnB.mono {w : World} {B B' : Nat} {e : TypeId} {v : Value} {l : List UInt8} (h : OwnB w B e v l) (hB : B' ≤ B) : OwnB w B' e v l := by
  refine ⟨h.1, ?_⟩
  rcases h.2 with hn | ⟨g, cap, cur, rfl, hb, rest⟩
  · exact .inl hn
  · exact .inr ⟨g, cap, cur, rfl, by omega, rest⟩
end Go.Proofs.Ytdjhiaogpgaboaa
end

section
namespace Go.Proofs.Ytdjhiaogpgaboaa
open Go.RowKit
set_option linter.unusedVariables false

def RetU8 (x : Int) (w : World) (e : Ending) (w' : World) : Prop := e = .returned (.int .u8 x) ∧ w = w'
theorem RetU8.mk {a x : Int} {w : World} (h : a = x) : RetU8 x w (.returned (.int .u8 a)) w := by subst h; exact ⟨rfl, rfl⟩

end Go.Proofs.Ytdjhiaogpgaboaa
end

section
namespace Go.Proofs.Ytdjhiaogpgaboaa
open Go Go.RowKit
set_option linter.unusedVariables false

section
variable {P : Program} {ops : Array Oper} {md : Region.Mode}

theorem upon_weak {o : Oper} {a : Act} {K K' : Act → World → Prop} {Q Q' : Exit → Act → World → Prop} (hK : ∀ a w, K a w → K' a w) (hQ : ∀ e a w, Q e a w → e = .normal) (r : Result Next) (h : o.upon P a K Q r) : o.upon P a K' Q' r := by
  cases r with
  | ok n w' =>
    cases n with
    | value v => exact hK _ _ h
    | skip => exact hK _ _ h
    | defer d => exact hK _ _ h
    | enter f args =>
      refine Calls.mono h fun e w'' he => ?_
      cases e with
      | returned v => exact hK _ _ he
      | panicked c => exact absurd (hQ _ _ _ he) (by simp)
      | outgrown => exact absurd (hQ _ _ _ he.choose_spec.choose_spec) (by simp)
    | row r args => exact Rows.mono h fun v w'' he => hK _ _ he
    | _ => exact h
  | halt x w' =>
    cases x with
    | panic v => exact absurd (hQ _ _ _ h) (by simp)
    | _ => exact h
theorem wpOp_of_one {i : Nat} {o : Oper} {a : Act} {w : World} {K : Act → World → Prop} {Q Q' : Exit → Act → World → Prop} (ho : ops[i]? = some o) (hK : ∀ a w, Q' .normal a w → K a w) (hQ : ∀ e a w, Q' e a w → e = .normal)
    (h : wpList P ops Q' [o] a w) : wpOp P ops Q i K a w := by
  unfold wpOp
  simp only [ho]
  unfold wpList at h
  split
  · rename_i hw
    rw [if_pos hw] at h
    rcases h with h | ⟨_, a', w', h⟩
    · left
      exact upon_weak (fun a w h => hK a w h) hQ _ h
    · exact absurd (hQ _ _ _ h) (by simp)
  · rename_i hw
    rw [if_neg hw] at h
    exact hK _ _ h

theorem count_set_lt (l : List Bool) (i : Nat) (h : l[i]? = some false) : (l.set i true).count false < l.count false := by
  induction l generalizing i with
  | nil => simp at h
  | cons b l ih =>
    cases i with
    | zero =>
      have : b = false := by simpa using h
      subst this
      simp
    | succ i =>
      have := ih i (by simpa using h)
      cases b <;> simp <;> omega

/-- What is known of the slots: those that the region writes have the values 'xs'. -/
def flowAct (a : Act) (srcs : List (Option Nat)) (xs : Nat → Value) : Act :=
  { a with tmps := (List.zipWith (fun t s => match s with | some i => xs i | none => t) a.tmps.toList srcs).toArray }
def flowB (md : Region.Mode) (ops : Array Oper) (srcs : List (Option Nat)) : Bool :=
  (List.range ops.size).all fun i => ((ops[i]?).map (fun o => (o.after.all fun e => !Region.binds md e || decide (e.on < i)) &&
    (List.range srcs.length).all fun s => decide ((srcs.getD s none = some i) ↔ (o.dst = some s)))).getD true
theorem flowB_spec {srcs : List (Option Nat)} (h : flowB md ops srcs = true) {i : Nat} {o : Oper} (ho : ops[i]? = some o) :
    (∀ e ∈ o.after, Region.binds md e = true → e.on < i) ∧ ∀ s, s < srcs.length → (srcs.getD s none = some i ↔ o.dst = some s) := by
  have h1 := List.all_eq_true.1 h i (List.mem_range.2 (Array.getElem?_eq_some_iff.1 ho).1)
  simp only [ho, Option.map_some, Option.getD_some, Bool.and_eq_true] at h1
  refine ⟨fun e he hb => ?_, fun s hs => ?_⟩
  · have h2 := (Array.all_eq_true_iff_forall_mem.1 h1.1) e he
    simpa [hb] using h2
  · have h2 := List.all_eq_true.1 h1.2 s (List.mem_range.2 hs)
    simpa using h2
theorem flowAct_put {a : Act} {srcs : List (Option Nat)} (hB : flowB md ops srcs = true) (hl : a.tmps.size = srcs.length) {i : Nat} {o : Oper} (ho : ops[i]? = some o) (xs : Nat → Value) (v : Value) :
    (flowAct a srcs xs).put o.dst v = flowAct a srcs (fun j => if j = i then v else xs j) := by
  have hs := (flowB_spec hB ho).2
  have key : ∀ (d : Option Tmp), o.dst = d → (match d with | some d => { flowAct a srcs xs with tmps := (flowAct a srcs xs).tmps.setIfInBounds d v } | none => flowAct a srcs xs) = flowAct a srcs (fun j => if j = i then v else xs j) := by
    intro d hd
    cases d with
    | none =>
      simp only [flowAct]
      congr 2
      apply List.ext_getElem?
      intro s
      simp only [List.getElem?_zipWith]
      by_cases hlt : s < srcs.length
      · have h1 := hs s hlt
        rw [hd] at h1
        have h2 : ¬ srcs.getD s none = some i := fun h => by cases h1.1 h
        rw [List.getElem?_eq_getElem hlt]
        rw [List.getD_eq_getElem?_getD, List.getElem?_eq_getElem hlt] at h2
        simp only [Option.getD_some] at h2
        cases a.tmps.toList[s]? with
        | none => rfl
        | some t =>
          cases hx : srcs[s] with
          | none => rfl
          | some j =>
            rw [hx] at h2
            have : j ≠ i := fun h => h2 (by rw [h])
            simp [this]
      · rw [List.getElem?_eq_none (l := srcs) (by omega)]
        cases a.tmps.toList[s]? <;> rfl
    | some d =>
      simp only [flowAct, List.setIfInBounds_toArray]
      congr 2
      apply List.ext_getElem?
      intro s
      by_cases hlt : s < srcs.length
      · have h1 := hs s hlt
        rw [hd] at h1
        have hta : s < a.tmps.toList.length := by simpa [hl] using hlt
        rw [List.getD_eq_getElem?_getD, List.getElem?_eq_getElem hlt] at h1
        simp only [Option.getD_some] at h1
        by_cases hsd : d = s
        · subst hsd
          rw [List.getElem?_set_self (by rw [List.length_zipWith]; exact Nat.lt_min.2 ⟨hta, hlt⟩)]
          rw [List.getElem?_zipWith, List.getElem?_eq_getElem hlt, List.getElem?_eq_getElem hta]
          simp [h1.2 rfl]
        · rw [List.getElem?_set_ne hsd]
          simp only [List.getElem?_zipWith, List.getElem?_eq_getElem hlt, List.getElem?_eq_getElem hta]
          cases hx : srcs[s] with
          | none => rfl
          | some j =>
            rw [hx] at h1
            have : j ≠ i := fun h => hsd (by have := h1.1 (by rw [h]); simpa using this)
            simp [this]
      · rw [List.getElem?_eq_none (by simp; omega), List.getElem?_eq_none (by simp; omega)]
  have := key o.dst rfl
  unfold Act.put
  exact this

def flowNeeds (md : Region.Mode) (Gs : List (Value → World → Prop)) (xs : Nat → Value) (w : World) : List Edge → Prop
  | [] => True
  | e :: l => (Region.binds md e = true → (Gs.getD e.on fun _ _ => True) (xs e.on) w) ∧ flowNeeds md Gs xs w l
def flowAll (xs : Nat → Value) (w : World) : List (Value → World → Prop) → Nat → Prop
  | [], _ => True
  | g :: l, k => g (xs k) w ∧ flowAll xs w l (k + 1)
theorem flowNeeds_of {Gs : List (Value → World → Prop)} {xs : Nat → Value} {w : World} : ∀ (l : List Edge), (∀ e ∈ l, Region.binds md e = true → (Gs.getD e.on fun _ _ => True) (xs e.on) w) → flowNeeds md Gs xs w l
  | [], _ => trivial
  | e :: l, h => ⟨h e (by simp), flowNeeds_of l fun e' he => h e' (by simp [he])⟩
theorem flowAll_of {xs : Nat → Value} {w : World} : ∀ (l : List (Value → World → Prop)) (k : Nat), (∀ i, i < l.length → (l.getD i fun _ _ => True) (xs (k + i)) w) → flowAll xs w l k
  | [], _, _ => trivial
  | g :: l, k, h => ⟨by simpa using h 0 (by simp), flowAll_of l (k + 1) fun i hi => by
      have := h (i + 1) (by simpa using hi)
      rw [show k + 1 + i = k + (i + 1) by omega]
      simpa using this⟩
end
end Go.Proofs.Ytdjhiaogpgaboaa
end

section
namespace Go.Proofs.Ytdjhiaogpgaboaa
open Go Go.RowKit
set_option linter.unusedVariables false

section
variable {P : Program} {ops : Array Oper} {md : Region.Mode}

theorem count_set_one (l : List Bool) (i : Nat) (h : l[i]? = some false) : (l.set i true).count false + 1 = l.count false := by
  induction l generalizing i with
  | nil => simp at h
  | cons b l ih =>
    cases i with
    | zero =>
      have : b = false := by simpa using h
      subst this
      simp
    | succ i =>
      have := ih i (by simpa using h)
      cases b <;> simp <;> omega

def headDone (n m : Nat) : Array Bool := Array.replicate n true ++ Array.replicate m false
theorem headDone_of {n : Nat} {listed : Array Bool} (hn : n < ops.size) (inv : HeadInv md ops n listed) (hall : ∀ i, i < n → listed.getD i true = true) : listed = headDone n (ops.size - n) := by
  have hs := inv.size
  apply Array.ext
  · simp [headDone]; omega
  · intro i h1 h2
    by_cases hi : i < n
    · have := hall i hi
      simp only [Array.getD_eq_getD_getElem?, Array.getElem?_eq_getElem h1, Option.getD_some] at this
      rw [this]
      simp [headDone, hi]
    · have := inv.tail i (by omega) (by omega)
      simp only [Array.getD_eq_getD_getElem?, Array.getElem?_eq_getElem h1, Option.getD_some] at this
      rw [this]
      simp [headDone, Array.getElem_append, hi]

/-- How one operation of the head ends; those of 'Fr' leave what none of the others of 'Fr' has. -/
def FlowEndF (a : Act) (o : Oper) (R : World → World → Prop) (G : Nat → Value → World → Prop) (Fr : Nat → Prop) (i : Nat) (w : World) (e : Exit) (a' : Act) (w' : World) : Prop :=
  e = .normal ∧ ∃ v, a' = a.put o.dst v ∧ R w w' ∧ G i v w' ∧ (Fr i → ∀ j, Fr j → ∀ u, G j u w → u ≠ v)

theorem wpAny_flow_tail {Q : Exit → Act → World → Prop} (act : (Nat → Value) → Act) (R : World → World → Prop) (G : Nat → Value → World → Prop) (Fr : Nat → Prop) (w0 : World) (n : Nat) (l : List Oper) (hl : l.toArray = ops)
    (hn : n < ops.size) (hs : Region.sinkB md ops n = true) (hc : Region.chainB md ops n = true) (hseq : Region.seqB md ops (ops.size - n) n (headDone n (ops.size - n)) = true)
    (hR : ∀ a b c, R a b → R b c → R a c) (hG : ∀ i v w w', R w0 w → R w w' → G i v w → G i v w')
    (hwf : ∀ i o, ops[i]? = some o → i < n → ∀ e ∈ o.after, Region.binds md e = true → e.on < i)
    (hput : ∀ i o xs v, ops[i]? = some o → i < n → (act xs).put o.dst v = act (fun j => if j = i then v else xs j))
    (hop : ∀ i o, ops[i]? = some o → i < n → ∀ xs w, R w0 w → (∀ e ∈ o.after, Region.binds md e = true → G e.on (xs e.on) w) → wpList P ops (FlowEndF (act xs) o R G Fr i w) [o] (act xs) w)
    (hend : ∀ xs w, R w0 w → (∀ i, i < n → G i (xs i) w) → (∀ i j, i < n → j < n → i ≠ j → Fr i → Fr j → xs i ≠ xs j) → wpList P ops Q (l.drop n) (act xs) w) :
    ∀ (f : Nat) (listed : Array Bool) (xs : Nat → Value) (w : World), R w0 w → HeadInv md ops n listed → listed.toList.count false = f → (∀ i, i < n → listed.getD i true = true → G i (xs i) w) →
      (∀ i j, i < n → j < n → i ≠ j → Fr i → Fr j → listed.getD i true = true → listed.getD j true = true → xs i ≠ xs j) → wpAny P md ops Q f listed (act xs) w := by
  intro f
  induction f with
  | zero =>
    intro listed xs w hw inv hcn hg hfr
    exfalso
    have hsz := inv.size
    have h1 := inv.tail n (Nat.le_refl _) hn
    have h2 : n < listed.size := by omega
    simp only [Array.getD_eq_getD_getElem?, Array.getElem?_eq_getElem h2, Option.getD_some] at h1
    have : false ∈ listed.toList := by rw [← h1]; simp
    have := List.count_pos_iff.2 this
    omega
  | succ f ih =>
    intro listed xs w hw inv hcn hg hfr
    have hsz := inv.size
    by_cases hall : ∀ i, i < n → listed.getD i true = true
    · have hd := headDone_of hn inv hall
      have hcount : (headDone n (ops.size - n)).toList.count false = ops.size - n := by
        simp [headDone, List.count_replicate]
      rw [hd, hcount] at hcn
      have hlen : (l.drop n).length = ops.size - n := by rw [← hl]; simp
      have := wpAny_of_seq (P := P) (md := md) (ops := ops) (Q' := Q) (l.drop n) n (headDone n (ops.size - n)) (act xs) w (fun j => by rw [← hl]; simp [List.getElem?_drop]) (by rw [hlen]; exact hseq) (hend xs w hw (fun i hi => hg i hi (hall i hi)) fun i j hi hj hne fi fj => hfr i j hi hj hne fi fj (hall i hi) (hall j hj))
      rw [hlen] at this
      rw [hd]
      rw [hcn] at this ⊢
      exact this
    · have hex : ∃ i, i < n ∧ listed.getD i true = false := by
        apply Classical.byContradiction
        intro hne
        apply hall
        intro i hi
        cases hx : listed.getD i true with
        | true => rfl
        | false => exact absurd ⟨i, hi, hx⟩ hne
      refine ⟨fun hr => ?_, fun i hi => ?_⟩
      · exfalso
        apply hall
        intro i
        induction i using Nat.strongRecOn with
        | _ i ihi =>
          intro hi
          cases hlx : listed.getD i true with
          | true => rfl
          | false =>
            have hio : i < ops.size := by omega
            have : i ∈ Region.ready md ops listed := by
              refine mem_ready.2 ⟨hlx, ops[i], by simp [hio], fun e he hb => ?_⟩
              have hlt := hwf i ops[i] (by simp [hio]) hi e he hb
              have h1 := ihi e.on hlt (by omega)
              have h2 : e.on < listed.size := by omega
              simp only [Array.getD_eq_getD_getElem?, Array.getElem?_eq_getElem h2, Option.getD_some] at h1 ⊢
              exact h1
            rw [hr] at this
            cases this
      · obtain ⟨i0, hi0, hx0⟩ := hex
        have hin : i < n := Nat.lt_of_not_le fun h => tail_waits hs hc hn inv (n - i0) i0 rfl hi0 hx0 i h hi
        obtain ⟨hun, o, ho, hdep⟩ := mem_ready.1 hi
        have hilt := (Array.getElem?_eq_some_iff.1 ho).1
        refine wpOp_of_one ho (fun a' w' h => ?_) (fun e a' w' h => h.1) (hop i o ho hin xs w hw fun e he hb => ?_)
        · obtain ⟨_, v, rfl, hww, hv, hfv⟩ := h
          rw [hput i o xs v ho hin]
          refine ih _ _ w' (hR _ _ _ hw hww) (inv.set hi hin) ?_ (fun j hj hlj => ?_) fun j k hj hk hne fj fk lj lk => ?_
          · have h2 : i < listed.size := by omega
            have h3 : listed[i] = false := by simpa [Array.getD_eq_getD_getElem?, Array.getElem?_eq_getElem h2] using hun
            have := count_set_one listed.toList i (by simp [h2, h3])
            rw [Array.toList_setIfInBounds]
            omega
          · by_cases hji : j = i
            · subst hji
              simpa using hv
            · rw [getD_set_ne true (Ne.symm hji)] at hlj
              simp only [if_neg hji]
              exact hG j _ w w' hw hww (hg j hj hlj)
          · by_cases hji : j = i
            · subst hji
              rw [getD_set_ne true hne] at lk
              simp only [if_neg (Ne.symm hne)]
              exact (hfv fj k fk _ (hg k hk lk)).symm
            · rw [getD_set_ne true (Ne.symm hji)] at lj
              by_cases hki : k = i
              · subst hki
                simp only [if_neg hne]
                exact hfv fk j fj _ (hg j hj lj)
              · rw [getD_set_ne true (Ne.symm hki)] at lk
                simp only [if_neg hji, if_neg hki]
                exact hfr j k hj hk hne fj fk lj lk
        · have h1 := hdep e he hb
          have hlt := hwf i o ho hin e he hb
          refine hg e.on (by omega) ?_
          have h3 : e.on < listed.size := by omega
          simp only [Array.getD_eq_getD_getElem?, Array.getElem?_eq_getElem h3, Option.getD_some] at h1 ⊢
          exact h1

def flowTB (md : Region.Mode) (ops : Array Oper) (n : Nat) (srcs : List (Option Nat)) : Bool :=
  (List.range n).all fun i => ((ops[i]?).map (fun o => (o.after.all fun e => !Region.binds md e || decide (e.on < i)) &&
    (List.range srcs.length).all fun s => decide ((srcs.getD s none = some i) ↔ (o.dst = some s)))).getD true
theorem flowTB_take {l : List Oper} {n : Nat} {srcs : List (Option Nat)} (h : flowTB md l.toArray n srcs = true) : flowB md (l.take n).toArray srcs = true := by
  refine List.all_eq_true.2 fun i hi => ?_
  have hlt : i < (l.take n).length := by simpa using List.mem_range.1 hi
  have h1 := List.all_eq_true.1 h i (List.mem_range.2 (by simp at hlt; omega))
  have e : (l.take n).toArray[i]? = l.toArray[i]? := by simp [List.getElem?_take]; intro hh; simp at hlt; omega
  rw [e]
  exact h1

def flowOpsF (P : Program) (md : Region.Mode) (ops : Array Oper) (a : Act) (srcs : List (Option Nat)) (Gs : List (Value → World → Prop)) (Fr : Nat → Prop) (w0 : World) : List Oper → Nat → Prop
  | [], _ => True
  | o :: l, k => (∀ xs w, Below w0.heap.size w0 w → flowNeeds md Gs xs w o.after.toList → wpList P ops (FlowEndF (flowAct a srcs xs) o (fun x y => Below x.heap.size x y) (fun i => Gs.getD i fun _ _ => True) Fr k w) [o] (flowAct a srcs xs) w) ∧ flowOpsF P md ops a srcs Gs Fr w0 l (k + 1)
theorem flowOpsF_get {a : Act} {srcs : List (Option Nat)} {Gs : List (Value → World → Prop)} {Fr : Nat → Prop} {w0 : World} : ∀ (l : List Oper) (k : Nat), flowOpsF P md ops a srcs Gs Fr w0 l k → ∀ i o, l[i]? = some o →
    ∀ xs w, Below w0.heap.size w0 w → flowNeeds md Gs xs w o.after.toList → wpList P ops (FlowEndF (flowAct a srcs xs) o (fun x y => Below x.heap.size x y) (fun i => Gs.getD i fun _ _ => True) Fr (k + i) w) [o] (flowAct a srcs xs) w
  | [], _, _, i, o, h => by simp at h
  | o' :: l, k, hh, 0, o, h => by
    obtain rfl : o' = o := by simpa using h
    exact hh.1
  | o' :: l, k, hh, i + 1, o, h => by
    have := flowOpsF_get l (k + 1) hh.2 i o (by simpa using h)
    rwa [show k + 1 + i = k + (i + 1) by omega] at this

theorem wp_region_flow_tail {id : Nat} {Q : Exit → Act → World → Prop} {l : List Oper} {a : Act} {w : World} (n : Nat) (srcs : List (Option Nat)) (xs0 : Nat → Value) (Gs : List (Value → World → Prop)) (Fr : Nat → Prop) (hm : P.follows .mixedOrders = true)
    (hB : flowTB .any l.toArray n srcs = true) (hT : (decide (n < l.toArray.size) && Region.sinkB .any l.toArray n && Region.chainB .any l.toArray n && Region.seqB .any l.toArray (l.toArray.size - n) n (headDone n (l.toArray.size - n))) = true)
    (hl : a.tmps.size = srcs.length) (h0 : flowAct a srcs xs0 = a) (hn : Gs.length = n)
    (hG : ∀ g ∈ Gs, ∀ v x y, Below w.heap.size w x → Below x.heap.size x y → g v x → g v y)
    (hops : flowOpsF P .any l.toArray a srcs Gs Fr w (l.take n) 0)
    (hend : ∀ xs w', Below w.heap.size w w' → flowAll xs w' Gs 0 → (∀ i j, i < n → j < n → i ≠ j → Fr i → Fr j → xs i ≠ xs j) → wpList P l.toArray Q (l.drop n) (flowAct a srcs xs) w') : (Code.region id l.toArray true).wp P Q a w := by
  simp only [Bool.and_eq_true, decide_eq_true_eq] at hT
  obtain ⟨⟨⟨t1, t2⟩, t3⟩, t4⟩ := hT
  have hB' := flowTB_take hB
  have tk : ∀ i o, l.toArray[i]? = some o → i < n → (l.take n).toArray[i]? = some o := fun i o ho hi => by
    simp only [List.getElem?_toArray] at ho ⊢
    rw [List.getElem?_take, if_pos hi]
    exact ho
  refine wp_region_any hm ?_
  have := wpAny_flow_tail (P := P) (ops := l.toArray) (md := .any) (Q := Q) (flowAct a srcs) (fun x y => Below x.heap.size x y) (fun i => Gs.getD i fun _ _ => True) Fr w n l rfl t1 t2 t3 t4
    (fun a b c h1 h2 => h1.trans (h2.mono h1.size)) (fun i v x y h1 h2 h3 => ?_) (fun i o ho hi => (flowB_spec hB' (tk i o ho hi)).1) (fun i o xs v ho hi => flowAct_put hB' hl (tk i o ho hi) xs v)
    (fun i o ho hi xs x hx hn => by
      have := flowOpsF_get (l.take n) 0 hops i o (by simpa using tk i o ho hi) xs x hx (flowNeeds_of _ fun e he hb => hn e (by simpa using he) hb)
      rwa [Nat.zero_add] at this)
    (fun xs x hx hg hf => hend xs x hx (flowAll_of Gs 0 fun i hi => by rw [Nat.zero_add]; exact hg i (by omega)) hf)
    l.toArray.size (Array.replicate l.toArray.size false) xs0 { w with drawn := w.drawn + 1 } ⟨rfl, rfl, rfl, Nat.le_refl _, fun _ _ => rfl⟩
    ⟨by simp, fun j oj hj hl => (by rw [getD_replicate_false] at hl; cases hl), fun t _ ht => by
      rw [Array.getD_eq_getD_getElem?, Array.getElem?_eq_getElem (by simpa using ht)]; simp⟩ (by simp) (fun i hi hl => by
      exfalso
      rw [Array.getD_eq_getD_getElem?, Array.getElem?_eq_getElem (by simp at t1 ⊢; omega)] at hl
      simp at hl) (fun i j hi hj hne fi fj li lj => by
      exfalso
      rw [Array.getD_eq_getD_getElem?, Array.getElem?_eq_getElem (by simp at t1 ⊢; omega)] at li
      simp at li)
  · rwa [h0] at this
  · by_cases hi : i < Gs.length
    · have hm := List.getElem_mem hi
      rw [List.getD_eq_getElem?_getD, List.getElem?_eq_getElem hi] at h3 ⊢
      exact hG _ hm v x y h1 h2 h3
    · rw [List.getD_eq_getElem?_getD, List.getElem?_eq_none (by omega)]
      trivial
end
end Go.Proofs.Ytdjhiaogpgaboaa
end

section
namespace Go.Proofs.Ytdjhiaogpgaboaa
open Go.RowKit Go Go.Sort
set_option linter.unusedVariables false
set_option maxRecDepth 20000

def sgood (n s : Int) : Bool := decide ((n = 0 ∧ s = 0) ∨ (1 ≤ n ∧ n ≤ 281474976710656 ∧ (s = 1 ∨ s = 2)))
def vgood (a b : Int) : Bool := decide (0 ≤ a) && (decide (a ≤ 1099511627776) && (decide (0 ≤ b) && decide (b ≤ 1099511627776)))
def vcov (a b c d : Int) : Bool := decide (c ≤ a) && decide (d ≤ b)
set_option maxHeartbeats 1600000 in
theorem rvgood_c (a b : Int) (w : World) : Calls Try.prog 35 #[.agg #[.int .i64 a, .int .i64 b]] w (Tells (.bool (vgood a b)) w) := by
  have hp := Pair.new w 25 a b
  have hb := alloc_below w (.cells #[.int .i64 a, .int .i64 b] 25)
  have h0 := hp.c0
  have h1 := hp.c1
  have HB := Lib.hid hb
  have HV := Lib.hid (show vgood a b = (decide (0 ≤ a) && (decide (a ≤ 1099511627776) && (decide (0 ≤ b) && decide (b ≤ 1099511627776)))) from rfl)
  clear hp hb
  by_cases g0 : 0 ≤ a
  · by_cases g1 : a ≤ 1099511627776
    · by_cases g2 : 0 ≤ b
      · by_cases g3 : b ≤ 1099511627776
        · go_enter Try.func35, Try.ntmps35
          go_wp2
          go_ret
          exact ⟨by rw [HV.out]; simp; omega, HB.out⟩
        · go_enter Try.func35, Try.ntmps35
          go_wp2
          go_ret
          exact ⟨by rw [HV.out]; simp; omega, HB.out⟩
      · go_enter Try.func35, Try.ntmps35
        go_wp2
        go_ret
        exact ⟨by rw [HV.out]; simp; omega, HB.out⟩
    · go_enter Try.func35, Try.ntmps35
      go_wp2
      go_ret
      exact ⟨by rw [HV.out]; simp; omega, HB.out⟩
  · go_enter Try.func35, Try.ntmps35
    go_wp2
    go_ret
    exact ⟨by rw [HV.out]; simp; omega, HB.out⟩
theorem size2 (a b : Int) : (Try.prog.info? 25).map (·.size) = some (#[Value.int .i64 a, Value.int .i64 b] : Array Value).size := by
  show _ = some 2
  kernel_rfl
/-- The greatest counts of a list. -/
def joinS (l : List (Int × Int)) : Int × Int := l.foldl (fun r p => (Max.max r.1 p.1, Max.max r.2 p.2)) (0, 0)
end Go.Proofs.Ytdjhiaogpgaboaa
end

section
namespace Go.Proofs.Ytdjhiaogpgaboaa
open Go.RowKit Go Go.Sort Go.Deep
set_option linter.unusedVariables false
set_option maxRecDepth 20000

theorem srun_part_int {W : World} (xs : Array Value) (k : Nat) {v : Value} (hv : xs[k]? = some v) : (part 3 xs k).run Try.prog W = .ok v W := by
  have hi : (Try.prog.info? 3).map (fun i => (i.zero, i.size, i.bytes)) = some (some (.int .i64 0), 1, 8) := by kernel_rfl
  obtain ⟨i0, hi, hz0, hz1, hz2⟩ := info_parts hi
  have hag : (isAgg 3).run Try.prog W = .ok false W := by
    unfold isAgg
    rw [Sem.run_bind, run_underlying Try.underlying3 W]
    rfl
  simp [part, hag, sizeOf, typeInfo, hi, hz1, hv, go_sem]
theorem run_part_int {W : World} (xs : Array Value) (k : Nat) {v : Value} (hv : xs[k]? = some v) : (part 3 xs k).run Try.prog W = .ok v W := by
  have hi : (Try.prog.info? 3).map (fun i => (i.zero, i.size, i.bytes)) = some (some (.int .i64 0), 1, 8) := by kernel_rfl
  obtain ⟨i0, hi, hz0, hz1, hz2⟩ := info_parts hi
  have hag : (isAgg 3).run Try.prog W = .ok false W := by
    unfold isAgg
    rw [Sem.run_bind, run_underlying Try.underlying3 W]
    rfl
  simp [part, hag, sizeOf, typeInfo, hi, hz1, hv, go_sem]
theorem vec_eqIn (x y x' y' : Int) (W : World) : (Op.equalIn 10000 25 (.agg #[.int .i64 x, .int .i64 y]) (.agg #[.int .i64 x', .int .i64 y'])).run Try.prog W = .ok ((x == x') && (y == y')) W := by
  have hi : (Try.prog.info? 3).map (fun i => (i.zero, i.size, i.bytes)) = some (some (.int .i64 0), 1, 8) := by kernel_rfl
  obtain ⟨i3, hi3, _, _, _⟩ := info_parts hi
  have hc : Try.prog.cellsOf 3 = 1 := by kernel_rfl
  rw [run_equalIn_array W 9999 _ _ Try.underlying25 hi3, hc]
  have p0 := run_part_int (W := W) #[.int .i64 x, .int .i64 y] 0 rfl
  have p1 := run_part_int (W := W) #[.int .i64 x, .int .i64 y] 1 rfl
  have q0 := run_part_int (W := W) #[.int .i64 x', .int .i64 y'] 0 rfl
  have q1 := run_part_int (W := W) #[.int .i64 x', .int .i64 y'] 1 rfl
  show (Op.eqItems 9999 3 1 _ _ [0, 1]).run Try.prog W = _
  simp only [Op.eqItems, Sem.run_bind, Nat.zero_mul, Nat.one_mul, p0, q0, Result.andThen_ok]
  cases h0 : (x == x') <;> cases h1 : (y == y') <;> simp [p1, q1, h0, h1, run_equalIn_int W 9998 3 .i64 .i64 _ _ Try.underlying3]
theorem vec_eql (x y : Int) (W : World) : (binOp .eql 25 (.agg #[.int .i64 x, .int .i64 y]) (.agg #[.int .i64 x, .int .i64 y])).run Try.prog W = .ok (.bool true) W := by
  rw [run_eql_struct, vec_eqIn]; simp
theorem vec_eqg (op : BinOp) (x y : Operand) (xs ys : Array Value) (W : World) : (eqGuard op 25 x y (.agg xs) (.agg ys)).run Try.prog W = .ok () W := run_eqGuard_agg W op _ x y xs ys (by kernel_rfl)
/-- One block is other than it was. -/
structure Wrote (g : Nat) (cs : Array Value) (t : TypeId) (w w' : World) : Prop where
  os : w'.os = w.os
  tape : w'.tape = w.tape
  output : w'.output = w.output
  size : w.heap.size ≤ w'.heap.size
  cell : w'.heap[g]? = some (.cells cs t (0, 0))
  rest : ∀ k, k < w.heap.size → k ≠ g → w'.heap[k]? = w.heap[k]?
theorem Wrote.below {g : Nat} {cs : Array Value} {t : TypeId} {w w' : World} (h : Wrote g cs t w w') {B : Nat} (hB : B ≤ g) (hg : g ≤ w.heap.size) : Below B w w' :=
  ⟨h.os, h.tape, h.output, h.size, fun k hk => h.rest k (by omega) (by omega)⟩
theorem Wrote.of_set {g : Nat} {t : TypeId} {w w1 : World} {cs : Array Value} (hb : Below w.heap.size w w1) (hc : w1.heap[g]? = some (.cells cs t (0, 0))) (i : Nat) (v : Value) :
    Wrote g (cs.setIfInBounds i v) t w (w1.setCell ⟨g, i, none⟩ v) := by
  refine ⟨hb.os, hb.tape, hb.output, ?_, heap_setCell_same w1 g i _ t _ hc, fun k hk hkg => ?_⟩
  · exact Nat.le_trans hb.size (Nat.le_of_eq (World.size_setCell _ _ _).symm)
  · rw [heap_setCell_other w1 _ k _ hkg]; exact hb.block k hk
theorem Wrote.trans {g : Nat} {t : TypeId} {w w1 w2 : World} {cs cs' : Array Value} (h : Wrote g cs t w w1) (k : Wrote g cs' t w1 w2) : Wrote g cs' t w w2 :=
  ⟨k.os.trans h.os, k.tape.trans h.tape, k.output.trans h.output, Nat.le_trans h.size k.size, k.cell, fun i hi hg => (k.rest i (Nat.lt_of_lt_of_le hi h.size) hg).trans (h.rest i hi hg)⟩
theorem Wrote.after {g : Nat} {t : TypeId} {w w1 w2 : World} {cs : Array Value} (h : Below w.heap.size w w1) (k : Wrote g cs t w1 w2) : Wrote g cs t w w2 :=
  ⟨k.os.trans h.os, k.tape.trans h.tape, k.output.trans h.output, Nat.le_trans h.size k.size, k.cell, fun i hi hg => (k.rest i (Nat.lt_of_lt_of_le hi h.size) hg).trans (h.block i hi)⟩
theorem Wrote.pair {g g' : Nat} {t t' : TypeId} {w w' : World} {cs : Array Value} {a b : Int} (h : Wrote g cs t w w') (hp : Pair w g' t' a b) (hne : g' ≠ g) : Pair w' g' t' a b :=
  (h.rest g' hp.lt hne).trans hp
/-- Nothing comes back; one block is other than it was. -/
def Sets (g : Nat) (cs : Array Value) (t : TypeId) (w : World) (e : Ending) (w' : World) : Prop := e = .returned (.tuple #[]) ∧ Wrote g cs t w w'
theorem idx_vec (xs : Array Value) (k : Nat) (hk : k < 2) {v : Value} (hv : xs[k]? = some v) (W : World) : (Instr.index 25 (.agg xs) (.int .i64 (k : Int))).run Try.prog W = .ok v W := by
  have hi : (Try.prog.info? 3).map (fun i => (i.zero, i.size, i.bytes)) = some (some (.int .i64 0), 1, 8) := by kernel_rfl
  obtain ⟨i0, hi, hz0, hz1, hz2⟩ := info_parts hi
  simp [Instr.index, run_underlying Try.underlying25, asIntOf, hk, hv, sizeOf, typeInfo, hi, hz1, go_sem]
theorem idx0 (a b : Int) (W : World) : (Instr.index 25 (.agg #[.int .i64 a, .int .i64 b]) (.int .i64 0)).run Try.prog W = .ok (.int .i64 a) W := idx_vec _ 0 (by decide) rfl W
theorem idx1 (a b : Int) (W : World) : (Instr.index 25 (.agg #[.int .i64 a, .int .i64 b]) (.int .i64 1)).run Try.prog W = .ok (.int .i64 b) W := idx_vec _ 1 (by decide) rfl W
theorem step_cov (k : Bool) (a b c d : Int) : (k && decide (c ≤ a) && decide (d ≤ b)) = (k && vcov a b c d) := by unfold vcov; cases k <;> rfl
set_option maxHeartbeats 800000 in
theorem cov1_c (i x y : Int) (c : Bool) (g : Nat) {w : World} (h : w.heap[g]? = some (.cells #[.bool c] 4 (0, 0))) :
    Calls Try.prog 58 #[.int .i64 i, .int .i64 x, .int .i64 y, .pointer (some ⟨g, 0, none⟩)] w (Sets g #[.bool (c && decide (y ≤ x))] 4 w) := by
  have h0 : w.cell? ⟨g, 0, none⟩ = some (.bool c) := by rw [cell_of_row w g 0 _ 4 (0, 0) h]; rfl
  have hz : w.frozen? ⟨g, 0, none⟩ = false := frozen_of_row w g 0 _ 4 h
  have HH := Lib.hid h
  clear h
  cases c <;> by_cases g0 : y ≤ x
  all_goals
    have HD := Lib.hid (show decide (y ≤ x) = _ from rfl)
    simp only [g0, decide_true, decide_false] at HD
    go_enter Try.func58, Try.ntmps58
    go_wp2
    refine bodyPost_ret (results_none rfl _ _ _) rfl ⟨rfl, ?_⟩
    first
      | exact Wrote.of_set (Below.refl _ _) HH.out 0 _
      | (have hd : decide (y ≤ x) = false := by simp; omega
         rw [hd]; exact Wrote.of_set (Below.refl _ _) HH.out 0 _)
      | (have hd : decide (y ≤ x) = true := by simp; omega
         rw [hd]; exact Wrote.of_set (Below.refl _ _) HH.out 0 _)
set_option maxHeartbeats 1600000 in
theorem each_cov (a b c d : Int) (k : Bool) (g : Nat) {w : World} (h : w.heap[g]? = some (.cells #[.bool k] 4 (0, 0))) :
    Calls Try.prog 57 #[.agg #[.int .i64 a, .int .i64 b], .agg #[.int .i64 c, .int .i64 d], .func (.func 58) #[] #[.pointer (some ⟨g, 0, none⟩)]] w (Sets g #[.bool (k && decide (c ≤ a) && decide (d ≤ b))] 4 w) := by
  have hg : g < w.heap.size := (Array.getElem?_eq_some_iff.1 h).1
  have hp := (Pair.new w 25 a b).alloc (.cells #[.int .i64 c, .int .i64 d] 25)
  have hq := Pair.second w (.cells #[.int .i64 a, .int .i64 b] 25) 25 c d
  have hb := second_below w (.cells #[.int .i64 a, .int .i64 b] 25) (.cells #[.int .i64 c, .int .i64 d] 25)
  have hW : Wrote g #[.bool k] 4 w ((w.alloc (.cells #[.int .i64 a, .int .i64 b] 25)).alloc (.cells #[.int .i64 c, .int .i64 d] 25)) :=
    ⟨hb.os, hb.tape, hb.output, hb.size, (hb.block g hg).trans h, fun k hk _ => hb.block k hk⟩
  have HA := Lib.hid (fun (W : World) (h : W.heap[g]? = _) => cov1_c 0 a c k g h)
  have HB := Lib.hid (fun (W : World) (h : W.heap[g]? = _) => cov1_c 1 b d (k && decide (c ≤ a)) g h)
  clear h hb
  go_enter Try.func57, Try.ntmps57
  go_upto_region 1 with (fail)
  generalize (w.alloc (.cells #[.int .i64 a, .int .i64 b] 25)).alloc (.cells #[.int .i64 c, .int .i64 d] 25) = W1 at *
  have p0 := hp.c0
  have p1 := hp.c1
  have HP := Lib.hid hp
  have HQ := Lib.hid hq
  have HW := Lib.hid hW
  clear hp hq hW
  go_wp2
  go_loopw [9] (fun i wr => (Pair wr w.heap.size 25 a b ∧ Pair wr (w.heap.size + 1) 25 c d) ∧ ((i = .int .i64 0 ∧ Wrote g #[.bool k] 4 w wr) ∨ (i = .int .i64 1 ∧ Wrote g #[.bool (k && decide (c ≤ a))] 4 w wr) ∨ (i = .int .i64 2 ∧ Wrote g #[.bool (k && decide (c ≤ a) && decide (d ≤ b))] 4 w wr))) (fun i _ => 2 - (intOf i).toNat)
  case atStart => exact ⟨⟨HP.out, HQ.out⟩, .inl ⟨rfl, HW.out⟩⟩
  case round =>
    clear HP HQ HW p0 p1
    obtain ⟨⟨hp, hq⟩, ⟨rfl, hW⟩ | ⟨rfl, hW⟩ | ⟨rfl, hW⟩⟩ := hrel
    · have q0 := hq.c0
      have hix := idx0 a b
      have HP := Lib.hid hp
      have HQ := Lib.hid hq
      have HW := Lib.hid hW
      clear hp hq hW
      go_wp2_with (go_at_call 58; (with_reducible refine (HA.out _ HW.out.cell).mono ?_); rintro e w2 ⟨rfl, hw2⟩)
      have HR := Lib.hid (HW.out.trans hw2)
      have HP2 := Lib.hid (hw2.pair HP.out (by omega))
      have HQ2 := Lib.hid (hw2.pair HQ.out (by omega))
      clear hw2 q0
      go_wp2
      go_roundw
      case rel => exact ⟨⟨HP2.out, HQ2.out⟩, .inr (.inl ⟨rfl, HR.out⟩)⟩
      case measure => simp [intOf]
    · have q1 := hq.c1
      have hix := idx1 a b
      have HP := Lib.hid hp
      have HQ := Lib.hid hq
      have HW := Lib.hid hW
      clear hp hq hW
      go_wp2_with (go_at_call 58; (with_reducible refine (HB.out _ HW.out.cell).mono ?_); rintro e w2 ⟨rfl, hw2⟩)
      have HR := Lib.hid (HW.out.trans hw2)
      have HP2 := Lib.hid (hw2.pair HP.out (by omega))
      have HQ2 := Lib.hid (hw2.pair HQ.out (by omega))
      clear hw2 q1
      go_wp2
      go_roundw
      case rel => exact ⟨⟨HP2.out, HQ2.out⟩, .inr (.inr ⟨rfl, HR.out⟩)⟩
      case measure => simp [intOf]
    · have HW := Lib.hid hW
      clear hp hq hW
      go_wp2
      refine bodyPost_ret (results_none rfl _ _ _) rfl ⟨rfl, HW.out⟩
theorem Wrote.flag {g : Nat} {v : Value} {t : TypeId} {w w' : World} (h : Wrote g #[v] t w w') : w'.cell? ⟨g, 0, none⟩ = some v := by
  rw [cell_of_row w' g 0 _ t (0, 0) h.cell]; rfl
theorem flag_new (W : World) (v : Value) (t : TypeId) : (W.alloc (.cells #[v] t)).heap[W.heap.size]? = some (.cells #[v] t (0, 0)) := heap_alloc_new W _
theorem mkf (fn : Fn) (first cap : Array Value) (w : World) : (Instr.makeFunc fn first cap).run Try.prog w = .ok (.func fn first cap) w := rfl
set_option maxHeartbeats 1600000 in
theorem vcov_c (a b c d : Int) (w : World) : Calls Try.prog 30 #[.agg #[.int .i64 a, .int .i64 b], .agg #[.int .i64 c, .int .i64 d]] w (Tells (.bool (vcov a b c d)) w) := by
  have hp := (Pair.new w 25 a b).alloc (.cells #[.int .i64 c, .int .i64 d] 25)
  have hq := Pair.second w (.cells #[.int .i64 a, .int .i64 b] 25) 25 c d
  have hb := second_below w (.cells #[.int .i64 a, .int .i64 b] 25) (.cells #[.int .i64 c, .int .i64 d] 25)
  have hs : ((w.alloc (.cells #[.int .i64 a, .int .i64 b] 25)).alloc (.cells #[.int .i64 c, .int .i64 d] 25)).heap.size = w.heap.size + 1 + 1 := by simp
  have HE := Lib.hid (fun (W : World) (g : Nat) (h : W.heap[g]? = _) => each_cov a b c d true g h)
  have HS := Lib.hid (step_cov true a b c d)
  have hmf := mkf
  go_enter Try.func30, Try.ntmps30
  go_upto_region 1 with (fail)
  generalize (w.alloc (.cells #[.int .i64 a, .int .i64 b] 25)).alloc (.cells #[.int .i64 c, .int .i64 d] 25) = W1 at *
  have HP := Lib.hid hp
  have HQ := Lib.hid hq
  have HB := Lib.hid hb
  have HZ := Lib.hid hs
  clear hp hq hb hs
  go_upto_region 2 with (fail)
  have hp2 := HP.out.alloc (.cells #[.bool true] 4)
  have hq2 := HQ.out.alloc (.cells #[.bool true] 4)
  have hb2 := HB.out.alloc HB.out.size (.cells #[.bool true] 4)
  have hf2 := flag_new W1 (.bool true) 4
  obtain ⟨g, hg⟩ : ∃ g, W1.heap.size = g := ⟨_, rfl⟩
  have hs2 : g ≤ (W1.alloc (.cells #[.bool true] 4)).heap.size := by simp [World.size_alloc]; omega
  have hwg : w.heap.size ≤ g := by rw [← hg]; exact HB.out.size
  rw [hg] at hf2 ⊢
  generalize W1.alloc (.cells #[.bool true] 4) = W2 at *
  have p0 := hp2.c0
  have p1 := hp2.c1
  have q0 := hq2.c0
  have q1 := hq2.c1
  have HF := Lib.hid hf2
  have HB2 := Lib.hid hb2
  have HS2 := Lib.hid hs2
  clear hp2 hq2 hf2 hb2 hs2 HP HQ HB HZ hg
  go_upto_region 3 with (go_at_call 57; (with_reducible refine (HE.out _ g HF.out).mono ?_); rintro e w3 ⟨rfl, hw3⟩)
  have hv := hw3.flag
  rw [HS.out] at hv
  have HW := Lib.hid (HB2.out.trans (hw3.below hwg HS2.out))
  clear hw3 p0 p1 q0 q1
  go_wp2
  go_ret
  exact ⟨by simp, HW.out⟩
theorem vgood_cov (a b : Int) : vgood a b = (vcov a b 0 0 && vcov 1099511627776 1099511627776 a b) := by
  unfold vgood vcov
  rw [Bool.eq_iff_iff]
  simp only [Bool.and_eq_true, decide_eq_true_eq]
  omega
set_option maxHeartbeats 1600000 in
theorem vgood_c (a b : Int) (w : World) : Calls Try.prog 41 #[.agg #[.int .i64 a, .int .i64 b]] w (Tells (.bool (vgood a b)) w) := by
  have hp := Pair.new w 25 a b
  have hb := alloc_below w (.cells #[.int .i64 a, .int .i64 b] 25)
  have HV := Lib.hid (vgood_cov a b)
  have H1 := Lib.hid (vcov_c a b 0 0)
  have H2 := Lib.hid (vcov_c 1099511627776 1099511627776 a b)
  have HP := Lib.hid hp
  have HB := Lib.hid hb
  have p0 := hp.c0
  have p1 := hp.c1
  clear hp hb
  cases e1 : vcov a b 0 0 <;> cases e2 : vcov 1099511627776 1099511627776 a b
  all_goals
    rw [e1, e2] at HV
    rw [e1] at H1
    rw [e2] at H2
    clear e1 e2
    go_enter Try.func41, Try.ntmps41
    go_wp2_with (first
      | (go_at_call 30; (with_reducible refine (H2.out w1).mono ?_); rintro e w2 ⟨rfl, hb2⟩; have hs2 := HB.out.trans ((hb1.trans (hb2.mono hb1.size)).mono HB.out.size))
      | (go_at_call 30; (with_reducible refine (H1.out _).mono ?_); rintro e w1 ⟨rfl, hb1⟩; have hs1 := HB.out.trans (hb1.mono HB.out.size); have q0 := (HP.out.kept hb1).c0; have q1 := (HP.out.kept hb1).c1))
    go_ret
    refine ⟨by rw [HV.out]; rfl, ?_⟩
    first
      | exact hs2
      | exact hs1
end Go.Proofs.Ytdjhiaogpgaboaa
end

section
namespace Go.Proofs.Ytdjhiaogpgaboaa
open Go.RowKit Go Go.Sort
set_option linter.unusedVariables false

/-- A front: its site, what was acked, what is stable, what waits, until when. -/
structure Ft where
  s : Int
  k : Int
  b : Int
  t : Int
  u : Int
deriving DecidableEq
def Ft.zero : Ft := ⟨0, 0, 0, 0, 0⟩
def seqS (n : Int) : Bool := decide (0 ≤ n) && decide (n ≤ 1099511627776)
def Ft.good (f : Ft) : Bool := (decide (f.s = 1 ∨ f.s = 2)) && (seqS f.k && (seqS f.b && (seqS f.t && (seqS f.u && (decide (f.b ≤ f.k) && (decide (f.t ≤ f.k) && (decide (0 < f.u) || decide (f.t = 0))))))))
def Ft.theirs (f : Ft) (x y : Int) : Int := if f.s = 1 then y else x
def Ft.mine (f : Ft) (x y : Int) : Int := if f.s = 1 then x else y
/-- What Settle makes of a front that is good. -/
def Ft.settled (f : Ft) (x y : Int) : Ft := if f.u ≤ f.theirs x y then ⟨f.s, f.k, Max.max f.b f.t, 0, 0⟩ else f
def settleS (f : Ft) (x y : Int) : Ft × Int := if f.good = true ∧ vgood x y = true then (f.settled x y, 0) else (Ft.zero, 2)
def Ft.learned (f : Ft) (x y ack own : Int) : Ft :=
  if own ≤ f.theirs x y then ⟨f.s, Max.max f.k ack, Max.max f.b ack, f.t, f.u⟩
  else if f.u = 0 ∧ f.b < ack then ⟨f.s, Max.max f.k ack, f.b, ack, own⟩
  else ⟨f.s, Max.max f.k ack, f.b, f.t, f.u⟩
def learnS (f : Ft) (x y ack own : Int) : Ft × Int :=
  if f.good = true ∧ vgood x y = true ∧ 0 ≤ ack ∧ ack ≤ f.mine x y ∧ seqS own = true then ((f.learned x y ack own).settled x y, 0) else (Ft.zero, 2)
theorem seqS_iff {n : Int} : seqS n = true ↔ 0 ≤ n ∧ n ≤ 1099511627776 := by simp [seqS]
theorem Ft.good_iff {f : Ft} : f.good = true ↔ (f.s = 1 ∨ f.s = 2) ∧ (0 ≤ f.k ∧ f.k ≤ 1099511627776) ∧ (0 ≤ f.b ∧ f.b ≤ 1099511627776) ∧ (0 ≤ f.t ∧ f.t ≤ 1099511627776) ∧ (0 ≤ f.u ∧ f.u ≤ 1099511627776) ∧ f.b ≤ f.k ∧ f.t ≤ f.k ∧ (0 < f.u ∨ f.t = 0) := by
  unfold Ft.good
  simp [seqS_iff]
theorem vgood_iff {x y : Int} : vgood x y = true ↔ 0 ≤ x ∧ x ≤ 1099511627776 ∧ 0 ≤ y ∧ y ≤ 1099511627776 := by simp [vgood]
theorem Ft.mk_good {s k b t u : Int} (h1 : s = 1 ∨ s = 2) (h2 : 0 ≤ k ∧ k ≤ 1099511627776) (h3 : 0 ≤ b ∧ b ≤ 1099511627776) (h4 : 0 ≤ t ∧ t ≤ 1099511627776) (h5 : 0 ≤ u ∧ u ≤ 1099511627776) (h6 : b ≤ k) (h7 : t ≤ k) (h8 : 0 < u ∨ t = 0) : (⟨s, k, b, t, u⟩ : Ft).good = true :=
  Ft.good_iff.2 ⟨h1, h2, h3, h4, h5, h6, h7, h8⟩
theorem max_between {a b c d : Int} (h1 : c ≤ a ∨ c ≤ b) (h2 : a ≤ d) (h3 : b ≤ d) : c ≤ Max.max a b ∧ Max.max a b ≤ d := by omega
theorem Ft.settled_good {f : Ft} {x y : Int} (h : f.good = true) : (f.settled x y).good = true := by
  unfold Ft.settled
  split
  · obtain ⟨h1, h2, h3, h4, h5, h6, h7, h8⟩ := Ft.good_iff.1 h
    exact Ft.mk_good h1 h2 (max_between (.inl h3.1) h3.2 h4.2) (by omega) (by omega) (by omega) (by omega) (.inr rfl)
  · exact h
theorem Ft.learned_good {f : Ft} {x y ack own : Int} (h : f.good = true) (hv : vgood x y = true) (h0 : 0 ≤ ack) (h1 : ack ≤ f.mine x y) (h2 : seqS own = true) : (f.learned x y ack own).good = true := by
  obtain ⟨g1, g2, g3, g4, g5, g6, g7, g8⟩ := Ft.good_iff.1 h
  obtain ⟨v1, v2, v3, v4⟩ := vgood_iff.1 hv
  obtain ⟨s1, s2⟩ := seqS_iff.1 h2
  have hm : f.mine x y ≤ 1099511627776 := by unfold Ft.mine; split <;> assumption
  have ht : 0 ≤ f.theirs x y := by unfold Ft.theirs; split <;> assumption
  have hk : 0 ≤ Max.max f.k ack ∧ Max.max f.k ack ≤ 1099511627776 := max_between (.inl g2.1) g2.2 (by omega)
  have hk1 : f.k ≤ Max.max f.k ack := Int.le_max_left _ _
  have hk2 : ack ≤ Max.max f.k ack := Int.le_max_right _ _
  unfold Ft.learned
  split
  · exact Ft.mk_good g1 hk (max_between (.inl g3.1) g3.2 (by omega)) g4 g5 (by omega) (by omega) g8
  · rename_i hno
    split
    · rename_i hu
      exact Ft.mk_good g1 hk g3 ⟨h0, by omega⟩ ⟨s1, s2⟩ (by omega) hk2 (.inl (by omega))
    · exact Ft.mk_good g1 hk g3 g4 g5 (by omega) (by omega) g8
/-- The program's way: until nothing waits, nothing is changed. -/
theorem Ft.settled_ref {f : Ft} {x y : Int} (h : f.good = true) (hv : vgood x y = true) : f.settled x y = if 0 < f.u ∧ f.u ≤ f.theirs x y then ⟨f.s, f.k, Max.max f.b f.t, 0, 0⟩ else f := by
  rw [Ft.good_iff] at h
  rw [vgood_iff] at hv
  unfold Ft.settled
  by_cases hu : 0 < f.u
  · simp [hu]
  · have h0 : f.u = 0 := by omega
    have h1 : f.t = 0 := by omega
    have h2 : f.u ≤ f.theirs x y := by unfold Ft.theirs; split <;> omega
    rw [if_pos h2, if_neg (fun e => hu e.1), h1, Int.max_eq_left (by omega)]
    obtain ⟨s, k, b, t, u⟩ := f
    simp only at h0 h1
    subst h0 h1
    rfl
theorem Ft.rest_iff {f : Ft} (h : f.good = true) : (f.t = 0 ∧ f.u = 0) ↔ f.u = 0 := by
  rw [Ft.good_iff] at h
  omega
end Go.Proofs.Ytdjhiaogpgaboaa
end

section
namespace Go.Proofs.Ytdjhiaogpgaboaa
open Go.RowKit Go
set_option linter.unusedVariables false
variable {F : Fence} {n : Nat} {P : Program}

def OwnT {β : Type} (B : Nat) (T : TypeId) (I : β → World → Prop) : Prop :=
  ∀ s W W' row, I s W → W.grownBy W' row → (∀ r, row = some r → B ≤ r ∧ ∃ o : Obj, W.heap[r]? = some o ∧ (o.isCells = false ∨ ∃ cs fr, o = .cells cs T fr)) → I s W'
theorem OwnT.from {β : Type} {B : Nat} {T : TypeId} {I : β → World → Prop} (h : OwnT B T I) : OwnFrom B I :=
  fun s W W' row hs hg hr => h s W W' row hs hg (fun r e => by obtain ⟨hB, o, ho, hc⟩ := hr r e; exact ⟨hB, o, ho, .inl hc⟩)
end Go.Proofs.Ytdjhiaogpgaboaa
end

section
namespace Go.Proofs.Ytdjhiaogpgaboaa
open Go.RowKit Go Go.Sort
set_option linter.unusedVariables false
set_option maxRecDepth 20000

/-- A cell that lies at a block's head. -/
def Cel (W : World) (q : Nat) (n s a b : Int) (g : Bool) (t : List UInt8) (d e : Int) : Prop := W.heap[q]? = some (.cells #[.int .i64 n, .int .i64 s, .int .i64 a, .int .i64 b, .bool g, .string (text t), .int .i64 d, .int .i64 e] 60 (0, 0))
theorem Cel.lt {W : World} {q : Nat} {n s a b d e : Int} {g : Bool} {t : List UInt8} (h : Cel W q n s a b g t d e) : q < W.heap.size := (Array.getElem?_eq_some_iff.1 h).1
theorem Cel.kept {W W' : World} {q : Nat} {n s a b d e : Int} {g : Bool} {t : List UInt8} (h : Cel W q n s a b g t d e) (hb : Below W.heap.size W W') : Cel W' q n s a b g t d e := (hb.block q h.lt).trans h
theorem Cel.new (W : World) (n s a b : Int) (g : Bool) (t : List UInt8) (d e : Int) : Cel (W.alloc (.cells #[.int .i64 n, .int .i64 s, .int .i64 a, .int .i64 b, .bool g, .string (text t), .int .i64 d, .int .i64 e] 60)) W.heap.size n s a b g t d e := heap_alloc_new W _
theorem Cel.cs {W : World} {q : Nat} {n s a b d e : Int} {g : Bool} {t : List UInt8} (h : Cel W q n s a b g t d e) :
    W.cell? ⟨q, 0, none⟩ = some (.int .i64 n) ∧ W.cell? ⟨q, 1, none⟩ = some (.int .i64 s) ∧ W.cell? ⟨q, 2, none⟩ = some (.int .i64 a) ∧ W.cell? ⟨q, 3, none⟩ = some (.int .i64 b) ∧
    W.cell? ⟨q, 4, none⟩ = some (.bool g) ∧ W.cell? ⟨q, 5, none⟩ = some (.string (text t)) ∧ W.cell? ⟨q, 6, none⟩ = some (.int .i64 d) ∧ W.cell? ⟨q, 7, none⟩ = some (.int .i64 e) := by
  refine ⟨?_, ?_, ?_, ?_, ?_, ?_, ?_, ?_⟩ <;> (rw [cell_of_row W q _ _ _ (0, 0) h]; rfl)
theorem Cel.fz {W : World} {q : Nat} {n s a b d e : Int} {g : Bool} {t : List UInt8} (h : Cel W q n s a b g t d e) (i : Nat) : W.frozen? ⟨q, i, none⟩ = false := frozen_of_row W q i _ _ h
theorem Cel.alloc {W : World} {q : Nat} {n s a b d e : Int} {g : Bool} {t : List UInt8} (h : Cel W q n s a b g t d e) (o : Obj) : Cel (W.alloc o) q n s a b g t d e := (Below.heap_alloc W o q h.lt).trans h

def zeroS (d e : Int) : Bool := decide (d = 0) && decide (e = 0)
def wroteS (n s a b : Int) (g : Bool) (t : List UInt8) : Bool := n != 0 || (s != 0 || (a != 0 || (b != 0 || (g || t != []))))
end Go.Proofs.Ytdjhiaogpgaboaa
end

section
namespace Go.Proofs.Ytdjhiaogpgaboaa
open Go.RowKit Go Go.Sort
set_option linter.unusedVariables false
set_option maxRecDepth 20000

def cgoodS (p n s a b : Int) (g : Bool) (t : List UInt8) (d e : Int) : Bool :=
  ((p == 1 && zeroS d e) || (p == 2 && (!g && vgood d e))) && (!wroteS n s a b g t || (sgood n s && (decide (0 < n) && (vgood a b && (decide (t.length ≤ 64) && (!g || t == []))))))

end Go.Proofs.Ytdjhiaogpgaboaa
end

section
namespace Go.Proofs.Ytdjhiaogpgaboaa
open Go.RowKit Go Go.Sort
set_option linter.unusedVariables false
set_option maxRecDepth 20000

def cseenS (p n s a b : Int) (g : Bool) (t : List UInt8) (d e : Int) : List UInt8 × Bool :=
  if (cgoodS p n s a b g t d e && (wroteS n s a b g t && (!g && vcov a b d e))) = true then (t, true) else ([], false)

end Go.Proofs.Ytdjhiaogpgaboaa
end

section
namespace Go.Proofs.Ytdjhiaogpgaboaa
open Go.RowKit
set_option linter.unusedVariables false
set_option maxRecDepth 20000

def RetT (t : List UInt8 × Int × Int) (w : World) (e : Ending) (w' : World) : Prop := e = .returned (.tuple #[.string (text t.1), .int .i64 t.2.1, .int .i64 t.2.2]) ∧ w = w'
theorem RetT.mk {s : ByteArray} {x y : Int} {t : List UInt8 × Int × Int} {z : List UInt8} {w : World} (hs : s = text z) (h : t = (z, x, y)) : RetT t w (.returned (.tuple #[.string s, .int .i64 x, .int .i64 y])) w := by
  subst h; subst hs; exact ⟨rfl, rfl⟩

end Go.Proofs.Ytdjhiaogpgaboaa
end

section
namespace Go.Proofs.Ytdjhiaogpgaboaa
open Go.RowKit Go Go.Sort
set_option linter.unusedVariables false
set_option maxRecDepth 20000

/-- A cell. -/
structure Cl where
  n : Int
  s : Int
  a : Int
  b : Int
  g : Bool
  t : List UInt8
  d : Int
  e : Int
def Cl.zero : Cl := ⟨0, 0, 0, 0, false, [], 0, 0⟩
def Cl.arr (c : Cl) : Array Value := #[.int .i64 c.n, .int .i64 c.s, .int .i64 c.a, .int .i64 c.b, .bool c.g, .string (text c.t), .int .i64 c.d, .int .i64 c.e]
def Cl.good (p : Int) (c : Cl) : Bool := cgoodS p c.n c.s c.a c.b c.g c.t c.d c.e
def Cl.wrote (c : Cl) : Bool := wroteS c.n c.s c.a c.b c.g c.t

def Cl.gone (g : Bool) : Cl := ⟨0, 0, 0, 0, g, [], 0, 0⟩
end Go.Proofs.Ytdjhiaogpgaboaa
end

section
namespace Go.Proofs.Ytdjhiaogpgaboaa
open Go.RowKit Go Go.Sort
set_option linter.unusedVariables false
set_option maxRecDepth 20000

/-- A whole cell is stored. -/
theorem Cel.put {W : World} {q : Nat} {n s a b d e : Int} {g : Bool} {t : List UInt8} (h : Cel W q n s a b g t d e) (n' s' a' b' : Int) (g' : Bool) (t' : List UInt8) (d' e' : Int) :
    Cel ((((((((W.setCell ⟨q, 0, none⟩ (.int .i64 n')).setCell ⟨q, 1, none⟩ (.int .i64 s')).setCell ⟨q, 2, none⟩ (.int .i64 a')).setCell ⟨q, 3, none⟩ (.int .i64 b')).setCell ⟨q, 4, none⟩ (.bool g')).setCell ⟨q, 5, none⟩ (.string (text t'))).setCell ⟨q, 6, none⟩ (.int .i64 d')).setCell ⟨q, 7, none⟩ (.int .i64 e')) q n' s' a' b' g' t' d' e' := by
  have h0 : (W.setCell ⟨q, 0, none⟩ (.int .i64 n')).heap[q]? = some (.cells #[.int .i64 n', .int .i64 s, .int .i64 a, .int .i64 b, .bool g, .string (text t), .int .i64 d, .int .i64 e] 60 (0, 0)) := (heap_setCell_same _ q 0 _ _ _ h).trans rfl
  have h1 : ((W.setCell ⟨q, 0, none⟩ (.int .i64 n')).setCell ⟨q, 1, none⟩ (.int .i64 s')).heap[q]? = some (.cells #[.int .i64 n', .int .i64 s', .int .i64 a, .int .i64 b, .bool g, .string (text t), .int .i64 d, .int .i64 e] 60 (0, 0)) := (heap_setCell_same _ q 1 _ _ _ h0).trans rfl
  have h2 : (((W.setCell ⟨q, 0, none⟩ (.int .i64 n')).setCell ⟨q, 1, none⟩ (.int .i64 s')).setCell ⟨q, 2, none⟩ (.int .i64 a')).heap[q]? = some (.cells #[.int .i64 n', .int .i64 s', .int .i64 a', .int .i64 b, .bool g, .string (text t), .int .i64 d, .int .i64 e] 60 (0, 0)) := (heap_setCell_same _ q 2 _ _ _ h1).trans rfl
  have h3 : ((((W.setCell ⟨q, 0, none⟩ (.int .i64 n')).setCell ⟨q, 1, none⟩ (.int .i64 s')).setCell ⟨q, 2, none⟩ (.int .i64 a')).setCell ⟨q, 3, none⟩ (.int .i64 b')).heap[q]? = some (.cells #[.int .i64 n', .int .i64 s', .int .i64 a', .int .i64 b', .bool g, .string (text t), .int .i64 d, .int .i64 e] 60 (0, 0)) := (heap_setCell_same _ q 3 _ _ _ h2).trans rfl
  have h4 : (((((W.setCell ⟨q, 0, none⟩ (.int .i64 n')).setCell ⟨q, 1, none⟩ (.int .i64 s')).setCell ⟨q, 2, none⟩ (.int .i64 a')).setCell ⟨q, 3, none⟩ (.int .i64 b')).setCell ⟨q, 4, none⟩ (.bool g')).heap[q]? = some (.cells #[.int .i64 n', .int .i64 s', .int .i64 a', .int .i64 b', .bool g', .string (text t), .int .i64 d, .int .i64 e] 60 (0, 0)) := (heap_setCell_same _ q 4 _ _ _ h3).trans rfl
  have h5 : ((((((W.setCell ⟨q, 0, none⟩ (.int .i64 n')).setCell ⟨q, 1, none⟩ (.int .i64 s')).setCell ⟨q, 2, none⟩ (.int .i64 a')).setCell ⟨q, 3, none⟩ (.int .i64 b')).setCell ⟨q, 4, none⟩ (.bool g')).setCell ⟨q, 5, none⟩ (.string (text t'))).heap[q]? = some (.cells #[.int .i64 n', .int .i64 s', .int .i64 a', .int .i64 b', .bool g', .string (text t'), .int .i64 d, .int .i64 e] 60 (0, 0)) := (heap_setCell_same _ q 5 _ _ _ h4).trans rfl
  have h6 : (((((((W.setCell ⟨q, 0, none⟩ (.int .i64 n')).setCell ⟨q, 1, none⟩ (.int .i64 s')).setCell ⟨q, 2, none⟩ (.int .i64 a')).setCell ⟨q, 3, none⟩ (.int .i64 b')).setCell ⟨q, 4, none⟩ (.bool g')).setCell ⟨q, 5, none⟩ (.string (text t'))).setCell ⟨q, 6, none⟩ (.int .i64 d')).heap[q]? = some (.cells #[.int .i64 n', .int .i64 s', .int .i64 a', .int .i64 b', .bool g', .string (text t'), .int .i64 d', .int .i64 e] 60 (0, 0)) := (heap_setCell_same _ q 6 _ _ _ h5).trans rfl
  have h7 : ((((((((W.setCell ⟨q, 0, none⟩ (.int .i64 n')).setCell ⟨q, 1, none⟩ (.int .i64 s')).setCell ⟨q, 2, none⟩ (.int .i64 a')).setCell ⟨q, 3, none⟩ (.int .i64 b')).setCell ⟨q, 4, none⟩ (.bool g')).setCell ⟨q, 5, none⟩ (.string (text t'))).setCell ⟨q, 6, none⟩ (.int .i64 d')).setCell ⟨q, 7, none⟩ (.int .i64 e')).heap[q]? = some (.cells #[.int .i64 n', .int .i64 s', .int .i64 a', .int .i64 b', .bool g', .string (text t'), .int .i64 d', .int .i64 e'] 60 (0, 0)) := (heap_setCell_same _ q 7 _ _ _ h6).trans rfl
  exact h7
end Go.Proofs.Ytdjhiaogpgaboaa
end

section
namespace Go.Proofs.Ytdjhiaogpgaboaa
open Go.RowKit Go Go.Sort
set_option linter.unusedVariables false
set_option maxRecDepth 20000

theorem Cel.head {W : World} {q : Nat} {n s a b d e : Int} {g : Bool} {t : List UInt8} (h : Cel W q n s a b g t d e) (n' : Int) (s' : Int) (a' : Int) (b' : Int) (g' : Bool) : Cel (((((W.setCell ⟨q, 0, none⟩ (.int .i64 n')).setCell ⟨q, 1, none⟩ (.int .i64 s')).setCell ⟨q, 2, none⟩ (.int .i64 a')).setCell ⟨q, 3, none⟩ (.int .i64 b')).setCell ⟨q, 4, none⟩ (.bool g')) q n' s' a' b' g' t d e := by
  have h0 : (W.setCell ⟨q, 0, none⟩ (.int .i64 n')).heap[q]? = some (.cells #[.int .i64 n', .int .i64 s, .int .i64 a, .int .i64 b, .bool g, .string (text t), .int .i64 d, .int .i64 e] 60 (0, 0)) := (heap_setCell_same _ q 0 _ _ _ h).trans rfl
  have h1 : ((W.setCell ⟨q, 0, none⟩ (.int .i64 n')).setCell ⟨q, 1, none⟩ (.int .i64 s')).heap[q]? = some (.cells #[.int .i64 n', .int .i64 s', .int .i64 a, .int .i64 b, .bool g, .string (text t), .int .i64 d, .int .i64 e] 60 (0, 0)) := (heap_setCell_same _ q 1 _ _ _ h0).trans rfl
  have h2 : (((W.setCell ⟨q, 0, none⟩ (.int .i64 n')).setCell ⟨q, 1, none⟩ (.int .i64 s')).setCell ⟨q, 2, none⟩ (.int .i64 a')).heap[q]? = some (.cells #[.int .i64 n', .int .i64 s', .int .i64 a', .int .i64 b, .bool g, .string (text t), .int .i64 d, .int .i64 e] 60 (0, 0)) := (heap_setCell_same _ q 2 _ _ _ h1).trans rfl
  have h3 : ((((W.setCell ⟨q, 0, none⟩ (.int .i64 n')).setCell ⟨q, 1, none⟩ (.int .i64 s')).setCell ⟨q, 2, none⟩ (.int .i64 a')).setCell ⟨q, 3, none⟩ (.int .i64 b')).heap[q]? = some (.cells #[.int .i64 n', .int .i64 s', .int .i64 a', .int .i64 b', .bool g, .string (text t), .int .i64 d, .int .i64 e] 60 (0, 0)) := (heap_setCell_same _ q 3 _ _ _ h2).trans rfl
  have h4 : (((((W.setCell ⟨q, 0, none⟩ (.int .i64 n')).setCell ⟨q, 1, none⟩ (.int .i64 s')).setCell ⟨q, 2, none⟩ (.int .i64 a')).setCell ⟨q, 3, none⟩ (.int .i64 b')).setCell ⟨q, 4, none⟩ (.bool g')).heap[q]? = some (.cells #[.int .i64 n', .int .i64 s', .int .i64 a', .int .i64 b', .bool g', .string (text t), .int .i64 d, .int .i64 e] 60 (0, 0)) := (heap_setCell_same _ q 4 _ _ _ h3).trans rfl
  exact h4
end Go.Proofs.Ytdjhiaogpgaboaa
end

section
namespace Go.Proofs.Ytdjhiaogpgaboaa
open Go.RowKit Go Go.Sort
set_option linter.unusedVariables false
set_option maxRecDepth 20000

/-- One block alone is other than it was, and there may be more. -/
structure Only (q : Nat) (w w' : World) : Prop where
  os : w'.os = w.os
  tape : w'.tape = w.tape
  output : w'.output = w.output
  size : w.heap.size ≤ w'.heap.size
  rest : ∀ k, k < w.heap.size → k ≠ q → w'.heap[k]? = w.heap[k]?
theorem Only.set (W : World) (p : Addr) (v : Value) : Only p.block W (W.setCell p v) := by
  have h := (Below.refl p.block W).setCell (p := p) (Nat.le_refl _) v
  exact ⟨h.os, h.tape, h.output, h.size, fun k _ hk => heap_setCell_other W p k v hk⟩
theorem Only.trans {q : Nat} {a b c : World} (h : Only q a b) (k : Only q b c) : Only q a c :=
  ⟨k.os.trans h.os, k.tape.trans h.tape, k.output.trans h.output, Nat.le_trans h.size k.size, fun i hi hne => (k.rest i (Nat.lt_of_lt_of_le hi h.size) hne).trans (h.rest i hi hne)⟩
theorem Only.below {q B : Nat} {w w' : World} (h : Only q w w') (hB : B ≤ q) (hs : B ≤ w.heap.size) : Below B w w' := ⟨h.os, h.tape, h.output, h.size, fun k hk => h.rest k (by omega) (by omega)⟩
end Go.Proofs.Ytdjhiaogpgaboaa
end

section
namespace Go.Proofs.Ytdjhiaogpgaboaa
open Go.RowKit Go Go.Sort
set_option linter.unusedVariables false

abbrev Grp := List UInt8 × Int
/-- A list of groups that lies in memory. -/
structure Grs (w : World) (a : Option Addr) (n cap : Nat) (l : List Grp) : Prop where
  len : l.length = n
  le : n ≤ cap
  max : cap ≤ 9223372036854775807
  adr : cap = 0 ∨ ∃ b off, a = some ⟨b, off, none⟩ ∧ ∀ i, i < n → w.cell? ⟨b, off + i * 2, none⟩ = some (.string (text (l.getD i ([], 0)).1)) ∧ w.cell? ⟨b, off + i * 2 + 1, none⟩ = some (.int .i64 (l.getD i ([], 0)).2)
theorem Grs.below {w w' : World} {a : Option Addr} {n cap : Nat} {l : List Grp} (h : Grs w a n cap l) (hb : Below w.heap.size w w') : Grs w' a n cap l := by
  refine ⟨h.len, h.le, h.max, ?_⟩
  rcases h.adr with h4 | ⟨b, off, rfl, hc⟩
  · exact .inl h4
  · refine .inr ⟨b, off, rfl, fun i hi => ?_⟩
    obtain ⟨h1, h2⟩ := hc i hi
    exact ⟨by rw [hb.cell (World.block_lt_of_cell? w _ h1)]; exact h1, by rw [hb.cell (World.block_lt_of_cell? w _ h2)]; exact h2⟩
/-- What a group's place holds, in every world in which nothing of the old is turned. -/
theorem Grs.at {w : World} {a : Option Addr} {n cap : Nat} {l : List Grp} (h : Grs w a n cap l) {k : Nat} (hk : k < n) :
    ∃ b off, a = some ⟨b, off, none⟩ ∧ ∀ W, Below w.heap.size w W → W.cell? ⟨b, off + k * 2, none⟩ = some (.string (text (l.getD k ([], 0)).1)) ∧ W.cell? ⟨b, off + k * 2 + 1, none⟩ = some (.int .i64 (l.getD k ([], 0)).2) := by
  have := h.le
  rcases h.adr with h4 | ⟨b, off, rfl, hc⟩
  · omega
  · exact ⟨b, off, rfl, fun W hb => ⟨by rw [hb.cell (World.block_lt_of_cell? w _ (hc k hk).1)]; exact (hc k hk).1, by rw [hb.cell (World.block_lt_of_cell? w _ (hc k hk).2)]; exact (hc k hk).2⟩⟩
end Go.Proofs.Ytdjhiaogpgaboaa
end

section
namespace Go.Proofs.Ytdjhiaogpgaboaa
open Go.RowKit Go Go.Sort Go.Maps Go.WideMaps
set_option linter.unusedVariables false
set_option maxRecDepth 20000

/-- A group that lies at a block's head. -/
def GrpAt (W : World) (g : Nat) (s : List UInt8) (p : Int) : Prop := W.heap[g]? = some (.cells #[.string (text s), .int .i64 p] 62 (0, 0))
theorem GrpAt.lt {W : World} {g : Nat} {s : List UInt8} {p : Int} (h : GrpAt W g s p) : g < W.heap.size := (Array.getElem?_eq_some_iff.1 h).1
theorem GrpAt.kept {W W' : World} {g : Nat} {s : List UInt8} {p : Int} (h : GrpAt W g s p) (hb : Below W.heap.size W W') : GrpAt W' g s p := (hb.block g h.lt).trans h
theorem GrpAt.c0 {W : World} {g : Nat} {s : List UInt8} {p : Int} (h : GrpAt W g s p) : W.cell? ⟨g, 0, none⟩ = some (.string (text s)) := by
  rw [cell_of_row W g 0 _ _ (0, 0) h]; rfl
theorem GrpAt.c1 {W : World} {g : Nat} {s : List UInt8} {p : Int} (h : GrpAt W g s p) : W.cell? ⟨g, 1, none⟩ = some (.int .i64 p) := by
  rw [cell_of_row W g 1 _ _ (0, 0) h]; rfl
theorem GrpAt.new (W : World) (s : List UInt8) (p : Int) : GrpAt (W.alloc (.cells #[.string (text s), .int .i64 p] 62)) W.heap.size s p := heap_alloc_new W _
theorem GrpAt.grown {W W' : World} {g B : Nat} {s : List UInt8} {p : Int} (h : GrpAt W g s p) (hg : W.grownBy W' (some B)) (hne : g ≠ B) : GrpAt W' g s p := (hg.block g h.lt (by simpa using hne)).trans h

end Go.Proofs.Ytdjhiaogpgaboaa
end

section
namespace Go.Proofs.Ytdjhiaogpgaboaa
open Go.RowKit Go Go.Sort Go.Deep
set_option linter.unusedVariables false
set_option maxRecDepth 20000

def sless (n s m t : Int) : Bool := decide (n < m ∨ (n = m ∧ s < t))
end Go.Proofs.Ytdjhiaogpgaboaa
end

section
namespace Go.Proofs.Ytdjhiaogpgaboaa
open Go.RowKit Go Go.Sort
set_option linter.unusedVariables false
set_option maxRecDepth 20000

/-- A comparison that is strict, and tells of any two which stands ahead. -/
structure Strict {α : Type} (r : α → α → Bool) : Prop where
  irr : ∀ a, r a a = false
  tr : ∀ a b c, r a b = true → r b c = true → r a c = true
  tot : ∀ a b, r a b = false → r b a = false → a = b
def lexR {α β : Type} [DecidableEq α] (r : α → α → Bool) (s : β → β → Bool) (x y : α × β) : Bool := if x.1 = y.1 then s x.2 y.2 else r x.1 y.1
theorem Strict.lex {α β : Type} [DecidableEq α] {r : α → α → Bool} {s : β → β → Bool} (hr : Strict r) (hs : Strict s) : Strict (lexR r s) := by
  refine ⟨fun a => ?_, fun a b c h1 h2 => ?_, fun a b h1 h2 => ?_⟩
  · unfold lexR
    rw [if_pos rfl]
    exact hs.irr _
  · unfold lexR at h1 h2 ⊢
    by_cases e1 : a.1 = b.1
    · rw [if_pos e1] at h1
      by_cases e2 : b.1 = c.1
      · rw [if_pos e2] at h2
        rw [if_pos (e1.trans e2)]
        exact hs.tr _ _ _ h1 h2
      · rw [if_neg e2] at h2
        rw [if_neg (by rw [e1]; exact e2), e1]
        exact h2
    · rw [if_neg e1] at h1
      by_cases e2 : b.1 = c.1
      · rw [if_neg (by rw [← e2]; exact e1), ← e2]
        exact h1
      · rw [if_neg e2] at h2
        have h3 := hr.tr _ _ _ h1 h2
        rw [if_neg (fun e => by rw [e, hr.irr] at h3; cases h3)]
        exact h3
  · unfold lexR at h1 h2
    by_cases e1 : a.1 = b.1
    · rw [if_pos e1] at h1
      rw [if_pos e1.symm] at h2
      exact Prod.ext e1 (hs.tot _ _ h1 h2)
    · rw [if_neg e1] at h1
      rw [if_neg (fun e => e1 e.symm)] at h2
      exact absurd (hr.tot _ _ h1 h2) e1
def ltI (a b : Int) : Bool := decide (a < b)
theorem strictI : Strict ltI := ⟨fun a => by simp [ltI], fun a b c h1 h2 => by simp [ltI] at *; omega, fun a b h1 h2 => by simp [ltI] at *; omega⟩
def ltB (a b : Bool) : Bool := !a && b
theorem strictB : Strict ltB := ⟨by decide, by decide, by decide⟩
theorem strictT : Strict Op.bytesLess := by
  have hi : ∀ a, Op.bytesLess a a = false := by
    intro a
    induction a with
    | nil => rfl
    | cons x l ih => simp [Op.bytesLess, ih]
  refine ⟨hi, ?_, ?_⟩
  · intro a
    induction a with
    | nil =>
      intro b c h1 h2
      cases b with
      | nil => simp [Op.bytesLess] at h1
      | cons y m =>
        cases c with
        | nil => simp [Op.bytesLess] at h2
        | cons z k => rfl
    | cons x l ih =>
      intro b c h1 h2
      cases b with
      | nil => simp [Op.bytesLess] at h1
      | cons y m =>
        cases c with
        | nil => simp [Op.bytesLess] at h2
        | cons z k =>
          simp only [Op.bytesLess, Bool.or_eq_true, Bool.and_eq_true, decide_eq_true_eq, beq_iff_eq] at h1 h2 ⊢
          rcases h1 with h1 | ⟨rfl, h1⟩
          · rcases h2 with h2 | ⟨rfl, h2⟩
            · left; exact UInt8.lt_trans h1 h2
            · left; exact h1
          · rcases h2 with h2 | ⟨rfl, h2⟩
            · left; exact h2
            · right; exact ⟨rfl, ih _ _ h1 h2⟩
  · intro a
    induction a with
    | nil =>
      intro b h1 h2
      cases b with
      | nil => rfl
      | cons y m => simp [Op.bytesLess] at h1
    | cons x l ih =>
      intro b h1 h2
      cases b with
      | nil => simp [Op.bytesLess] at h2
      | cons y m =>
        simp only [Op.bytesLess, Bool.or_eq_false_iff, Bool.and_eq_false_iff, decide_eq_false_iff_not, beq_eq_false_iff_ne] at h1 h2
        obtain ⟨a1, a2⟩ := h1
        obtain ⟨b1, b2⟩ := h2
        have e : x = y := UInt8.le_antisymm (UInt8.not_lt.1 b1) (UInt8.not_lt.1 a1)
        subst e
        rcases a2 with a2 | a2
        · exact absurd rfl a2
        · rcases b2 with b2 | b2
          · exact absurd rfl b2
          · rw [ih _ a2 b2]

abbrev Key := (Int × Int) × Bool × List UInt8 × Int × Int
def lessK : Key → Key → Bool := lexR (lexR ltI ltI) (lexR ltB (lexR Op.bytesLess (lexR ltI ltI)))
theorem strictK : Strict lessK := (strictI.lex strictI).lex (strictB.lex (strictT.lex (strictI.lex strictI)))
def Cl.key (c : Cl) : Key := ((c.n, c.s), c.g, c.t, c.a, c.b)

/-- Whether a write stands ahead of another one. -/
def lessS (a b : Cl) : Bool :=
  if ((a.n == b.n) && (a.s == b.s)) = false then sless a.n a.s b.n b.s
  else if (a.g == b.g) = false then b.g
  else if (a.t == b.t) = false then Op.bytesLess a.t b.t
  else if (a.a == b.a) = false then decide (a.a < b.a)
  else decide (a.b < b.b)
theorem sless_lex (n s m t : Int) : sless n s m t = lexR ltI ltI (n, s) (m, t) := by
  unfold sless lexR ltI
  simp only
  by_cases e : n = m
  · subst e; simp
  · simp [e]
theorem less_key (a b : Cl) : lessS a b = lessK a.key b.key := by
  unfold lessS lessK Cl.key
  rw [lexR]
  simp only [Prod.mk.injEq]
  by_cases e1 : a.n = b.n ∧ a.s = b.s
  · rw [if_pos e1, if_neg (by simp [e1.1, e1.2]), lexR]
    simp only
    by_cases e2 : a.g = b.g
    · rw [if_pos e2, if_neg (by simp [e2]), lexR]
      simp only
      by_cases e3 : a.t = b.t
      · rw [if_pos e3, if_neg (by simp [e3]), lexR]
        simp only
        by_cases e4 : a.a = b.a
        · rw [if_pos e4, if_neg (by simp [e4])]; rfl
        · rw [if_neg e4, if_pos (by simpa using e4)]; rfl
      · rw [if_neg e3, if_pos (by simpa using e3)]
    · rw [if_neg e2, if_pos (by simpa using e2)]
      unfold ltB
      revert e2
      cases a.g <;> cases b.g <;> simp
  · rw [if_neg e1, if_pos (by rw [Bool.eq_false_iff]; simpa using e1), sless_lex]

/-- The join of two. -/
def deadJ (a b : Cl) : Int × Int := joinS [(a.d, a.e), (b.d, b.e)]
def twoS (a b : Cl) : Cl := { (if lessS a b = true then b else a) with d := (deadJ a b).1, e := (deadJ a b).2 }
theorem two_d (a b : Cl) : (twoS a b).d = max (max 0 a.d) b.d := rfl
theorem two_e (a b : Cl) : (twoS a b).e = max (max 0 a.e) b.e := rfl
theorem two_key (a b : Cl) : (twoS a b).key = if lessS a b = true then b.key else a.key := by unfold twoS; split <;> rfl
/-- The greatest of two writes. -/
def maxK (x y : Key) : Key := if lessK x y = true then y else x
theorem maxK_assoc (x y z : Key) : maxK (maxK x y) z = maxK x (maxK y z) := by
  unfold maxK
  cases h1 : lessK x y with
  | true =>
    cases h2 : lessK y z with
    | true => simp [h2, strictK.tr _ _ _ h1 h2]
    | false => simp [h1, h2]
  | false =>
    cases h2 : lessK y z with
    | true => simp
    | false =>
      simp [h1]
      cases h3 : lessK x z with
      | false => simp
      | true =>
        exfalso
        cases h4 : lessK y x with
        | true =>
          have := strictK.tr _ _ _ h4 h3
          rw [h2] at this; cases this
        | false =>
          rw [strictK.tot _ _ h1 h4] at h3
          rw [h2] at h3; cases h3
theorem two_keyM (a b : Cl) : (twoS a b).key = maxK a.key b.key := by rw [two_key, less_key]; rfl
/-- What of a cell is asked so that no write adds nothing to it. -/
structure Cl.Up (c : Cl) : Prop where
  key : maxK Cl.zero.key c.key = c.key
  d : 0 ≤ c.d
  e : 0 ≤ c.e
theorem Cl.Up.two {a b : Cl} (ha : a.Up) (hb : b.Up) : (twoS a b).Up := by
  refine ⟨?_, ?_, ?_⟩
  · rw [two_keyM, ← maxK_assoc, ha.key]
  · rw [two_d]; omega
  · rw [two_e]; omega
end Go.Proofs.Ytdjhiaogpgaboaa
end

section
namespace Go.Proofs.Ytdjhiaogpgaboaa
open Go.RowKit Go Go.Sort
set_option linter.unusedVariables false
set_option maxRecDepth 20000

theorem Wrote.kept {g : Nat} {t : TypeId} {w w1 w2 : World} {cs : Array Value} (h : Wrote g cs t w w1) (hg : g < w1.heap.size) (hb : Below w1.heap.size w1 w2) : Wrote g cs t w w2 :=
  ⟨hb.os.trans h.os, hb.tape.trans h.tape, hb.output.trans h.output, Nat.le_trans h.size hb.size, (hb.block g hg).trans h.cell, fun k hk hne => (hb.block k (Nat.lt_of_lt_of_le hk h.size)).trans (h.rest k hk hne)⟩

/-- What a cell's place holds. -/
def CelAt (W : World) (b o : Nat) (c : Cl) : Prop :=
  W.cell? ⟨b, o, none⟩ = some (.int .i64 c.n) ∧ W.cell? ⟨b, o + 1, none⟩ = some (.int .i64 c.s) ∧ W.cell? ⟨b, o + 2, none⟩ = some (.int .i64 c.a) ∧ W.cell? ⟨b, o + 3, none⟩ = some (.int .i64 c.b) ∧
  W.cell? ⟨b, o + 4, none⟩ = some (.bool c.g) ∧ W.cell? ⟨b, o + 5, none⟩ = some (.string (text c.t)) ∧ W.cell? ⟨b, o + 6, none⟩ = some (.int .i64 c.d) ∧ W.cell? ⟨b, o + 7, none⟩ = some (.int .i64 c.e)
theorem CelAt.kept {W W' : World} {b o : Nat} {c : Cl} (h : CelAt W b o c) (hb : Below W.heap.size W W') : CelAt W' b o c := by
  obtain ⟨h0, h1, h2, h3, h4, h5, h6, h7⟩ := h
  exact ⟨(hb.cell (World.block_lt_of_cell? W _ h0)).trans h0, (hb.cell (World.block_lt_of_cell? W _ h1)).trans h1, (hb.cell (World.block_lt_of_cell? W _ h2)).trans h2, (hb.cell (World.block_lt_of_cell? W _ h3)).trans h3, (hb.cell (World.block_lt_of_cell? W _ h4)).trans h4, (hb.cell (World.block_lt_of_cell? W _ h5)).trans h5, (hb.cell (World.block_lt_of_cell? W _ h6)).trans h6, (hb.cell (World.block_lt_of_cell? W _ h7)).trans h7⟩
/-- A list of cells that lies in memory. -/
structure Cls (w : World) (a : Option Addr) (n cap : Nat) (l : List Cl) : Prop where
  len : l.length = n
  le : n ≤ cap
  max : cap ≤ 9223372036854775807
  adr : cap = 0 ∨ ∃ b off, a = some ⟨b, off, none⟩ ∧ ∀ i, i < n → CelAt w b (off + i * 8) (l.getD i Cl.zero)
theorem Cls.below {w w' : World} {a : Option Addr} {n cap : Nat} {l : List Cl} (h : Cls w a n cap l) (hb : Below w.heap.size w w') : Cls w' a n cap l := by
  refine ⟨h.len, h.le, h.max, ?_⟩
  rcases h.adr with h4 | ⟨b, off, rfl, hc⟩
  · exact .inl h4
  · exact .inr ⟨b, off, rfl, fun i hi => (hc i hi).kept hb⟩
/-- What a place holds, in every world in which nothing of the old is turned. -/
theorem Cls.at {w : World} {a : Option Addr} {n cap : Nat} {l : List Cl} (h : Cls w a n cap l) {k : Nat} (hk : k < n) :
    ∃ b off, a = some ⟨b, off, none⟩ ∧ ∀ W, Below w.heap.size w W → CelAt W b (off + k * 8) (l.getD k Cl.zero) := by
  have := h.le
  rcases h.adr with h4 | ⟨b, off, rfl, hc⟩
  · omega
  · exact ⟨b, off, rfl, fun W hb => (hc k hk).kept hb⟩
theorem Cls.nil (w : World) : Cls w none 0 0 [] := ⟨rfl, Nat.le_refl _, by omega, .inl rfl⟩
theorem Cls.take {w : World} {a : Option Addr} {n cap : Nat} {l : List Cl} (h : Cls w a n cap l) {k : Nat} (hk : k ≤ n) : Cls w a k cap (l.take k) := by
  have hl := h.len
  have hle := h.le
  refine ⟨by rw [List.length_take]; omega, by omega, h.max, ?_⟩
  rcases h.adr with h4 | ⟨b, off, rfl, hc⟩
  · exact .inl h4
  · refine .inr ⟨b, off, rfl, fun i hi => ?_⟩
    have := hc i (by omega)
    rw [List.getD_eq_getElem?_getD] at this ⊢
    rwa [List.getElem?_take_of_lt hi]
def CelC (W : World) (q : Nat) (c : Cl) : Prop := Cel W q c.n c.s c.a c.b c.g c.t c.d c.e
theorem CelC.kept {W W' : World} {q : Nat} {c : Cl} (h : CelC W q c) (hb : Below W.heap.size W W') : CelC W' q c := Cel.kept h hb
theorem CelC.alloc {W : World} {q : Nat} {c : Cl} (h : CelC W q c) (x : Obj) : CelC (W.alloc x) q c := Cel.alloc h x
end Go.Proofs.Ytdjhiaogpgaboaa
end

section
namespace Go.Proofs.Ytdjhiaogpgaboaa
open Go.RowKit Go Go.Sort
set_option linter.unusedVariables false
set_option maxRecDepth 20000

theorem own_kept {W W' : World} {B s k : Nat} {e : TypeId} {v : Value} {xs : List Value} (h : W.ownsRow B e s v k xs) (hb : Below W.heap.size W W') : W'.ownsRow B e s v k xs := by
  refine ⟨h.1, ?_⟩
  rcases h.2 with hn | ⟨g, cap, cur, rfl, hB, hg, rest⟩
  · exact .inl hn
  · exact .inr ⟨g, cap, cur, rfl, hB, by rw [hb.block g (Array.getElem?_eq_some_iff.1 hg).1]; exact hg, rest⟩
theorem own_mono {W : World} {B B' s k : Nat} {e : TypeId} {v : Value} {xs : List Value} (h : W.ownsRow B e s v k xs) (hB : B' ≤ B) : W.ownsRow B' e s v k xs := by
  refine ⟨h.1, ?_⟩
  rcases h.2 with hn | ⟨g, cap, cur, rfl, hb, rest⟩
  · exact .inl hn
  · exact .inr ⟨g, cap, cur, rfl, by omega, rest⟩
def cCells (l : List Cl) : List Value := l.flatMap (fun c => c.arr.toList)
theorem cCells_get : ∀ (l : List Cl) (i j : Nat), i < l.length → j < 8 → (cCells l)[i * 8 + j]? = (l.getD i Cl.zero).arr[j]?
  | [], i, j, h, _ => by simp at h
  | c :: r, 0, j, _, hj => by
    simp only [cCells, List.flatMap_cons, List.getD_cons_zero, Nat.zero_mul, Nat.zero_add]
    rw [List.getElem?_append_left (by simp [Cl.arr]; omega)]
    simp
  | c :: r, i + 1, j, h, hj => by
    have := cCells_get r i j (by simpa using h) hj
    simp only [List.getD_cons_succ]
    rw [← this]
    simp only [cCells, List.flatMap_cons]
    rw [List.getElem?_append_right (by simp [Cl.arr]; omega)]
    congr 1
    simp [Cl.arr]
    omega
/-- A slice of the call's own that reads as the cells l. -/
def OwnC (w : World) (B : Nat) (v : Value) (l : List Cl) : Prop := w.ownsRow B 60 8 v l.length (cCells l)
theorem OwnC.nil (w : World) (B : Nat) : OwnC w B (.slice none 0 0) [] := World.ownsRow_nil _ _ _ _
theorem OwnC.cls {w : World} {B : Nat} {v : Value} {l : List Cl} (h : OwnC w B v l) : ∃ a cap, v = .slice a l.length cap ∧ Cls w a l.length cap l := by
  obtain ⟨h1, h2⟩ := h
  rcases h2 with ⟨rfl, hn⟩ | ⟨g, cap, cur, rfl, hb, hg, hnc, hcm, hcs, htake⟩
  · exact ⟨none, 0, by rw [hn], rfl, by omega, by omega, .inl rfl⟩
  · refine ⟨_, cap, rfl, rfl, hnc, by unfold maxLen at hcm; omega, .inr ⟨g, 0, rfl, fun i hi => ?_⟩⟩
    have key : ∀ j, j < 8 → w.cell? ⟨g, 0 + i * 8 + j, none⟩ = (l.getD i Cl.zero).arr[j]? := by
      intro j hj
      have c1 := cCells_get l i j hi hj
      rw [← htake, List.getElem?_take, if_pos (by omega)] at c1
      rw [Nat.zero_add, cell_of_row w g _ cur _ (0, 0) hg, ← c1]
      simp
    have key0 := key 0 (by omega)
    rw [Nat.add_zero] at key0
    exact ⟨key0, key 1 (by omega), key 2 (by omega), key 3 (by omega), key 4 (by omega), key 5 (by omega), key 6 (by omega), key 7 (by omega)⟩
theorem OwnC.kept {w w' : World} {B : Nat} {v : Value} {l : List Cl} (h : OwnC w B v l) (hb : Below w.heap.size w w') : OwnC w' B v l := own_kept h hb
theorem OwnC.mono {w : World} {B B' : Nat} {v : Value} {l : List Cl} (h : OwnC w B v l) (hB : B' ≤ B) : OwnC w B' v l := own_mono h hB
theorem OwnC.lt {w : World} {B : Nat} {v : Value} {l : List Cl} (h : OwnC w B v l) : ∀ k, v.ownBlock = some k → B ≤ k ∧ k < w.heap.size := World.ownsRow.lt h
end Go.Proofs.Ytdjhiaogpgaboaa
end

section
namespace Go.Proofs.Ytdjhiaogpgaboaa
open Go.RowKit Go Go.Sort
set_option linter.unusedVariables false
set_option maxRecDepth 20000

/-- Whether the cell of a group may be. -/
def cgAt (gs : List Grp) (cs : List Cl) (i : Nat) : Bool := (cs.getD i Cl.zero).good (gs.getD i ([], 0)).2
end Go.Proofs.Ytdjhiaogpgaboaa
end

section
namespace Go.Proofs.Ytdjhiaogpgaboaa
open Go.RowKit Go Go.Sort
set_option linter.unusedVariables false
set_option maxRecDepth 20000

attribute [local go_sem] Oper.semAt_some
/-- What an iterator turns is no block of another type. -/
theorem turn_keep {B k : Nat} {T t : TypeId} {W W' : World} {row : Option Nat} {cs : Array Value} {fr : Nat × Nat} (hg : W.grownBy W' row)
    (hr : ∀ r, row = some r → B ≤ r ∧ ∃ o : Obj, W.heap[r]? = some o ∧ (o.isCells = false ∨ ∃ cs fr, o = .cells cs T fr)) (h : W.heap[k]? = some (.cells cs t fr)) (ht : t ≠ T) : W'.heap[k]? = some (.cells cs t fr) := by
  refine (hg.block k (Array.getElem?_eq_some_iff.1 h).1 (fun e => ?_)).trans h
  obtain ⟨_, o, ho, hc⟩ := hr k e.symm
  rw [h] at ho
  cases ho
  rcases hc with hc | ⟨cs', fr', hc⟩
  · cases hc
  · cases hc; exact ht rfl
theorem turn_row {B B0 s k : Nat} {e T : TypeId} {W W' : World} {row : Option Nat} {v : Value} {xs : List Value} (hg : W.grownBy W' row)
    (hr : ∀ r, row = some r → B ≤ r ∧ ∃ o : Obj, W.heap[r]? = some o ∧ (o.isCells = false ∨ ∃ cs fr, o = .cells cs T fr)) (h : W.ownsRow B0 e s v k xs) (ht : e ≠ T) : W'.ownsRow B0 e s v k xs := by
  refine ⟨h.1, ?_⟩
  rcases h.2 with hn | ⟨g, cap, cur, rfl, hB, hg', rest⟩
  · exact .inl hn
  · exact .inr ⟨g, cap, cur, rfl, hB, turn_keep hg hr hg' ht, rest⟩
theorem turn_below {B n₀ : Nat} {T : TypeId} {w W W' : World} {row : Option Nat} (hg : W.grownBy W' row)
    (hr : ∀ r, row = some r → B ≤ r ∧ ∃ o : Obj, W.heap[r]? = some o ∧ (o.isCells = false ∨ ∃ cs fr, o = .cells cs T fr)) (hB : n₀ ≤ B) (hn : n₀ ≤ W.heap.size) (h : Below n₀ w W) : Below n₀ w W' :=
  h.grown hg hn (fun k e => Nat.le_trans hB (hr k e).1)
/-- What a step leaves as it was that writes the boxes Bs and a row of T at or beyond base. -/
structure LeavesT (T : TypeId) (Bs : Nat → Prop) (base : Nat) (W W' : World) : Prop where
  size : W.heap.size ≤ W'.heap.size
  same : ∀ (j : Nat) (o : Obj), W.heap[j]? = some o → ¬ Bs j → (j < base ∨ ∀ cs fr, o ≠ .cells cs T fr) → W'.heap[j]? = some o
theorem LeavesT.trans {T : TypeId} {Bs : Nat → Prop} {base : Nat} {X Y Z : World} (h : LeavesT T Bs base X Y) (k : LeavesT T Bs base Y Z) : LeavesT T Bs base X Z :=
  ⟨Nat.le_trans h.size k.size, fun j o hj hb ho => k.same j o (h.same j o hj hb ho) hb ho⟩
theorem LeavesT.below {T : TypeId} {Bs : Nat → Prop} {base : Nat} {W W' : World} (h : Below W.heap.size W W') : LeavesT T Bs base W W' :=
  ⟨h.size, fun j o hj _ _ => (h.block j (Array.getElem?_eq_some_iff.1 hj).1).trans hj⟩
theorem LeavesT.setCell {T : TypeId} {Bs : Nat → Prop} {base : Nat} (W : World) {B : Nat} (hB : Bs B) (u : Value) : LeavesT T Bs base W (W.setCell ⟨B, 0, none⟩ u) :=
  ⟨(KeepsWalks.setCell W _ u).size, fun j o hj hb _ => (Below.heap_setCell W ⟨B, 0, none⟩ u j (fun e => by subst e; exact hb hB)).trans hj⟩
theorem LeavesT.alloc {T : TypeId} {Bs : Nat → Prop} {base : Nat} (W : World) (o : Obj) : LeavesT T Bs base W (W.alloc o) :=
  ⟨by simp, fun j o' hj _ _ => (Below.heap_alloc W o j (Array.getElem?_eq_some_iff.1 hj).1).trans hj⟩
theorem LeavesT.keeps {T : TypeId} {Bs : Nat → Prop} {base B : Nat} {W W' : World} (h : LeavesT T Bs base W W') (hb : ∀ j, Bs j → j < B) : KeepsFrom B W W' :=
  ⟨h.size, fun j o hB hj ho => h.same j o hj (fun hh => by have := hb j hh; omega) (.inr (fun cs fr e => by subst e; cases ho))⟩
/-- What a round keeps: what lay below, and the boxes named. -/
structure KP (n₀ : Nat) (Bs : Nat → Prop) (W W' : World) : Prop where
  below : Below n₀ W W'
  box : ∀ (k : Nat) (o : Obj), Bs k → W.heap[k]? = some o → W'.heap[k]? = some o
theorem KP.refl (n₀ : Nat) (Bs : Nat → Prop) (W : World) : KP n₀ Bs W W := ⟨Below.refl _ _, fun _ _ _ h => h⟩
theorem KP.trans {n₀ : Nat} {Bs : Nat → Prop} {A B C : World} (h : KP n₀ Bs A B) (k : KP n₀ Bs B C) : KP n₀ Bs A C := ⟨h.below.trans k.below, fun i o hi ho => k.box i o hi (h.box i o hi ho)⟩
end Go.Proofs.Ytdjhiaogpgaboaa
end

section
namespace Go.Proofs.Ytdjhiaogpgaboaa
open Go.RowKit Go Go.Sort
set_option linter.unusedVariables false
set_option maxRecDepth 20000

attribute [local go_sem] Oper.semAt_some
/-- Between two rounds; how a round may leave. -/
def GoodI (gs : List Grp) (cs : List Cl) (n₀ base : Nat) (w : World) (xs : List Nat) (W : World) : Prop :=
  Boxed W (n₀ + 1) 26 (.int .i64 0) ∧ (∀ j, j < xs.length → cgAt gs cs j = true) ∧ Below n₀ w W ∧ base ≤ W.heap.size
def GoodX (gs : List Grp) (cs : List Cl) (m n₀ base : Nat) (w : World) (c : Code) (xs : List Nat) (W : World) : Prop :=
  c = .ret ∧ Boxed W (n₀ + 1) 26 (.int .i64 80) ∧ (∃ j, j < m ∧ cgAt gs cs j = false) ∧ Below n₀ w W ∧ base ≤ W.heap.size
theorem GoodI.own {gs : List Grp} {cs : List Cl} {n₀ base B : Nat} {w : World} (h1 : n₀ ≤ B) (h2 : n₀ ≤ base) : OwnT B 62 (GoodI gs cs n₀ base w) := by
  rintro xs X Y row ⟨hb, hx, hw, hs⟩ hg hr
  exact ⟨turn_keep hg hr hb (by decide), hx, turn_below hg hr h1 (Nat.le_trans h2 hs) hw, Nat.le_trans hs hg.size⟩
theorem GoodX.own {gs : List Grp} {cs : List Cl} {m n₀ base B : Nat} {w : World} (c : Code) (h1 : n₀ ≤ B) (h2 : n₀ ≤ base) : OwnFrom B (GoodX gs cs m n₀ base w c) := by
  have : OwnT B 62 (GoodX gs cs m n₀ base w c) := by
    rintro xs X Y row ⟨hc, hb, hx, hw, hs⟩ hg hr
    exact ⟨hc, turn_keep hg hr hb (by decide), hx, turn_below hg hr h1 (Nat.le_trans h2 hs) hw, Nat.le_trans hs hg.size⟩
  exact this.from
/-- A round's own place: at a block's head. -/
def placeA (gs : List Grp) (cs : List Cl) (k : Nat) : Array Value := #[.int .i64 (k : Int), .int .i64 (gs.getD k ([], 0)).2, .int .i64 (cs.getD k Cl.zero).n, .int .i64 (cs.getD k Cl.zero).s, .int .i64 (cs.getD k Cl.zero).a, .int .i64 (cs.getD k Cl.zero).b, .bool (cs.getD k Cl.zero).g, .string (text (cs.getD k Cl.zero).t), .int .i64 (cs.getD k Cl.zero).d, .int .i64 (cs.getD k Cl.zero).e]
def PlaceA (gs : List Grp) (cs : List Cl) (tm : Nat → Nat → Array Value) (k : Nat) (a' : Act) (W : World) : Prop := ∃ q, W.heap[q]? = some (.cells (placeA gs cs k) 111 (0, 0)) ∧ a' = { tmps := tm q k, defers := [] }
theorem PlaceA.own {gs : List Grp} {cs : List Cl} {tm : Nat → Nat → Array Value} {B : Nat} (k : Nat) (a' : Act) : OwnFrom B (fun (_ : Unit) W => PlaceA gs cs tm k a' W) := by
  rintro s X Y row ⟨q, h1, h2⟩ hg hr
  refine ⟨q, (hg.block q (Array.getElem?_eq_some_iff.1 h1).1 (fun e => ?_)).trans h1, h2⟩
  obtain ⟨_, o, ho, hc⟩ := hr q e.symm
  rw [h1] at ho; cases ho; cases hc

end Go.Proofs.Ytdjhiaogpgaboaa
end

section
namespace Go.Proofs.Ytdjhiaogpgaboaa
open Go.RowKit Go Go.Sort
set_option linter.unusedVariables false
set_option maxRecDepth 20000

abbrev Fld := Int × List UInt8
/-- What is to be seen of a group. -/
def seenAt (gs : List Grp) (cs : List Cl) (i : Nat) : List UInt8 × Bool := cseenS (gs.getD i ([], 0)).2 (cs.getD i Cl.zero).n (cs.getD i Cl.zero).s (cs.getD i Cl.zero).a (cs.getD i Cl.zero).b (cs.getD i Cl.zero).g (cs.getD i Cl.zero).t (cs.getD i Cl.zero).d (cs.getD i Cl.zero).e
def fieldsN (gs : List Grp) (cs : List Cl) : Nat → List Fld
  | 0 => []
  | k + 1 => if (seenAt gs cs k).2 = true then fieldsN gs cs k ++ [((k : Int), (seenAt gs cs k).1)] else fieldsN gs cs k
def fCells (l : List Fld) : List Value := l.flatMap (fun g => [.int .i64 g.1, .string (text g.2)])
/-- A list of fields that lies in memory. -/
structure Flds (w : World) (a : Option Addr) (n cap : Nat) (l : List Fld) : Prop where
  len : l.length = n
  le : n ≤ cap
  max : cap ≤ 9223372036854775807
  adr : cap = 0 ∨ ∃ b off, a = some ⟨b, off, none⟩ ∧ ∀ i, i < n → w.cell? ⟨b, off + i * 2, none⟩ = some (.int .i64 (l.getD i (0, [])).1) ∧ w.cell? ⟨b, off + i * 2 + 1, none⟩ = some (.string (text (l.getD i (0, [])).2))
theorem Flds.below {w w' : World} {a : Option Addr} {n cap : Nat} {l : List Fld} (h : Flds w a n cap l) (hb : Below w.heap.size w w') : Flds w' a n cap l := by
  refine ⟨h.len, h.le, h.max, ?_⟩
  rcases h.adr with h4 | ⟨b, off, rfl, hc⟩
  · exact .inl h4
  · refine .inr ⟨b, off, rfl, fun i hi => ?_⟩
    obtain ⟨h1, h2⟩ := hc i hi
    exact ⟨by rw [hb.cell (World.block_lt_of_cell? w _ h1)]; exact h1, by rw [hb.cell (World.block_lt_of_cell? w _ h2)]; exact h2⟩
theorem Flds.at {w : World} {a : Option Addr} {n cap : Nat} {l : List Fld} (h : Flds w a n cap l) {k : Nat} (hk : k < n) :
    ∃ b off, a = some ⟨b, off, none⟩ ∧ ∀ W, Below w.heap.size w W → W.cell? ⟨b, off + k * 2, none⟩ = some (.int .i64 (l.getD k (0, [])).1) ∧ W.cell? ⟨b, off + k * 2 + 1, none⟩ = some (.string (text (l.getD k (0, [])).2)) := by
  have := h.le
  rcases h.adr with h4 | ⟨b, off, rfl, hc⟩
  · omega
  · exact ⟨b, off, rfl, fun W hb => ⟨by rw [hb.cell (World.block_lt_of_cell? w _ (hc k hk).1)]; exact (hc k hk).1, by rw [hb.cell (World.block_lt_of_cell? w _ (hc k hk).2)]; exact (hc k hk).2⟩⟩
/-- A slice of the call's own that reads as the fields l. -/
def OwnF (w : World) (B : Nat) (v : Value) (l : List Fld) : Prop := w.ownsRow B 113 2 v l.length (fCells l)
theorem OwnF.nil (w : World) (B : Nat) : OwnF w B (.slice none 0 0) [] := World.ownsRow_nil _ _ _ _
theorem OwnF.kept {w w' : World} {B : Nat} {v : Value} {l : List Fld} (h : OwnF w B v l) (hb : Below w.heap.size w w') : OwnF w' B v l := own_kept h hb
theorem OwnF.mono {w : World} {B B' : Nat} {v : Value} {l : List Fld} (h : OwnF w B v l) (hB : B' ≤ B) : OwnF w B' v l := own_mono h hB
end Go.Proofs.Ytdjhiaogpgaboaa
end

section
namespace Go.Proofs.Ytdjhiaogpgaboaa
open Go.RowKit Go Go.Sort
set_option linter.unusedVariables false
set_option maxRecDepth 20000

attribute [local go_sem] Oper.semAt_some
/-- Between two rounds. -/
def ViewI (gs : List Grp) (cs : List Cl) (ro : Obj) (n₀ B G0 base : Nat) (w : World) (xs : List Nat) (W : World) : Prop :=
  ∃ vb, Boxed W G0 65 vb ∧ W.ownsRow base 113 2 vb (fieldsN gs cs xs.length).length (fCells (fieldsN gs cs xs.length)) ∧ W.heap[B]? = some ro ∧ W.heap[B + 1]? = some (.cells #[.string ⟨#[]⟩, .slice none 0 0] 67 (0, 0)) ∧ Below n₀ w W ∧ base ≤ W.heap.size
theorem ViewI.own {gs : List Grp} {cs : List Cl} {rc : Array Value} {n₀ B G0 base B9 : Nat} {w : World} (h1 : n₀ ≤ B9) (h2 : n₀ ≤ base) : OwnT B9 62 (ViewI gs cs (.cells rc 50 (0, 0)) n₀ B G0 base w) := by
  rintro xs X Y row ⟨vb, hb, ho, hr1, hv, hw, hs⟩ hg hr
  exact ⟨vb, turn_keep hg hr hb (by decide), turn_row hg hr ho (by decide), turn_keep hg hr hr1 (by decide), turn_keep hg hr hv (by decide), turn_below hg hr h1 (Nat.le_trans h2 hs) hw, Nat.le_trans hs hg.size⟩

end Go.Proofs.Ytdjhiaogpgaboaa
end

section
namespace Go.Proofs.Ytdjhiaogpgaboaa
open Go.RowKit Go Go.Sort
set_option linter.unusedVariables false
set_option maxRecDepth 20000

/-- A row with cells of the call's own, and a number. -/
def RowPost (r : List UInt8 × List Cl × Int) (w : World) (e : Ending) (w' : World) : Prop :=
  ∃ v, e = .returned (.tuple #[.agg #[.string (text r.1), v], .int .i64 r.2.2]) ∧ OwnC w' w.heap.size v r.2.1 ∧ Below w.heap.size w w'
end Go.Proofs.Ytdjhiaogpgaboaa
end

section
namespace Go.Proofs.Ytdjhiaogpgaboaa
open Go.RowKit Go Go.Sort
set_option linter.unusedVariables false
set_option maxRecDepth 20000

def schO : Obj := .cells #[.string ⟨#[97]⟩, .int .i64 1, .string ⟨#[98]⟩, .int .i64 2] 62 (0, 0)
/-- The schema in memory. -/
def SchV (v : Value) (W : World) : Prop := ∃ q, v = .slice (some ⟨q, 0, none⟩) 2 2 ∧ W.heap[q]? = some schO
theorem SchV.kept {v : Value} {X Y : World} (h : SchV v X) (hb : Below X.heap.size X Y) : SchV v Y := by
  obtain ⟨q, h1, h2⟩ := h
  exact ⟨q, h1, (hb.block _ (Array.getElem?_eq_some_iff.1 h2).1).trans h2⟩
end Go.Proofs.Ytdjhiaogpgaboaa
end

section
namespace Go.Proofs.Ytdjhiaogpgaboaa
open Go.RowKit Go Go.Sort
set_option linter.unusedVariables false
set_option maxRecDepth 20000

/-- Rows in memory, one behind the other. -/
def RowsAt (W : World) (q : Nat) (rows : List (List UInt8 × List Cl)) : Prop :=
  ∀ i, i < rows.length → ∃ a m c, W.cell? ⟨q, i * 2, none⟩ = some (.string (text (rows.getD i ([], [])).1)) ∧ W.cell? ⟨q, i * 2 + 1, none⟩ = some (.slice a m c) ∧ Cls W a m c (rows.getD i ([], [])).2
theorem RowsAt.below {W W' : World} {q : Nat} {rows : List (List UInt8 × List Cl)} (h : RowsAt W q rows) (hb : Below W.heap.size W W') : RowsAt W' q rows := by
  intro i hi
  obtain ⟨a, m, c, h1, h2, h3⟩ := h i hi
  exact ⟨a, m, c, by rw [hb.cell (World.block_lt_of_cell? W _ h1)]; exact h1, by rw [hb.cell (World.block_lt_of_cell? W _ h2)]; exact h2, h3.below hb⟩
end Go.Proofs.Ytdjhiaogpgaboaa
end

section
namespace Go.Proofs.Ytdjhiaogpgaboaa
open Go.RowKit Go Go.Sort
set_option linter.unusedVariables false
set_option maxRecDepth 20000

theorem heap_below {W W' : World} {q : Nat} {o : Obj} (h : W.heap[q]? = some o) (hb : Below W.heap.size W W') : W'.heap[q]? = some o := (hb.block _ (Array.getElem?_eq_some_iff.1 h).1).trans h
/-- New and View, as a law's walk wants them. -/
theorem RowPost.cells {r : List UInt8 × List Cl × Int} {w : World} {e : Ending} {w' : World} (h : RowPost r w e w') : ∃ a c, e = .returned (.tuple #[.agg #[.string (text r.1), .slice a r.2.1.length c], .int .i64 r.2.2]) ∧ Cls w' a r.2.1.length c r.2.1 ∧ Below w.heap.size w w' := by
  obtain ⟨v, rfl, ho, hb⟩ := h
  obtain ⟨a, c, rfl, hc⟩ := ho.cls
  exact ⟨a, c, rfl, hc, hb⟩
end Go.Proofs.Ytdjhiaogpgaboaa
end

section
namespace Go.Proofs.Ytdjhiaogpgaboaa
open Go.RowKit Go Go.Sort
set_option linter.unusedVariables false
set_option maxRecDepth 20000

set_option maxHeartbeats 800000 in
theorem iscount_c (n : Int) (w : World) : Calls Try.prog 33 #[.int .i64 n] w (fun e w' => e = .returned (.bool (seqS n)) ∧ w' = w) := by
  by_cases h1 : 0 ≤ n
  · by_cases h2 : n ≤ 1099511627776
    · have HV := Lib.hid (show seqS n = true by simp [seqS, h1, h2])
      go_enter Try.func33, Try.ntmps33
      go_wp2
      go_ret
      exact ⟨by rw [HV.out]; rfl, rfl⟩
    · have HV := Lib.hid (show seqS n = false by simp [seqS]; omega)
      go_enter Try.func33, Try.ntmps33
      go_wp2
      go_ret
      exact ⟨by rw [HV.out]; rfl, rfl⟩
  · have HV := Lib.hid (show seqS n = false by simp [seqS]; omega)
    go_enter Try.func33, Try.ntmps33
    go_wp2
    go_ret
    exact ⟨by rw [HV.out]; rfl, rfl⟩
set_option maxHeartbeats 800000 in
theorem fgood1_c (n : Int) (w : World) : Calls Try.prog 38 #[.int .i64 n] w (fun e w' => e = .returned (.bool (!seqS n)) ∧ w' = w) := by
  have HC := Lib.hid (iscount_c n)
  cases hv : seqS n <;> rw [hv] at HC <;> clear hv
  all_goals
    go_enter Try.func38, Try.ntmps38
    go_wp2_with (go_at_call 33; (with_reducible refine (HC.out _).mono ?_); rintro e w1 ⟨rfl, rfl⟩)
    go_ret
    exact ⟨rfl, rfl⟩
/-- Numbers in a block. -/
def NumAt (W : World) (b m : Nat) (l : List Int) : Prop := ∀ k, k < m → W.cell? ⟨b, k, none⟩ = some (.int .i64 (l.getD k 0))
def seqN (l : List Int) : Nat → Bool
  | 0 => true
  | k + 1 => seqN l k && seqS (l.getD k 0)
theorem seqN_no {l : List Int} {k : Nat} (h : seqN l k = false) : ∀ {m}, k ≤ m → seqN l m = false
  | 0, hm => by
    obtain rfl : k = 0 := by omega
    exact h
  | m + 1, hm => by
    by_cases e : k = m + 1
    · subst e; exact h
    · show (seqN l m && _) = false
      rw [seqN_no h (m := m) (by omega), Bool.false_and]
set_option maxHeartbeats 3200000 in
theorem fidx_c {w : World} {b m cap : Nat} {l : List Int} (hl : NumAt w b m l) (hmc : m ≤ cap) (hm : m ≤ 1000) :
    Calls Try.prog 59 #[.slice (some ⟨b, 0, none⟩) m cap, .func (.func 38) #[] #[]] w (fun e w' => ∃ r : Int, e = .returned (.int .i64 r) ∧ decide (r ≥ 0) = !seqN l m ∧ w' = w) := by
  have HL := Lib.hid hl
  have HH := Lib.hid fgood1_c
  clear hl
  go_enter Try.func59, Try.ntmps59
  go_upto_region 2 with (fail)
  go_loopw [8] (fun i wr => ∃ k : Nat, k ≤ m ∧ i = .int .i64 (k : Int) ∧ seqN l k = true ∧ wr = w) (fun i _ => m - (intOf i).toNat)
  case atStart => exact ⟨0, by omega, rfl, rfl, rfl⟩
  case round =>
    obtain ⟨k, hk, rfl, hn, rfl⟩ := hrel
    have HN := Lib.hid hn
    clear hn
    by_cases hlt : k < m
    · have hki : (k : Int) < (m : Int) := by omega
      have hkc : (k : Int) < (cap : Int) := by omega
      have hat := HL.out k hlt
      obtain ⟨x, hx⟩ : ∃ x, l.getD k 0 = x := ⟨_, rfl⟩
      rw [hx] at hat
      have hst : seqN l (k + 1) = seqS x := by show (seqN l k && seqS (l.getD k 0)) = _; rw [HN.out, hx, Bool.true_and]
      have HST := Lib.hid hst
      have HC := Lib.hid (HH.out x)
      clear hst hx
      cases hv : seqS x with
      | false =>
        rw [hv] at HC HST
        have HV := Lib.hid hv
        clear hv
        go_wp2_with (go_at_call 38; (with_reducible refine (HC.out _).mono ?_); rintro e9 w9 ⟨rfl, rfl⟩)
        go_ret
        exact ⟨(k : Int), rfl, by rw [seqN_no HST.out (m := m) (by omega)]; simp, rfl⟩
      | true =>
        rw [hv] at HC HST
        clear hv
        go_wp2_with (go_at_call 38; (with_reducible refine (HC.out _).mono ?_); rintro e9 w9 ⟨rfl, rfl⟩)
        go_roundw
        case rel => exact ⟨k + 1, by omega, by go_num, HST.out, by trivial⟩
        case measure => simp [intOf]; omega
    · obtain rfl : k = m := by omega
      go_wp2
      go_ret
      exact ⟨-1, rfl, by rw [HN.out]; rfl, rfl⟩
set_option maxHeartbeats 1600000 in
theorem fcont_c {w : World} {b m cap : Nat} {l : List Int} (hl : NumAt w b m l) (hmc : m ≤ cap) (hm : m ≤ 1000) :
    Calls Try.prog 37 #[.slice (some ⟨b, 0, none⟩) m cap, .func (.func 38) #[] #[]] w (fun e w' => e = .returned (.bool (!seqN l m)) ∧ w' = w) := by
  have HI := Lib.hid (fidx_c hl hmc hm)
  clear hl
  go_enter Try.func37, Try.ntmps37
  go_wp2_with (go_at_call 59; (with_reducible refine HI.out.mono ?_); rintro e9 w9 ⟨r, rfl, hr, rfl⟩; have HR := Lib.hid hr; clear hr)
  go_ret
  exact ⟨by rw [← HR.out]; rfl, rfl⟩
def Fb (W : World) (g : Nat) (ty : TypeId) (s k b t u : Int) : Prop := W.heap[g]? = some (.cells #[.int .i64 s, .int .i64 k, .int .i64 b, .int .i64 t, .int .i64 u] ty (0, 0))
section
variable {W W' : World} {g : Nat} {ty : TypeId} {s k b t u : Int}
theorem Fb.cs (h : Fb W g ty s k b t u) : W.cell? ⟨g, 0, none⟩ = some (.int .i64 s) ∧ W.cell? ⟨g, 1, none⟩ = some (.int .i64 k) ∧ W.cell? ⟨g, 2, none⟩ = some (.int .i64 b) ∧ W.cell? ⟨g, 3, none⟩ = some (.int .i64 t) ∧ W.cell? ⟨g, 4, none⟩ = some (.int .i64 u) := by
  unfold Fb at h
  refine ⟨?_, ?_, ?_, ?_, ?_⟩ <;> (unfold World.cell?; simp only [h]; rfl)
theorem Fb.fz (h : Fb W g ty s k b t u) (i : Nat) : W.frozen? ⟨g, i, none⟩ = false := frozen_of_row W g i _ ty h
theorem Fb.kept (h : Fb W g ty s k b t u) (hb : Below W.heap.size W W') : Fb W' g ty s k b t u := (hb.block g (Array.getElem?_eq_some_iff.1 h).1).trans h
theorem Fb.set0 (h : Fb W g ty s k b t u) (x : Int) : Fb (W.setCell ⟨g, 0, none⟩ (.int .i64 x)) g ty x k b t u := (heap_setCell_same W g 0 _ _ (.int .i64 x) h).trans rfl
theorem Fb.set1 (h : Fb W g ty s k b t u) (x : Int) : Fb (W.setCell ⟨g, 1, none⟩ (.int .i64 x)) g ty s x b t u := (heap_setCell_same W g 1 _ _ (.int .i64 x) h).trans rfl
theorem Fb.set2 (h : Fb W g ty s k b t u) (x : Int) : Fb (W.setCell ⟨g, 2, none⟩ (.int .i64 x)) g ty s k x t u := (heap_setCell_same W g 2 _ _ (.int .i64 x) h).trans rfl
theorem Fb.set3 (h : Fb W g ty s k b t u) (x : Int) : Fb (W.setCell ⟨g, 3, none⟩ (.int .i64 x)) g ty s k b x u := (heap_setCell_same W g 3 _ _ (.int .i64 x) h).trans rfl
theorem Fb.set4 (h : Fb W g ty s k b t u) (x : Int) : Fb (W.setCell ⟨g, 4, none⟩ (.int .i64 x)) g ty s k b t x := (heap_setCell_same W g 4 _ _ (.int .i64 x) h).trans rfl
theorem Fb.other (h : Fb W g ty s k b t u) {p : Addr} (v : Value) (hp : p.block ≠ g) : Fb (W.setCell p v) g ty s k b t u := (Below.heap_setCell W p v g (fun e => hp e.symm)).trans h
theorem Fb.new (w : World) (ty : TypeId) (s k b t u : Int) : Fb (w.alloc (.cells #[.int .i64 s, .int .i64 k, .int .i64 b, .int .i64 t, .int .i64 u] ty)) w.heap.size ty s k b t u := heap_alloc_new w _
end
end Go.Proofs.Ytdjhiaogpgaboaa
end

section
namespace Go.Proofs.Ytdjhiaogpgaboaa
open Go.RowKit Go Go.Sort
set_option linter.unusedVariables false
set_option maxRecDepth 20000

theorem num4 (w : World) (k b t u : Int) : NumAt (w.alloc (.cells #[.int .i64 k, .int .i64 b, .int .i64 t, .int .i64 u] 84)) w.heap.size 4 [k, b, t, u] := by
  have h := heap_alloc_new w (.cells #[.int .i64 k, .int .i64 b, .int .i64 t, .int .i64 u] 84)
  intro j hj
  rcases (by omega : j = 0 ∨ j = 1 ∨ j = 2 ∨ j = 3) with rfl | rfl | rfl | rfl <;> (unfold World.cell?; simp only [h]; rfl)
def ftail (k b t u : Int) : Bool := decide (b ≤ k) && (decide (t ≤ k) && (decide (0 < u) || decide (t = 0)))
theorem good_no (s k b t u : Int) (h : ¬ (s = 1 ∨ s = 2)) : Ft.good ⟨s, k, b, t, u⟩ = false := by unfold Ft.good; simp only [decide_eq_false h, Bool.false_and]
theorem good_in (s k b t u : Int) (h : s = 1 ∨ s = 2) : Ft.good ⟨s, k, b, t, u⟩ = (seqN [k, b, t, u] 4 && ftail k b t u) := by
  unfold Ft.good ftail seqN
  simp only [decide_eq_true h, Bool.true_and, seqN, List.getD_cons_zero, List.getD_cons_succ]
  cases seqS k <;> cases seqS b <;> cases seqS t <;> cases seqS u <;> rfl
set_option maxHeartbeats 3200000 in
theorem fgood_c (s k b t u : Int) (w : World) : Calls Try.prog 17 #[.agg #[.int .i64 s, .int .i64 k, .int .i64 b, .int .i64 t, .int .i64 u]] w (Tells (.bool (Ft.good ⟨s, k, b, t, u⟩)) w) := by
  have hr := Fb.new w 23 s k b t u
  have hb := alloc_below w (.cells #[.int .i64 s, .int .i64 k, .int .i64 b, .int .i64 t, .int .i64 u] 23)
  have HR := Lib.hid hr
  have HB := Lib.hid hb
  obtain ⟨c0, c1, c2, c3, c4⟩ := hr.cs
  clear hr hb
  by_cases hs : s = 1 ∨ s = 2
  · have HV := Lib.hid (good_in s k b t u hs)
    obtain ⟨R, hR⟩ : ∃ z, Ft.good ⟨s, k, b, t, u⟩ = z := ⟨_, rfl⟩
    rw [hR] at HV ⊢
    clear hR
    have hN := num4 (w.alloc (.cells #[.int .i64 s, .int .i64 k, .int .i64 b, .int .i64 t, .int .i64 u] 23)) k b t u
    rw [World.size_alloc] at hN
    have HN := Lib.hid hN
    clear hN
    rcases hs with rfl | rfl
    all_goals
      go_enter Try.func17, Try.ntmps17
      go_upto_region 4 with (fail)
      clear c0 c1 c2 c3 c4
      have hN := HN.out
      have hB2 := HB.out.alloc (HB.out.size) (.cells #[.int .i64 k, .int .i64 b, .int .i64 t, .int .i64 u] 84)
      have hR2 := (HR.out.kept (alloc_below _ (.cells #[.int .i64 k, .int .i64 b, .int .i64 t, .int .i64 u] 84)))
      obtain ⟨c0, c1, c2, c3, c4⟩ := hR2.cs
      have HC := Lib.hid (fcont_c hN (Nat.le_refl 4) (by omega))
      have HB2 := Lib.hid hB2
      clear hN hB2 hR2 HR HB HN
      cases hq : seqN [k, b, t, u] 4 with
      | false =>
        rw [hq] at HC HV
        clear hq
        go_wp2_with (go_at_call 37; (with_reducible refine HC.out.mono ?_); rintro e9 w9 ⟨rfl, rfl⟩)
        go_ret
        exact ⟨by rw [HV.out]; rfl, HB2.out⟩
      | true =>
        rw [hq, Bool.true_and] at HV
        rw [hq] at HC
        clear hq
        by_cases h1 : b ≤ k
        · by_cases h2 : t ≤ k
          · by_cases h3 : 0 < u
            · have HX := Lib.hid (show ftail k b t u = true by simp [ftail, h1, h2, h3])
              go_wp2_with (go_at_call 37; (with_reducible refine HC.out.mono ?_); rintro e9 w9 ⟨rfl, rfl⟩)
              go_ret
              exact ⟨by rw [HV.out, HX.out]; rfl, HB2.out⟩
            · by_cases h4 : t = 0
              · subst h4
                have HX := Lib.hid (show ftail k b 0 u = true by simp [ftail, h1, h2])
                go_wp2_with (go_at_call 37; (with_reducible refine HC.out.mono ?_); rintro e9 w9 ⟨rfl, rfl⟩)
                go_ret
                exact ⟨by rw [HV.out, HX.out]; rfl, HB2.out⟩
              · have HX := Lib.hid (show ftail k b t u = false by simp [ftail, h1, h2, h4]; omega)
                have h5 : (t == 0) = false := by simpa using h4
                have H3 := Lib.hid (decide_eq_false h3)
                go_wp2_with (go_at_call 37; (with_reducible refine HC.out.mono ?_); rintro e9 w9 ⟨rfl, rfl⟩)
                go_ret
                exact ⟨by rw [HV.out, HX.out, ← H3.out]; rfl, HB2.out⟩
          · have HX := Lib.hid (show ftail k b t u = false by simp [ftail]; omega)
            go_wp2_with (go_at_call 37; (with_reducible refine HC.out.mono ?_); rintro e9 w9 ⟨rfl, rfl⟩)
            go_ret
            exact ⟨by rw [HV.out, HX.out]; rfl, HB2.out⟩
        · have HX := Lib.hid (show ftail k b t u = false by simp [ftail]; omega)
          go_wp2_with (go_at_call 37; (with_reducible refine HC.out.mono ?_); rintro e9 w9 ⟨rfl, rfl⟩)
          go_ret
          exact ⟨by rw [HV.out, HX.out]; rfl, HB2.out⟩
  · have hv := good_no s k b t u hs
    have h1 : (s != 1) = true := by simp; omega
    have h2 : (s != 2) = true := by simp; omega
    rw [hv]
    clear hv hs
    go_enter Try.func17, Try.ntmps17
    go_wp2
    go_ret
    exact ⟨rfl, HB.out⟩
end Go.Proofs.Ytdjhiaogpgaboaa
end

section
namespace Go.Proofs.Ytdjhiaogpgaboaa
open Go.RowKit Go Go.Sort
set_option linter.unusedVariables false
set_option maxRecDepth 20000

theorem res_cell_tmp1 {P : Program} {fn : Func} {p : Tmp} {ty : TypeId} (h : fn.results = #[.cell p ty]) (tmps : Array Value) (w : World) (g : Nat) (t : TypeId) (cs : Array Value) (fr : Nat × Nat) (d : TypeDesc)
    (hp : tmps.getD p undef = .pointer (some ⟨g, 0, none⟩)) (hg : w.heap[g]? = some (.cells cs t fr))
    (hu : P.underlying ty = some d) (hd : (match d with | .struct _ | .array _ _ => true | _ => false) = true) (hi : (P.info? ty).map (·.size) = some cs.size) :
    (results fn tmps).run P w = .ok (.agg cs) w := by
  have hp' : tmps[p]?.getD undef = .pointer (some ⟨g, 0, none⟩) := by simpa using hp
  simp [results, h, hp', asAddr, run_loadVar_row w g t ty cs fr d hg hu hd hi]
/-- A front, counts, and a front that is told: three boxes. -/
structure Fw (w : World) (T : TypeId) (s k b t u x y : Int) (W : World) : Prop where
  f : Fb W w.heap.size T s k b t u
  v : Pair W (w.heap.size + 1) 25 x y
  z : Fb W (w.heap.size + 2) T 0 0 0 0 0
  b : Below w.heap.size w W
section
variable {w W W' : World} {T : TypeId} {s k b t u x y : Int}
theorem Fw.kept (h : Fw w T s k b t u x y W) (hb : Below W.heap.size W W') : Fw w T s k b t u x y W' := ⟨h.f.kept hb, h.v.kept hb, h.z.kept hb, h.b.trans (hb.mono h.b.size)⟩
theorem Fw.new (w : World) (T : TypeId) (s k b t u x y : Int) : Fw w T s k b t u x y (((w.alloc (.cells #[.int .i64 s, .int .i64 k, .int .i64 b, .int .i64 t, .int .i64 u] T)).alloc (.cells #[.int .i64 x, .int .i64 y] 25)).alloc (.cells #[.int .i64 0, .int .i64 0, .int .i64 0, .int .i64 0, .int .i64 0] T)) := by
  have h1 := Fb.new w T s k b t u
  have b1 := alloc_below w (.cells #[.int .i64 s, .int .i64 k, .int .i64 b, .int .i64 t, .int .i64 u] T)
  have s1 := World.size_alloc w (.cells #[.int .i64 s, .int .i64 k, .int .i64 b, .int .i64 t, .int .i64 u] T)
  generalize w.alloc (.cells #[.int .i64 s, .int .i64 k, .int .i64 b, .int .i64 t, .int .i64 u] T) = W1 at *
  have h2 := Pair.new W1 25 x y
  have b2 := alloc_below W1 (.cells #[.int .i64 x, .int .i64 y] 25)
  have s2 := World.size_alloc W1 (.cells #[.int .i64 x, .int .i64 y] 25)
  generalize W1.alloc (.cells #[.int .i64 x, .int .i64 y] 25) = W2 at *
  have h3 := Fb.new W2 T 0 0 0 0 0
  have b3 := alloc_below W2 (.cells #[.int .i64 0, .int .i64 0, .int .i64 0, .int .i64 0, .int .i64 0] T)
  rw [s2, s1] at h3
  rw [s1] at h2
  exact ⟨(h1.kept b2).kept b3, h2.kept b3, h3, (b1.trans (b2.mono b1.size)).trans (b3.mono (b1.trans (b2.mono b1.size)).size)⟩
theorem Fw.set1 (h : Fw w T s k b t u x y W) (n : Int) : Fw w T s n b t u x y (W.setCell ⟨w.heap.size, 1, none⟩ (.int .i64 n)) := ⟨h.f.set1 n, h.v.other _ _ (by simp), h.z.other _ (by simp), h.b.setCell (p := ⟨w.heap.size, 1, none⟩) (by simp) _⟩
theorem Fw.set2 (h : Fw w T s k b t u x y W) (n : Int) : Fw w T s k n t u x y (W.setCell ⟨w.heap.size, 2, none⟩ (.int .i64 n)) := ⟨h.f.set2 n, h.v.other _ _ (by simp), h.z.other _ (by simp), h.b.setCell (p := ⟨w.heap.size, 2, none⟩) (by simp) _⟩
theorem Fw.set3 (h : Fw w T s k b t u x y W) (n : Int) : Fw w T s k b n u x y (W.setCell ⟨w.heap.size, 3, none⟩ (.int .i64 n)) := ⟨h.f.set3 n, h.v.other _ _ (by simp), h.z.other _ (by simp), h.b.setCell (p := ⟨w.heap.size, 3, none⟩) (by simp) _⟩
theorem Fw.set4 (h : Fw w T s k b t u x y W) (n : Int) : Fw w T s k b t n x y (W.setCell ⟨w.heap.size, 4, none⟩ (.int .i64 n)) := ⟨h.f.set4 n, h.v.other _ _ (by simp), h.z.other _ (by simp), h.b.setCell (p := ⟨w.heap.size, 4, none⟩) (by simp) _⟩
theorem Fw.set0 (h : Fw w T s k b t u x y W) (n : Int) : Fw w T n k b t u x y (W.setCell ⟨w.heap.size, 0, none⟩ (.int .i64 n)) := ⟨h.f.set0 n, h.v.other _ _ (by simp), h.z.other _ (by simp), h.b.setCell (p := ⟨w.heap.size, 0, none⟩) (by simp) _⟩
theorem Fw.all (h : Fw w T s k b t u x y W) (n0 n1 n2 n3 n4 : Int) : Fw w T n0 n1 n2 n3 n4 x y (((((W.setCell ⟨w.heap.size, 0, none⟩ (.int .i64 n0)).setCell ⟨w.heap.size, 1, none⟩ (.int .i64 n1)).setCell ⟨w.heap.size, 2, none⟩ (.int .i64 n2)).setCell ⟨w.heap.size, 3, none⟩ (.int .i64 n3)).setCell ⟨w.heap.size, 4, none⟩ (.int .i64 n4)) := ((((h.set0 n0).set1 n1).set2 n2).set3 n3).set4 n4
theorem Fw.fillz (h : Fw w T s k b t u x y W) (n0 n1 n2 n3 n4 : Int) : Fb (((((W.setCell ⟨w.heap.size + 2, 0, none⟩ (.int .i64 n0)).setCell ⟨w.heap.size + 2, 1, none⟩ (.int .i64 n1)).setCell ⟨w.heap.size + 2, 2, none⟩ (.int .i64 n2)).setCell ⟨w.heap.size + 2, 3, none⟩ (.int .i64 n3)).setCell ⟨w.heap.size + 2, 4, none⟩ (.int .i64 n4)) (w.heap.size + 2) T n0 n1 n2 n3 n4 := ((((h.z.set0 n0).set1 n1).set2 n2).set3 n3).set4 n4
theorem Fw.belz (h : Fw w T s k b t u x y W) (n0 n1 n2 n3 n4 : Int) : Below w.heap.size w (((((W.setCell ⟨w.heap.size + 2, 0, none⟩ (.int .i64 n0)).setCell ⟨w.heap.size + 2, 1, none⟩ (.int .i64 n1)).setCell ⟨w.heap.size + 2, 2, none⟩ (.int .i64 n2)).setCell ⟨w.heap.size + 2, 3, none⟩ (.int .i64 n3)).setCell ⟨w.heap.size + 2, 4, none⟩ (.int .i64 n4)) := ((((h.b.setCell (p := ⟨w.heap.size + 2, 0, none⟩) (by simp) _).setCell (p := ⟨w.heap.size + 2, 1, none⟩) (by simp) _).setCell (p := ⟨w.heap.size + 2, 2, none⟩) (by simp) _).setCell (p := ⟨w.heap.size + 2, 3, none⟩) (by simp) _).setCell (p := ⟨w.heap.size + 2, 4, none⟩) (by simp) _
end
set_option maxHeartbeats 1600000 in
theorem fright_c (s k b t u x y : Int) (w : World) : Calls Try.prog 31 #[.agg #[.int .i64 s, .int .i64 k, .int .i64 b, .int .i64 t, .int .i64 u], .agg #[.int .i64 x, .int .i64 y]] w (Tells (.bool (Ft.good ⟨s, k, b, t, u⟩ && vgood x y)) w) := by
  have hr := Fb.new w 23 s k b t u
  have b1 := alloc_below w (.cells #[.int .i64 s, .int .i64 k, .int .i64 b, .int .i64 t, .int .i64 u] 23)
  have s1 := World.size_alloc w (.cells #[.int .i64 s, .int .i64 k, .int .i64 b, .int .i64 t, .int .i64 u] 23)
  have h2 := Pair.new (w.alloc (.cells #[.int .i64 s, .int .i64 k, .int .i64 b, .int .i64 t, .int .i64 u] 23)) 25 x y
  have b2 := alloc_below (w.alloc (.cells #[.int .i64 s, .int .i64 k, .int .i64 b, .int .i64 t, .int .i64 u] 23)) (.cells #[.int .i64 x, .int .i64 y] 25)
  rw [s1] at h2
  have hr2 := hr.kept b2
  have HB := Lib.hid (b1.trans (b2.mono b1.size))
  have HP := Lib.hid h2
  obtain ⟨c0, c1, c2, c3, c4⟩ := hr2.cs
  have HG := Lib.hid (fgood_c s k b t u)
  have HQ := Lib.hid (vgood_c x y)
  clear hr b1 s1 h2 b2 hr2
  obtain ⟨R, hR⟩ : ∃ z, Ft.good ⟨s, k, b, t, u⟩ = z := ⟨_, rfl⟩
  obtain ⟨R2, hR2⟩ : ∃ z, vgood x y = z := ⟨_, rfl⟩
  rw [hR] at HG ⊢
  rw [hR2] at HQ ⊢
  clear hR hR2
  cases R <;> cases R2
  all_goals
    go_enter Try.func31, Try.ntmps31
    go_wp2_with (first
      | (go_at_call 17; (with_reducible refine (HG.out _).mono ?_); rintro e9 w9 ⟨rfl, hb9⟩; have HB9 := Lib.hid (HB.out.trans (hb9.mono HB.out.size)); have o0 := (HP.out.kept hb9).c0; have o1 := (HP.out.kept hb9).c1; clear hb9)
      | (go_at_call 41; (with_reducible refine (HQ.out _).mono ?_); rintro e9 w10 ⟨rfl, hb9⟩; have HB10 := Lib.hid (HB9.out.trans (hb9.mono HB9.out.size)); clear hb9))
    go_ret
    exact ⟨rfl, by first | exact HB10.out | exact HB9.out⟩
set_option maxHeartbeats 1600000 in
theorem fcounts_c (s k b t u x y : Int) (hs : s = 1 ∨ s = 2) (w : World) : Calls Try.prog 32 #[.agg #[.int .i64 s, .int .i64 k, .int .i64 b, .int .i64 t, .int .i64 u], .agg #[.int .i64 x, .int .i64 y]] w (Tells (.tuple #[.int .i64 (Ft.mine ⟨s, k, b, t, u⟩ x y), .int .i64 (Ft.theirs ⟨s, k, b, t, u⟩ x y)]) w) := by
  have hr := Fb.new w 23 s k b t u
  have b1 := alloc_below w (.cells #[.int .i64 s, .int .i64 k, .int .i64 b, .int .i64 t, .int .i64 u] 23)
  have s1 := World.size_alloc w (.cells #[.int .i64 s, .int .i64 k, .int .i64 b, .int .i64 t, .int .i64 u] 23)
  have h2 := Pair.new (w.alloc (.cells #[.int .i64 s, .int .i64 k, .int .i64 b, .int .i64 t, .int .i64 u] 23)) 25 x y
  have b2 := alloc_below (w.alloc (.cells #[.int .i64 s, .int .i64 k, .int .i64 b, .int .i64 t, .int .i64 u] 23)) (.cells #[.int .i64 x, .int .i64 y] 25)
  rw [s1] at h2
  have hr2 := hr.kept b2
  have HB := Lib.hid (b1.trans (b2.mono b1.size))
  have v0 := h2.c0
  have v1 := h2.c1
  obtain ⟨c0, c1, c2, c3, c4⟩ := hr2.cs
  clear hr b1 s1 h2 b2 hr2
  rcases hs with rfl | rfl
  · rw [show Ft.mine ⟨1, k, b, t, u⟩ x y = x from rfl, show Ft.theirs ⟨1, k, b, t, u⟩ x y = y from rfl]
    go_enter Try.func32, Try.ntmps32
    go_wp2
    go_quiet (fail)
    go_wp2
    go_ret2
    exact ⟨rfl, drewN_below HB.out nq⟩
  · rw [show Ft.mine ⟨2, k, b, t, u⟩ x y = y from rfl, show Ft.theirs ⟨2, k, b, t, u⟩ x y = x from rfl]
    go_enter Try.func32, Try.ntmps32
    go_wp2
    go_quiet (fail)
    go_wp2
    go_ret2
    exact ⟨rfl, drewN_below HB.out nq⟩
set_option maxHeartbeats 1600000 in
theorem frest_c (s k b t u : Int) (w : World) : Calls Try.prog 34 #[.agg #[.int .i64 s, .int .i64 k, .int .i64 b, .int .i64 t, .int .i64 u]] w (Tells (.agg #[.int .i64 s, .int .i64 k, .int .i64 b, .int .i64 0, .int .i64 0]) w) := by
  have hr := Fb.new w 23 s k b t u
  have b1 := alloc_below w (.cells #[.int .i64 s, .int .i64 k, .int .i64 b, .int .i64 t, .int .i64 u] 23)
  have s1 := World.size_alloc w (.cells #[.int .i64 s, .int .i64 k, .int .i64 b, .int .i64 t, .int .i64 u] 23)
  have h2 := Fb.new (w.alloc (.cells #[.int .i64 s, .int .i64 k, .int .i64 b, .int .i64 t, .int .i64 u] 23)) 23 0 0 0 0 0
  have b2 := alloc_below (w.alloc (.cells #[.int .i64 s, .int .i64 k, .int .i64 b, .int .i64 t, .int .i64 u] 23)) (.cells #[.int .i64 0, .int .i64 0, .int .i64 0, .int .i64 0, .int .i64 0] 23)
  rw [s1] at h2
  have hr2 := hr.kept b2
  have HB := Lib.hid (b1.trans (b2.mono b1.size))
  have HR := Lib.hid hr2
  have HZ := Lib.hid h2
  clear hr b1 s1 h2 b2 hr2
  go_enter Try.func34, Try.ntmps34
  go_upto_region 1 with (fail)
  generalize (w.alloc (.cells #[.int .i64 s, .int .i64 k, .int .i64 b, .int .i64 t, .int .i64 u] 23)).alloc (.cells #[.int .i64 0, .int .i64 0, .int .i64 0, .int .i64 0, .int .i64 0] 23) = W2 at *
  have z3 := HR.out.fz 3
  have z4 := (HR.out.set3 0).fz 4
  obtain ⟨c0, c1, c2, c3, c4⟩ := HR.out.cs
  go_upto_region 2 with (fail)
  clear c0 c1 c2 c3 c4
  have HR3 := Lib.hid ((HR.out.set3 0).set4 0)
  have HZ3 := Lib.hid ((HZ.out.other (p := ⟨w.heap.size, 3, none⟩) (.int .i64 0) (by simp)).other (p := ⟨w.heap.size, 4, none⟩) (.int .i64 0) (by simp))
  have HB3 := Lib.hid ((HB.out.setCell (p := ⟨w.heap.size, 3, none⟩) (by simp) (.int .i64 0)).setCell (p := ⟨w.heap.size, 4, none⟩) (by simp) (.int .i64 0))
  clear z3 z4 HR HZ HB
  generalize (W2.setCell ⟨w.heap.size, 3, none⟩ (.int .i64 0)).setCell ⟨w.heap.size, 4, none⟩ (.int .i64 0) = W3 at *
  obtain ⟨c0, c1, c2, c3, c4⟩ := HR3.out.cs
  have z0 := HZ3.out.fz 0
  have z1 := HZ3.out.fz 1
  have z2 := HZ3.out.fz 2
  have z3 := HZ3.out.fz 3
  have z4 := HZ3.out.fz 4
  obtain ⟨d0, d1, d2, d3, d4⟩ := HZ3.out.cs
  go_wp2
  refine bodyPost_ret (res_cell_tmp1 rfl _ _ (w.heap.size + 1) 23 _ (0, 0) _ rfl (((((HZ3.out.set0 s).set1 k).set2 b).set3 0).set4 0) Try.underlying23 rfl (by kernel_rfl)) rfl ⟨rfl, ?_⟩
  exact ((((HB3.out.setCell (p := ⟨w.heap.size + 1, 0, none⟩) (by simp) _).setCell (p := ⟨w.heap.size + 1, 1, none⟩) (by simp) _).setCell (p := ⟨w.heap.size + 1, 2, none⟩) (by simp) _).setCell (p := ⟨w.heap.size + 1, 3, none⟩) (by simp) _).setCell (p := ⟨w.heap.size + 1, 4, none⟩) (by simp) _
end Go.Proofs.Ytdjhiaogpgaboaa
end

section
namespace Go.Proofs.Ytdjhiaogpgaboaa
open Go.RowKit Go Go.Sort
set_option linter.unusedVariables false
set_option maxRecDepth 20000

/-- What is told with a front. -/
def ftR (r : Ft × Int) : Value := .tuple #[.agg #[.int .i64 r.1.s, .int .i64 r.1.k, .int .i64 r.1.b, .int .i64 r.1.t, .int .i64 r.1.u], .int .i64 r.2]
theorem settle_no {f : Ft} {x y : Int} (h : (f.good && vgood x y) = false) : settleS f x y = (Ft.zero, 2) := by
  unfold settleS
  rw [if_neg]
  rintro ⟨h1, h2⟩
  rw [h1, h2] at h
  cases h
theorem settle_yes {f : Ft} {x y : Int} (h : (f.good && vgood x y) = true) : settleS f x y = (f.settled x y, 0) := by
  unfold settleS
  rw [Bool.and_eq_true] at h
  rw [if_pos h]
theorem good_site {s k b t u : Int} (h : Ft.good ⟨s, k, b, t, u⟩ = true) : s = 1 ∨ s = 2 := (Ft.good_iff.1 h).1
set_option maxHeartbeats 6400000 in
theorem fsettle_c (s k b t u x y : Int) (w : World) : Calls Try.prog 11 #[.agg #[.int .i64 s, .int .i64 k, .int .i64 b, .int .i64 t, .int .i64 u], .agg #[.int .i64 x, .int .i64 y]] w (Tells (ftR (settleS ⟨s, k, b, t, u⟩ x y)) w) := by
  have HF := Lib.hid (Fw.new w 23 s k b t u x y)
  have HIR := Lib.hid (fright_c s k b t u x y)
  have HNO := Lib.hid (@settle_no ⟨s, k, b, t, u⟩ x y)
  have HYES := Lib.hid (@settle_yes ⟨s, k, b, t, u⟩ x y)
  have HSI := Lib.hid (fun (h : (Ft.good ⟨s, k, b, t, u⟩ && vgood x y) = true) => good_site (Bool.and_eq_true _ _ ▸ h).1)
  obtain ⟨RV, hRV⟩ : ∃ z, settleS ⟨s, k, b, t, u⟩ x y = z := ⟨_, rfl⟩
  rw [hRV] at HNO HYES ⊢
  obtain ⟨R, hR⟩ : ∃ z, (Ft.good ⟨s, k, b, t, u⟩ && vgood x y) = z := ⟨_, rfl⟩
  rw [hR] at HNO HYES HSI
  simp only [hR] at HIR
  clear hRV hR
  go_enter Try.func11, Try.ntmps11
  go_upto_region 1 with (fail)
  generalize ((w.alloc (.cells #[.int .i64 s, .int .i64 k, .int .i64 b, .int .i64 t, .int .i64 u] 23)).alloc (.cells #[.int .i64 x, .int .i64 y] 25)).alloc (.cells #[.int .i64 0, .int .i64 0, .int .i64 0, .int .i64 0, .int .i64 0] 23) = W1 at *
  obtain ⟨c0, c1, c2, c3, c4⟩ := HF.out.f.cs
  have v0 := HF.out.v.c0
  have v1 := HF.out.v.c1
  cases R with
  | false =>
    have HV := Lib.hid (HNO.out rfl)
    clear HNO HYES HSI
    go_wp2_with (go_at_call 31; (with_reducible refine (HIR.out _).mono ?_); rintro e9 w9 ⟨rfl, hb9⟩; have HF9 := Lib.hid (HF.out.kept hb9); obtain ⟨d0, d1, d2, d3, d4⟩ := HF9.out.z.cs; have z0 := HF9.out.z.fz 0; have z1 := HF9.out.z.fz 1; have z2 := HF9.out.z.fz 2; have z3 := HF9.out.z.fz 3; have z4 := HF9.out.z.fz 4; clear hb9)
    refine bodyPost_ret (res_cell_tmp rfl _ _ (w.heap.size + 2) 23 _ (0, 0) _ _ rfl rfl (HF9.out.fillz 0 0 0 0 0) Try.underlying23 rfl (by kernel_rfl)) rfl ⟨?_, HF9.out.belz 0 0 0 0 0⟩
    rw [HV.out]; rfl
  | true =>
    have hs := HSI.out rfl
    have HV := Lib.hid (HYES.out rfl)
    clear HNO HYES HSI
    have HCT := Lib.hid (fcounts_c s k b t u x y hs)
    clear hs
    have HST := Lib.hid (show Ft.settled ⟨s, k, b, t, u⟩ x y = if u ≤ Ft.theirs ⟨s, k, b, t, u⟩ x y then ⟨s, k, Max.max b t, 0, 0⟩ else ⟨s, k, b, t, u⟩ from rfl)
    obtain ⟨ST, hST⟩ : ∃ z, Ft.settled ⟨s, k, b, t, u⟩ x y = z := ⟨_, rfl⟩
    rw [hST] at HST HV
    clear hST
    obtain ⟨th, hth⟩ : ∃ z, Ft.theirs ⟨s, k, b, t, u⟩ x y = z := ⟨_, rfl⟩
    obtain ⟨mi, hmi⟩ : ∃ z, Ft.mine ⟨s, k, b, t, u⟩ x y = z := ⟨_, rfl⟩
    rw [hth] at HST
    simp only [hth, hmi] at HCT
    clear hth hmi
    go_upto_region 3 with (go_at_call 31; (with_reducible refine (HIR.out _).mono ?_); rintro e9 w9 ⟨rfl, hb9⟩; have HF9 := Lib.hid (HF.out.kept hb9); clear hb9)
    clear c0 c1 c2 c3 c4 v0 v1 HF
    obtain ⟨c0, c1, c2, c3, c4⟩ := HF9.out.f.cs
    have v0 := HF9.out.v.c0
    have v1 := HF9.out.v.c1
    go_upto_region 4 with (go_at_call 32; (with_reducible refine (HCT.out _).mono ?_); rintro e10 w10 ⟨rfl, hb10⟩; have HF10 := Lib.hid (HF9.out.kept hb10); clear hb10)
    clear c0 c1 c2 c3 c4 v0 v1 HF9
    obtain ⟨c0, c1, c2, c3, c4⟩ := HF10.out.f.cs
    by_cases hu : u ≤ th
    · have HS2 := Lib.hid (show ST = ⟨s, k, Max.max b t, 0, 0⟩ by rw [HST.out, if_pos hu])
      obtain ⟨mx, hmx⟩ : ∃ z, Max.max b t = z := ⟨_, rfl⟩
      rw [hmx] at HS2
      go_upto_region 5 with (fail)
      have z2 := HF10.out.f.fz 2
      have HFR := Lib.hid (fun W => frest_c s k mx t u W)
      go_upto_region 6 with (fail)
      have HF11 := Lib.hid (HF10.out.set2 mx)
      clear c0 c1 c2 c3 c4 z2 HF10 hu hmx
      generalize w10.setCell ⟨w.heap.size, 2, none⟩ (.int .i64 mx) = W11 at *
      obtain ⟨c0, c1, c2, c3, c4⟩ := HF11.out.f.cs
      go_upto_region 7 with (go_at_call 34; (with_reducible refine (HFR.out _).mono ?_); rintro e12 w12 ⟨rfl, hb12⟩; have HF12 := Lib.hid (HF11.out.kept hb12); obtain ⟨d0, d1, d2, d3, d4⟩ := HF12.out.f.cs; have z0 := HF12.out.f.fz 0; have z1 := HF12.out.f.fz 1; have z2 := HF12.out.f.fz 2; have z3 := HF12.out.f.fz 3; have z4 := HF12.out.f.fz 4; clear hb12)
      have HF13 := Lib.hid (HF12.out.all s k mx 0 0)
      clear c0 c1 c2 c3 c4 d0 d1 d2 d3 d4 z0 z1 z2 z3 z4 HF12 HF11
      generalize ((((w12.setCell ⟨w.heap.size, 0, none⟩ (.int .i64 s)).setCell ⟨w.heap.size, 1, none⟩ (.int .i64 k)).setCell ⟨w.heap.size, 2, none⟩ (.int .i64 mx)).setCell ⟨w.heap.size, 3, none⟩ (.int .i64 0)).setCell ⟨w.heap.size, 4, none⟩ (.int .i64 0) = W13 at *
      obtain ⟨c0, c1, c2, c3, c4⟩ := HF13.out.f.cs
      obtain ⟨d0, d1, d2, d3, d4⟩ := HF13.out.z.cs
      have z0 := HF13.out.z.fz 0
      have z1 := HF13.out.z.fz 1
      have z2 := HF13.out.z.fz 2
      have z3 := HF13.out.z.fz 3
      have z4 := HF13.out.z.fz 4
      go_wp2
      refine bodyPost_ret (res_cell_tmp rfl _ _ (w.heap.size + 2) 23 _ (0, 0) _ _ rfl rfl (HF13.out.fillz s k mx 0 0) Try.underlying23 rfl (by kernel_rfl)) rfl ⟨?_, HF13.out.belz s k mx 0 0⟩
      rw [HV.out, HS2.out]; rfl
    · have HS2 := Lib.hid (show ST = ⟨s, k, b, t, u⟩ by rw [HST.out, if_neg hu])
      obtain ⟨d0, d1, d2, d3, d4⟩ := HF10.out.z.cs
      have z0 := HF10.out.z.fz 0
      have z1 := HF10.out.z.fz 1
      have z2 := HF10.out.z.fz 2
      have z3 := HF10.out.z.fz 3
      have z4 := HF10.out.z.fz 4
      go_wp2
      refine bodyPost_ret (res_cell_tmp rfl _ _ (w.heap.size + 2) 23 _ (0, 0) _ _ rfl rfl (HF10.out.fillz s k b t u) Try.underlying23 rfl (by kernel_rfl)) rfl ⟨?_, HF10.out.belz s k b t u⟩
      rw [HV.out, HS2.out]; rfl
end Go.Proofs.Ytdjhiaogpgaboaa
end

section
namespace Go.Proofs.Ytdjhiaogpgaboaa
open Go.RowKit Go Go.Sort
set_option linter.unusedVariables false
set_option maxRecDepth 20000

theorem feq_eqIn (s k b t u s' k' b' t' u' : Int) (W : World) : (Op.equalIn 10000 23 (.agg #[.int .i64 s, .int .i64 k, .int .i64 b, .int .i64 t, .int .i64 u]) (.agg #[.int .i64 s', .int .i64 k', .int .i64 b', .int .i64 t', .int .i64 u'])).run Try.prog W = .ok ((s == s') && ((k == k') && ((b == b') && ((t == t') && (u == u'))))) W := by
  rw [run_equalIn_struct W 9999 _ _ _ Try.underlying23 (by kernel_rfl)]
  obtain ⟨f0, f1, f2, f3, f4, hf, h0, h1, h2, h3, h4, t0, t1, t2, t3, t4, n0, n1, n2, n3, n4⟩ : ∃ f0 f1 f2 f3 f4, (Try.prog.fieldsOf 23).toList = [f0, f1, f2, f3, f4] ∧ f0.offset = 0 ∧ f1.offset = 1 ∧ f2.offset = 2 ∧ f3.offset = 3 ∧ f4.offset = 4 ∧ f0.type = 3 ∧ f1.type = 3 ∧ f2.type = 3 ∧ f3.type = 3 ∧ f4.type = 3 ∧ f0.name ≠ "_" ∧ f1.name ≠ "_" ∧ f2.name ≠ "_" ∧ f3.name ≠ "_" ∧ f4.name ≠ "_" := ⟨_, _, _, _, _, rfl, rfl, rfl, rfl, rfl, rfl, rfl, rfl, rfl, rfl, rfl, by decide, by decide, by decide, by decide, by decide⟩
  rw [hf]
  have p0 := srun_part_int (W := W) #[.int .i64 s, .int .i64 k, .int .i64 b, .int .i64 t, .int .i64 u] 0 rfl
  have p1 := srun_part_int (W := W) #[.int .i64 s, .int .i64 k, .int .i64 b, .int .i64 t, .int .i64 u] 1 rfl
  have p2 := srun_part_int (W := W) #[.int .i64 s, .int .i64 k, .int .i64 b, .int .i64 t, .int .i64 u] 2 rfl
  have p3 := srun_part_int (W := W) #[.int .i64 s, .int .i64 k, .int .i64 b, .int .i64 t, .int .i64 u] 3 rfl
  have p4 := srun_part_int (W := W) #[.int .i64 s, .int .i64 k, .int .i64 b, .int .i64 t, .int .i64 u] 4 rfl
  have q0 := srun_part_int (W := W) #[.int .i64 s', .int .i64 k', .int .i64 b', .int .i64 t', .int .i64 u'] 0 rfl
  have q1 := srun_part_int (W := W) #[.int .i64 s', .int .i64 k', .int .i64 b', .int .i64 t', .int .i64 u'] 1 rfl
  have q2 := srun_part_int (W := W) #[.int .i64 s', .int .i64 k', .int .i64 b', .int .i64 t', .int .i64 u'] 2 rfl
  have q3 := srun_part_int (W := W) #[.int .i64 s', .int .i64 k', .int .i64 b', .int .i64 t', .int .i64 u'] 3 rfl
  have q4 := srun_part_int (W := W) #[.int .i64 s', .int .i64 k', .int .i64 b', .int .i64 t', .int .i64 u'] 4 rfl
  cases e0 : (s == s') <;> cases e1 : (k == k') <;> cases e2 : (b == b') <;> cases e3 : (t == t') <;> cases e4 : (u == u') <;> simp [Op.eqFields, n0, n1, n2, n3, n4, h0, h1, h2, h3, h4, t0, t1, t2, t3, t4, p0, q0, p1, q1, p2, q2, p3, q3, p4, q4, e0, e1, e2, e3, e4, run_equalIn_int W 9998 3 .i64 .i64 _ _ Try.underlying3, Sem.run_bind, Result.andThen_ok]
theorem feq_eqg (op : BinOp) (x y : Operand) (xs ys : Array Value) (W : World) : (eqGuard op 23 x y (.agg xs) (.agg ys)).run Try.prog W = .ok () W := run_eqGuard_agg W op _ x y xs ys (by kernel_rfl)
theorem feq_eqb (s k b t u s' k' b' t' u' : Int) (R : Bool) (h : ((s == s') && ((k == k') && ((b == b') && ((t == t') && (u == u'))))) = R) (W : World) : (binOp .eql 23 (.agg #[.int .i64 s, .int .i64 k, .int .i64 b, .int .i64 t, .int .i64 u]) (.agg #[.int .i64 s', .int .i64 k', .int .i64 b', .int .i64 t', .int .i64 u'])).run Try.prog W = .ok (.bool R) W := by
  rw [run_eql_struct, feq_eqIn, h]; rfl

theorem learn_no {f : Ft} {x y ack own : Int} (h : (f.good && vgood x y) = false ∨ ack < 0 ∨ f.mine x y < ack ∨ seqS own = false) : learnS f x y ack own = (Ft.zero, 2) := by
  unfold learnS
  rw [if_neg]
  rintro ⟨h1, h2, h3, h4, h5⟩
  rcases h with h | h | h | h
  · rw [h1, h2] at h; cases h
  · omega
  · omega
  · rw [h5] at h; cases h
theorem learn_yes {f : Ft} {x y ack own : Int} (h : (f.good && vgood x y) = true) (h1 : 0 ≤ ack) (h2 : ack ≤ f.mine x y) (h3 : seqS own = true) : learnS f x y ack own = settleS (f.learned x y ack own) x y := by
  rw [Bool.and_eq_true] at h
  unfold learnS settleS
  rw [if_pos ⟨h.1, h.2, h1, h2, h3⟩, if_pos ⟨Ft.learned_good h.1 h.2 h1 h2 h3, h.2⟩]
set_option maxHeartbeats 12800000 in
theorem flearn_c (s k b t u x y ack own : Int) (w : World) : Calls Try.prog 8 #[.agg #[.int .i64 s, .int .i64 k, .int .i64 b, .int .i64 t, .int .i64 u], .agg #[.int .i64 x, .int .i64 y], .int .i64 ack, .int .i64 own] w (Tells (ftR (learnS ⟨s, k, b, t, u⟩ x y ack own)) w) := by
  have HF := Lib.hid (Fw.new w 23 s k b t u x y)
  have HIR := Lib.hid (fright_c s k b t u x y)
  have HNO := Lib.hid (@learn_no ⟨s, k, b, t, u⟩ x y ack own)
  have HYES := Lib.hid (@learn_yes ⟨s, k, b, t, u⟩ x y ack own)
  have HSI := Lib.hid (fun (h : (Ft.good ⟨s, k, b, t, u⟩ && vgood x y) = true) => good_site (Bool.and_eq_true _ _ ▸ h).1)
  have HRI := Lib.hid (fun (h : (Ft.good ⟨s, k, b, t, u⟩ && vgood x y) = true) => Ft.rest_iff (Bool.and_eq_true _ _ ▸ h).1)
  obtain ⟨RV, hRV⟩ : ∃ z, learnS ⟨s, k, b, t, u⟩ x y ack own = z := ⟨_, rfl⟩
  rw [hRV] at HNO HYES ⊢
  obtain ⟨R, hR⟩ : ∃ z, (Ft.good ⟨s, k, b, t, u⟩ && vgood x y) = z := ⟨_, rfl⟩
  rw [hR] at HNO HYES HSI HRI
  simp only [hR] at HIR
  clear hRV hR
  go_enter Try.func8, Try.ntmps8
  go_upto_region 1 with (fail)
  generalize ((w.alloc (.cells #[.int .i64 s, .int .i64 k, .int .i64 b, .int .i64 t, .int .i64 u] 23)).alloc (.cells #[.int .i64 x, .int .i64 y] 25)).alloc (.cells #[.int .i64 0, .int .i64 0, .int .i64 0, .int .i64 0, .int .i64 0] 23) = W1 at *
  obtain ⟨c0, c1, c2, c3, c4⟩ := HF.out.f.cs
  have v0 := HF.out.v.c0
  have v1 := HF.out.v.c1
  cases R with
  | false =>
    have HV := Lib.hid (HNO.out (.inl rfl))
    clear HNO HYES HSI HRI
    go_wp2_with (go_at_call 31; (with_reducible refine (HIR.out _).mono ?_); rintro e9 w9 ⟨rfl, hb9⟩; have HF9 := Lib.hid (HF.out.kept hb9); obtain ⟨d0, d1, d2, d3, d4⟩ := HF9.out.z.cs; have z0 := HF9.out.z.fz 0; have z1 := HF9.out.z.fz 1; have z2 := HF9.out.z.fz 2; have z3 := HF9.out.z.fz 3; have z4 := HF9.out.z.fz 4; clear hb9)
    refine bodyPost_ret (res_cell_tmp rfl _ _ (w.heap.size + 2) 23 _ (0, 0) _ _ rfl rfl (HF9.out.fillz 0 0 0 0 0) Try.underlying23 rfl (by kernel_rfl)) rfl ⟨?_, HF9.out.belz 0 0 0 0 0⟩
    rw [HV.out]; rfl
  | true =>
    have hs := HSI.out rfl
    have hri := HRI.out rfl
    simp only at hri
    have HRI2 := Lib.hid hri
    have HCT := Lib.hid (fcounts_c s k b t u x y hs)
    clear hs hri HSI HRI
    have HL := Lib.hid (show Ft.learned ⟨s, k, b, t, u⟩ x y ack own = if own ≤ Ft.theirs ⟨s, k, b, t, u⟩ x y then ⟨s, Max.max k ack, Max.max b ack, t, u⟩ else if u = 0 ∧ b < ack then ⟨s, Max.max k ack, b, ack, own⟩ else ⟨s, Max.max k ack, b, t, u⟩ from rfl)
    obtain ⟨LE, hLE⟩ : ∃ z, Ft.learned ⟨s, k, b, t, u⟩ x y ack own = z := ⟨_, rfl⟩
    rw [hLE] at HL HYES
    clear hLE
    obtain ⟨th, hth⟩ : ∃ z, Ft.theirs ⟨s, k, b, t, u⟩ x y = z := ⟨_, rfl⟩
    obtain ⟨mi, hmi⟩ : ∃ z, Ft.mine ⟨s, k, b, t, u⟩ x y = z := ⟨_, rfl⟩
    rw [hth] at HL
    rw [hmi] at HYES HNO
    simp only [hth, hmi] at HCT
    clear hth hmi
    go_upto_region 3 with (go_at_call 31; (with_reducible refine (HIR.out _).mono ?_); rintro e9 w9 ⟨rfl, hb9⟩; have HF9 := Lib.hid (HF.out.kept hb9); clear hb9)
    clear c0 c1 c2 c3 c4 v0 v1 HF
    obtain ⟨c0, c1, c2, c3, c4⟩ := HF9.out.f.cs
    have v0 := HF9.out.v.c0
    have v1 := HF9.out.v.c1
    go_upto_region 4 with (go_at_call 32; (with_reducible refine (HCT.out _).mono ?_); rintro e10 w10 ⟨rfl, hb10⟩; have HF10 := Lib.hid (HF9.out.kept hb10); clear hb10)
    clear c0 c1 c2 c3 c4 v0 v1 HF9 HIR HCT
    have HIC := Lib.hid (iscount_c own)
    by_cases hok : 0 ≤ ack ∧ ack ≤ mi ∧ seqS own = true
    · obtain ⟨ha0, ha1, ha2⟩ := hok
      have HV := Lib.hid (HYES.out (by first | rfl | trivial) ha0 ha1 ha2)
      rw [ha2] at HIC
      clear HNO HYES ha2
      go_upto_region 6 with (go_at_call 33; (with_reducible refine (HIC.out _).mono ?_); rintro e11 w11 ⟨rfl, rfl⟩)
      clear ha0 ha1 HIC
      have z1 := HF10.out.f.fz 1
      obtain ⟨c0, c1, c2, c3, c4⟩ := HF10.out.f.cs
      obtain ⟨mk, hmk⟩ : ∃ z, Max.max k ack = z := ⟨_, rfl⟩
      rw [hmk] at HL
      go_upto_region 7 with (fail)
      have HF11 := Lib.hid (HF10.out.set1 mk)
      clear c0 c1 c2 c3 c4 z1 HF10 hmk
      generalize w11.setCell ⟨w.heap.size, 1, none⟩ (.int .i64 mk) = W11 at *
      obtain ⟨c0, c1, c2, c3, c4⟩ := HF11.out.f.cs
      have v0 := HF11.out.v.c0
      have v1 := HF11.out.v.c1
      by_cases how : own ≤ th
      · have HL2 := Lib.hid (show LE = ⟨s, mk, Max.max b ack, t, u⟩ by rw [HL.out, if_pos how])
        obtain ⟨mb, hmb⟩ : ∃ z, Max.max b ack = z := ⟨_, rfl⟩
        rw [hmb] at HL2
        have HSET := Lib.hid (fsettle_c s mk mb t u x y)
        rw [HL2.out] at HV
        have z2 := HF11.out.f.fz 2
        go_upto_region 8 with (fail)
        clear how
        go_upto_region 11 with (fail)
        have HF12 := Lib.hid (HF11.out.set2 mb)
        clear c0 c1 c2 c3 c4 v0 v1 z2 HF11 hmb
        generalize W11.setCell ⟨w.heap.size, 2, none⟩ (.int .i64 mb) = W12 at *
        obtain ⟨c0, c1, c2, c3, c4⟩ := HF12.out.f.cs
        have v0 := HF12.out.v.c0
        have v1 := HF12.out.v.c1
        obtain ⟨⟨r0, r1, r2, r3, r4⟩, r5⟩ := RV
        have hR0 := HV.out.symm
        simp only [hR0, ftR] at HSET
        have HSETR := HSET
        clear hR0
        go_wp2_with (go_at_call 11; (with_reducible refine (HSETR.out _).mono ?_); rintro e20 w20 ⟨rfl, hb20⟩; have HF20 := Lib.hid (HF12.out.kept hb20); obtain ⟨d0, d1, d2, d3, d4⟩ := HF20.out.z.cs; have z0 := HF20.out.z.fz 0; have z1 := HF20.out.z.fz 1; have z2 := HF20.out.z.fz 2; have z3 := HF20.out.z.fz 3; have z4 := HF20.out.z.fz 4; clear hb20)
        refine bodyPost_ret (res_cell_tmp rfl _ _ (w.heap.size + 2) 23 _ (0, 0) _ _ rfl rfl (HF20.out.fillz r0 r1 r2 r3 r4) Try.underlying23 rfl (by kernel_rfl)) rfl ⟨?_, HF20.out.belz r0 r1 r2 r3 r4⟩
        rfl
      · have hno : ¬ own ≤ th := how
        rw [if_neg hno] at HL
        have hE := fun W => feq_eqb s mk b t u s mk b 0 0 _ rfl W
        have hEG := feq_eqg
        have hq : ((s == s) && ((mk == mk) && ((b == b) && ((t == 0) && (u == 0))))) = ((t == 0) && (u == 0)) := by simp
        simp only [hq] at hE
        clear hq
        by_cases hu0 : u = 0
        · have ht0 := (HRI2.out.2 hu0).1
          subst hu0 ht0
          simp only [beq_self_eq_true, Bool.and_self] at hE
          by_cases hba : b < ack
          · have HL2 := Lib.hid (show LE = ⟨s, mk, b, ack, own⟩ by rw [HL.out, if_pos ⟨rfl, hba⟩])
            have HSET := Lib.hid (fsettle_c s mk b ack own x y)
            rw [HL2.out] at HV
            have hgd : decide (b < ack) = true := decide_eq_true hba
            go_upto_region 9 with (fail)
            have k0 := cell_regrown c0
            have k1 := cell_regrown c1
            have k2 := cell_regrown c2
            have k3 := cell_regrown c3
            have k4 := cell_regrown c4
            have HFR := Lib.hid (fun (d : Nat) (os : Array Obj) => (frest_c s mk b 0 0 (grow (redrawn W11 d) os)).regrown_of)
            clear c0 c1 c2 c3 c4 v0 v1 hno
            refine wp_region_quiet_below (by kernel_rfl) (by kernel_rfl) ?_
            repeat (go_big_quiet_step (first | with_reducible exact HFR.out _ _))
            refine wpQuiet_nil ?_
            intro _ hw'
            obtain ⟨⟨dq, osq⟩, hw''⟩ := hw'
            subst hw''
            clear k0 k1 k2 k3 k4
            clear hgd
            go_upto_region 10 with (fail)
            have HF12 := Lib.hid (HF11.out.kept (below_regrown W11 dq osq))
            clear hba HF11 hE hEG HFR
            generalize grow (redrawn W11 dq) osq = W12 at *
            obtain ⟨c0, c1, c2, c3, c4⟩ := HF12.out.f.cs
            have z3 := HF12.out.f.fz 3
            have z4 := (HF12.out.f.set3 ack).fz 4
            go_upto_region 11 with (fail)
            have HF13 := Lib.hid ((HF12.out.set3 ack).set4 own)
            clear c0 c1 c2 c3 c4 z3 z4 HF12
            generalize (W12.setCell ⟨w.heap.size, 3, none⟩ (.int .i64 ack)).setCell ⟨w.heap.size, 4, none⟩ (.int .i64 own) = W13 at *
            obtain ⟨c0, c1, c2, c3, c4⟩ := HF13.out.f.cs
            have v0 := HF13.out.v.c0
            have v1 := HF13.out.v.c1
            obtain ⟨⟨r0, r1, r2, r3, r4⟩, r5⟩ := RV
            have hR0 := HV.out.symm
            simp only [hR0, ftR] at HSET
            have HSETR := HSET
            clear hR0
            go_wp2_with (go_at_call 11; (with_reducible refine (HSETR.out _).mono ?_); rintro e20 w20 ⟨rfl, hb20⟩; have HF20 := Lib.hid (HF13.out.kept hb20); obtain ⟨d0, d1, d2, d3, d4⟩ := HF20.out.z.cs; have z0 := HF20.out.z.fz 0; have z1 := HF20.out.z.fz 1; have z2 := HF20.out.z.fz 2; have z3 := HF20.out.z.fz 3; have z4 := HF20.out.z.fz 4; clear hb20)
            refine bodyPost_ret (res_cell_tmp rfl _ _ (w.heap.size + 2) 23 _ (0, 0) _ _ rfl rfl (HF20.out.fillz r0 r1 r2 r3 r4) Try.underlying23 rfl (by kernel_rfl)) rfl ⟨?_, HF20.out.belz r0 r1 r2 r3 r4⟩
            rfl
          · have HL2 := Lib.hid (show LE = ⟨s, mk, b, 0, 0⟩ by rw [HL.out, if_neg (fun h => hba h.2)])
            have HSET := Lib.hid (fsettle_c s mk b 0 0 x y)
            rw [HL2.out] at HV
            have hgd : decide (b < ack) = false := decide_eq_false hba
            go_upto_region 9 with (fail)
            have k0 := cell_regrown c0
            have k1 := cell_regrown c1
            have k2 := cell_regrown c2
            have k3 := cell_regrown c3
            have k4 := cell_regrown c4
            have HFR := Lib.hid (fun (d : Nat) (os : Array Obj) => (frest_c s mk b 0 0 (grow (redrawn W11 d) os)).regrown_of)
            clear c0 c1 c2 c3 c4 v0 v1 hno
            refine wp_region_quiet_below (by kernel_rfl) (by kernel_rfl) ?_
            repeat (go_big_quiet_step (first | with_reducible exact HFR.out _ _))
            refine wpQuiet_nil ?_
            intro _ hw'
            obtain ⟨⟨dq, osq⟩, hw''⟩ := hw'
            subst hw''
            clear k0 k1 k2 k3 k4
            clear hgd
            have HF12 := Lib.hid (HF11.out.kept (below_regrown W11 dq osq))
            clear hba HF11 hE hEG HFR
            generalize grow (redrawn W11 dq) osq = W12 at *
            go_upto_region 11 with (fail)
            obtain ⟨c0, c1, c2, c3, c4⟩ := HF12.out.f.cs
            have v0 := HF12.out.v.c0
            have v1 := HF12.out.v.c1
            obtain ⟨⟨r0, r1, r2, r3, r4⟩, r5⟩ := RV
            have hR0 := HV.out.symm
            simp only [hR0, ftR] at HSET
            have HSETR := HSET
            clear hR0
            go_wp2_with (go_at_call 11; (with_reducible refine (HSETR.out _).mono ?_); rintro e20 w20 ⟨rfl, hb20⟩; have HF20 := Lib.hid (HF12.out.kept hb20); obtain ⟨d0, d1, d2, d3, d4⟩ := HF20.out.z.cs; have z0 := HF20.out.z.fz 0; have z1 := HF20.out.z.fz 1; have z2 := HF20.out.z.fz 2; have z3 := HF20.out.z.fz 3; have z4 := HF20.out.z.fz 4; clear hb20)
            refine bodyPost_ret (res_cell_tmp rfl _ _ (w.heap.size + 2) 23 _ (0, 0) _ _ rfl rfl (HF20.out.fillz r0 r1 r2 r3 r4) Try.underlying23 rfl (by kernel_rfl)) rfl ⟨?_, HF20.out.belz r0 r1 r2 r3 r4⟩
            rfl
        · have HL2 := Lib.hid (show LE = ⟨s, mk, b, t, u⟩ by rw [HL.out, if_neg (fun h => hu0 h.1)])
          have HSET := Lib.hid (fsettle_c s mk b t u x y)
          rw [HL2.out] at HV
          have hq2 : ((t == 0) && (u == 0)) = false := by simp [hu0]
          simp only [hq2] at hE
          clear hq2
          go_upto_region 9 with (fail)
          have k0 := cell_regrown c0
          have k1 := cell_regrown c1
          have k2 := cell_regrown c2
          have k3 := cell_regrown c3
          have k4 := cell_regrown c4
          have HFR := Lib.hid (fun (d : Nat) (os : Array Obj) => (frest_c s mk b t u (grow (redrawn W11 d) os)).regrown_of)
          clear c0 c1 c2 c3 c4 v0 v1 hno
          refine wp_region_quiet_below (by kernel_rfl) (by kernel_rfl) ?_
          repeat (go_big_quiet_step (first | with_reducible exact HFR.out _ _))
          refine wpQuiet_nil ?_
          intro _ hw'
          obtain ⟨⟨dq, osq⟩, hw''⟩ := hw'
          subst hw''
          clear k0 k1 k2 k3 k4
          have HF12 := Lib.hid (HF11.out.kept (below_regrown W11 dq osq))
          clear hu0 HF11 hE hEG HFR
          generalize grow (redrawn W11 dq) osq = W12 at *
          go_upto_region 11 with (fail)
          obtain ⟨c0, c1, c2, c3, c4⟩ := HF12.out.f.cs
          have v0 := HF12.out.v.c0
          have v1 := HF12.out.v.c1
          obtain ⟨⟨r0, r1, r2, r3, r4⟩, r5⟩ := RV
          have hR0 := HV.out.symm
          simp only [hR0, ftR] at HSET
          have HSETR := HSET
          clear hR0
          go_wp2_with (go_at_call 11; (with_reducible refine (HSETR.out _).mono ?_); rintro e20 w20 ⟨rfl, hb20⟩; have HF20 := Lib.hid (HF12.out.kept hb20); obtain ⟨d0, d1, d2, d3, d4⟩ := HF20.out.z.cs; have z0 := HF20.out.z.fz 0; have z1 := HF20.out.z.fz 1; have z2 := HF20.out.z.fz 2; have z3 := HF20.out.z.fz 3; have z4 := HF20.out.z.fz 4; clear hb20)
          refine bodyPost_ret (res_cell_tmp rfl _ _ (w.heap.size + 2) 23 _ (0, 0) _ _ rfl rfl (HF20.out.fillz r0 r1 r2 r3 r4) Try.underlying23 rfl (by kernel_rfl)) rfl ⟨?_, HF20.out.belz r0 r1 r2 r3 r4⟩
          rfl
    · have HV := Lib.hid (HNO.out (by
        by_cases h1 : ack < 0
        · exact .inr (.inl h1)
        · by_cases h2 : mi < ack
          · exact .inr (.inr (.inl h2))
          · refine .inr (.inr (.inr ?_))
            rw [Bool.eq_false_iff]
            exact fun h3 => hok ⟨by omega, by omega, h3⟩))
      obtain ⟨d0, d1, d2, d3, d4⟩ := HF10.out.z.cs
      have z0 := HF10.out.z.fz 0
      have z1 := HF10.out.z.fz 1
      have z2 := HF10.out.z.fz 2
      have z3 := HF10.out.z.fz 3
      have z4 := HF10.out.z.fz 4
      clear HYES HNO HL HRI2
      by_cases h1 : ack < 0
      · go_wp2
        refine bodyPost_ret (res_cell_tmp rfl _ _ (w.heap.size + 2) 23 _ (0, 0) _ _ rfl rfl (HF10.out.fillz 0 0 0 0 0) Try.underlying23 rfl (by kernel_rfl)) rfl ⟨?_, HF10.out.belz 0 0 0 0 0⟩
        rw [HV.out]; rfl
      · by_cases h2 : mi < ack
        · go_wp2
          refine bodyPost_ret (res_cell_tmp rfl _ _ (w.heap.size + 2) 23 _ (0, 0) _ _ rfl rfl (HF10.out.fillz 0 0 0 0 0) Try.underlying23 rfl (by kernel_rfl)) rfl ⟨?_, HF10.out.belz 0 0 0 0 0⟩
          rw [HV.out]; rfl
        · have h3 : seqS own = false := by
            rw [Bool.eq_false_iff]
            exact fun h3 => hok ⟨by omega, by omega, h3⟩
          rw [h3] at HIC
          have h4 : 0 ≤ ack := by omega
          have h5 : ack ≤ mi := by omega
          clear hok h3
          go_wp2_with (go_at_call 33; (with_reducible refine (HIC.out _).mono ?_); rintro e11 w11 ⟨rfl, rfl⟩)
          refine bodyPost_ret (res_cell_tmp rfl _ _ (w.heap.size + 2) 23 _ (0, 0) _ _ rfl rfl (HF10.out.fillz 0 0 0 0 0) Try.underlying23 rfl (by kernel_rfl)) rfl ⟨?_, HF10.out.belz 0 0 0 0 0⟩
          rw [HV.out]; rfl
end Go.Proofs.Ytdjhiaogpgaboaa
end

section
namespace Go.Proofs.Ytdjhiaogpgaboaa
open Go.RowKit Go Go.Sort
set_option linter.unusedVariables false
set_option maxRecDepth 20000

set_option maxHeartbeats 800000 in
theorem rseq_c (n : Int) (w : World) : Calls Try.prog 36 #[.int .i64 n] w (fun e w' => e = .returned (.bool (seqS n)) ∧ w' = w) := by
  by_cases h1 : 0 ≤ n
  · by_cases h2 : n ≤ 1099511627776
    · have HV := Lib.hid (show seqS n = true by simp [seqS, h1, h2])
      go_enter Try.func36, Try.ntmps36
      go_wp2
      go_ret
      exact ⟨by rw [HV.out]; rfl, rfl⟩
    · have HV := Lib.hid (show seqS n = false by simp [seqS]; omega)
      go_enter Try.func36, Try.ntmps36
      go_wp2
      go_ret
      exact ⟨by rw [HV.out]; rfl, rfl⟩
  · have HV := Lib.hid (show seqS n = false by simp [seqS]; omega)
    go_enter Try.func36, Try.ntmps36
    go_wp2
    go_ret
    exact ⟨by rw [HV.out]; rfl, rfl⟩
theorem good_tail {s k b t u : Int} (h : s = 1 ∨ s = 2) (hk : seqS k = true) (hb : seqS b = true) (ht : seqS t = true) (hu : seqS u = true) : Ft.good ⟨s, k, b, t, u⟩ = ftail k b t u := by
  unfold Ft.good ftail
  simp only [decide_eq_true h, hk, hb, ht, hu, Bool.true_and]
theorem good_seq {s k b t u : Int} (h : seqS k = false ∨ seqS b = false ∨ seqS t = false ∨ seqS u = false) : Ft.good ⟨s, k, b, t, u⟩ = false := by
  unfold Ft.good
  rcases h with h | h | h | h <;> simp [h]
set_option maxHeartbeats 6400000 in
theorem rfgood_c (s k b t u : Int) (w : World) : Calls Try.prog 18 #[.agg #[.int .i64 s, .int .i64 k, .int .i64 b, .int .i64 t, .int .i64 u]] w (Tells (.bool (Ft.good ⟨s, k, b, t, u⟩)) w) := by
  have hr := Fb.new w 29 s k b t u
  have hb := alloc_below w (.cells #[.int .i64 s, .int .i64 k, .int .i64 b, .int .i64 t, .int .i64 u] 29)
  have HB := Lib.hid hb
  obtain ⟨c0, c1, c2, c3, c4⟩ := hr.cs
  have HQ := Lib.hid rseq_c
  clear hr hb
  obtain ⟨R, hR⟩ : ∃ z, Ft.good ⟨s, k, b, t, u⟩ = z := ⟨_, rfl⟩
  have HR := Lib.hid hR
  rw [hR]
  clear hR
  by_cases hs : s = 1 ∨ s = 2
  · cases hk : seqS k with
    | false =>
      have HV := Lib.hid (show R = false by rw [← HR.out]; exact good_seq (.inl hk))
      rcases hs with rfl | rfl
      all_goals
        go_enter Try.func18, Try.ntmps18
        go_wp2_with (go_at_call 36; (with_reducible refine (HQ.out _ _).mono ?_); rintro e9 w9 ⟨rfl, rfl⟩)
        go_ret
        exact ⟨by rw [HV.out]; rfl, HB.out⟩
    | true =>
      cases hb : seqS b with
      | false =>
        have HV := Lib.hid (show R = false by rw [← HR.out]; exact good_seq (.inr (.inl hb)))
        rcases hs with rfl | rfl
        all_goals
          go_enter Try.func18, Try.ntmps18
          go_wp2_with (go_at_call 36; (with_reducible refine (HQ.out _ _).mono ?_); rintro e9 w9 ⟨rfl, rfl⟩)
          go_ret
          exact ⟨by rw [HV.out]; rfl, HB.out⟩
      | true =>
        cases ht : seqS t with
        | false =>
          have HV := Lib.hid (show R = false by rw [← HR.out]; exact good_seq (.inr (.inr (.inl ht))))
          rcases hs with rfl | rfl
          all_goals
            go_enter Try.func18, Try.ntmps18
            go_wp2_with (go_at_call 36; (with_reducible refine (HQ.out _ _).mono ?_); rintro e9 w9 ⟨rfl, rfl⟩)
            go_ret
            exact ⟨by rw [HV.out]; rfl, HB.out⟩
        | true =>
          cases hu : seqS u with
          | false =>
            have HV := Lib.hid (show R = false by rw [← HR.out]; exact good_seq (.inr (.inr (.inr (hu)))))
            rcases hs with rfl | rfl
            all_goals
              go_enter Try.func18, Try.ntmps18
              go_wp2_with (go_at_call 36; (with_reducible refine (HQ.out _ _).mono ?_); rintro e9 w9 ⟨rfl, rfl⟩)
              go_ret
              exact ⟨by rw [HV.out]; rfl, HB.out⟩
          | true =>
            have HG := Lib.hid (good_tail (u := u) hs hk hb ht hu)
            by_cases h1 : b ≤ k
            · by_cases h2 : t ≤ k
              · by_cases h3 : 0 < u
                · have HV0 := Lib.hid (show ftail k b t u = true by simp [ftail, h1, h2, h3])
                  have HV := Lib.hid (show R = true by rw [← HR.out]; rw [HG.out, HV0.out])
                  rcases hs with rfl | rfl
                  all_goals
                    go_enter Try.func18, Try.ntmps18
                    go_wp2_with (go_at_call 36; (with_reducible refine (HQ.out _ _).mono ?_); rintro e9 w9 ⟨rfl, rfl⟩)
                    go_ret
                    exact ⟨by rw [HV.out]; rfl, HB.out⟩
                · by_cases h4 : t = 0
                  · subst h4
                    have HV0 := Lib.hid (show ftail k b 0 u = true by simp [ftail, h1, h2])
                    have HV := Lib.hid (show R = true by rw [← HR.out]; rw [HG.out, HV0.out])
                    rcases hs with rfl | rfl
                    all_goals
                      go_enter Try.func18, Try.ntmps18
                      go_wp2_with (go_at_call 36; (with_reducible refine (HQ.out _ _).mono ?_); rintro e9 w9 ⟨rfl, rfl⟩)
                      go_ret
                      exact ⟨by rw [HV.out]; rfl, HB.out⟩
                  · have HV0 := Lib.hid (show ftail k b t u = false by simp [ftail, h1, h2, h4]; omega)
                    have h5 : (t == 0) = false := by simpa using h4
                    have H3 := Lib.hid (decide_eq_false h3)
                    have HV := Lib.hid (show R = false by rw [← HR.out]; rw [HG.out, HV0.out])
                    rcases hs with rfl | rfl
                    all_goals
                      go_enter Try.func18, Try.ntmps18
                      go_wp2_with (go_at_call 36; (with_reducible refine (HQ.out _ _).mono ?_); rintro e9 w9 ⟨rfl, rfl⟩)
                      go_ret
                      exact ⟨by rw [HV.out, ← H3.out]; rfl, HB.out⟩
              · have HV0 := Lib.hid (show ftail k b t u = false by simp [ftail]; omega)
                have HV := Lib.hid (show R = false by rw [← HR.out]; rw [HG.out, HV0.out])
                rcases hs with rfl | rfl
                all_goals
                  go_enter Try.func18, Try.ntmps18
                  go_wp2_with (go_at_call 36; (with_reducible refine (HQ.out _ _).mono ?_); rintro e9 w9 ⟨rfl, rfl⟩)
                  go_ret
                  exact ⟨by rw [HV.out]; rfl, HB.out⟩
            · have HV0 := Lib.hid (show ftail k b t u = false by simp [ftail]; omega)
              have HV := Lib.hid (show R = false by rw [← HR.out]; rw [HG.out, HV0.out])
              rcases hs with rfl | rfl
              all_goals
                go_enter Try.func18, Try.ntmps18
                go_wp2_with (go_at_call 36; (with_reducible refine (HQ.out _ _).mono ?_); rintro e9 w9 ⟨rfl, rfl⟩)
                go_ret
                exact ⟨by rw [HV.out]; rfl, HB.out⟩
  · have HV := Lib.hid (show R = false by rw [← HR.out]; exact good_no s k b t u hs)
    have h1 : (s != 1) = true := by simp; omega
    have h2 : (s != 2) = true := by simp; omega
    clear hs
    go_enter Try.func18, Try.ntmps18
    go_wp2
    go_ret
    exact ⟨by rw [HV.out]; rfl, HB.out⟩
set_option maxHeartbeats 6400000 in
theorem rfsettle_c (s k b t u x y : Int) (w : World) : Calls Try.prog 12 #[.agg #[.int .i64 s, .int .i64 k, .int .i64 b, .int .i64 t, .int .i64 u], .agg #[.int .i64 x, .int .i64 y]] w (Tells (ftR (settleS ⟨s, k, b, t, u⟩ x y)) w) := by
  have HF := Lib.hid (Fw.new w 29 s k b t u x y)
  have HNO := Lib.hid (@settle_no ⟨s, k, b, t, u⟩ x y)
  have HYES := Lib.hid (@settle_yes ⟨s, k, b, t, u⟩ x y)
  have HSR := Lib.hid (@Ft.settled_ref ⟨s, k, b, t, u⟩ x y)
  have HSI := Lib.hid (@good_site s k b t u)
  have HG := Lib.hid (rfgood_c s k b t u)
  have HQ := Lib.hid (rvgood_c x y)
  obtain ⟨RV, hRV⟩ : ∃ z, settleS ⟨s, k, b, t, u⟩ x y = z := ⟨_, rfl⟩
  rw [hRV] at HNO HYES ⊢
  obtain ⟨R, hR⟩ : ∃ z, Ft.good ⟨s, k, b, t, u⟩ = z := ⟨_, rfl⟩
  obtain ⟨R2, hR2⟩ : ∃ z, vgood x y = z := ⟨_, rfl⟩
  rw [hR, hR2] at HNO HYES HSR
  rw [hR] at HSI HG
  rw [hR2] at HQ
  clear hRV hR hR2
  go_enter Try.func12, Try.ntmps12
  go_upto_region 1 with (fail)
  generalize ((w.alloc (.cells #[.int .i64 s, .int .i64 k, .int .i64 b, .int .i64 t, .int .i64 u] 29)).alloc (.cells #[.int .i64 x, .int .i64 y] 25)).alloc (.cells #[.int .i64 0, .int .i64 0, .int .i64 0, .int .i64 0, .int .i64 0] 29) = W1 at *
  obtain ⟨c0, c1, c2, c3, c4⟩ := HF.out.f.cs
  have v0 := HF.out.v.c0
  have v1 := HF.out.v.c1
  cases R with
  | false =>
    have HV := Lib.hid (HNO.out (by first | rfl | trivial))
    go_wp2_with (go_at_call 18; (with_reducible refine (HG.out _).mono ?_); rintro e9 w9 ⟨rfl, hb9⟩; have HF9 := Lib.hid (HF.out.kept hb9); have o0 := HF9.out.v.c0; have o1 := HF9.out.v.c1; obtain ⟨d0, d1, d2, d3, d4⟩ := HF9.out.z.cs; have z0 := HF9.out.z.fz 0; have z1 := HF9.out.z.fz 1; have z2 := HF9.out.z.fz 2; have z3 := HF9.out.z.fz 3; have z4 := HF9.out.z.fz 4; clear hb9)
    refine bodyPost_ret (res_cell_tmp rfl _ _ (w.heap.size + 2) 29 _ (0, 0) _ _ rfl rfl (HF9.out.fillz 0 0 0 0 0) Try.underlying29 rfl (by kernel_rfl)) rfl ⟨?_, HF9.out.belz 0 0 0 0 0⟩
    rw [HV.out]; rfl
  | true =>
    cases R2 with
    | false =>
      have HV := Lib.hid (HNO.out (by first | rfl | trivial))
      go_wp2_with (first | (go_at_call 18; (with_reducible refine (HG.out _).mono ?_); rintro e9 w9 ⟨rfl, hb9⟩; have HF9 := Lib.hid (HF.out.kept hb9); have o0 := HF9.out.v.c0; have o1 := HF9.out.v.c1;  clear hb9) | (go_at_call 35; (with_reducible refine (HQ.out _).mono ?_); rintro e10 w10 ⟨rfl, hb10⟩; have HF10 := Lib.hid (HF9.out.kept hb10); obtain ⟨d0, d1, d2, d3, d4⟩ := HF10.out.z.cs; have z0 := HF10.out.z.fz 0; have z1 := HF10.out.z.fz 1; have z2 := HF10.out.z.fz 2; have z3 := HF10.out.z.fz 3; have z4 := HF10.out.z.fz 4; clear hb10))
      refine bodyPost_ret (res_cell_tmp rfl _ _ (w.heap.size + 2) 29 _ (0, 0) _ _ rfl rfl (HF10.out.fillz 0 0 0 0 0) Try.underlying29 rfl (by kernel_rfl)) rfl ⟨?_, HF10.out.belz 0 0 0 0 0⟩
      rw [HV.out]; rfl
    | true =>
      have hs := HSI.out (by first | rfl | trivial)
      have HV := Lib.hid (HYES.out (by first | rfl | trivial))
      have HST := Lib.hid (HSR.out (by first | rfl | trivial) (by first | rfl | trivial))
      obtain ⟨ST, hST⟩ : ∃ z, Ft.settled ⟨s, k, b, t, u⟩ x y = z := ⟨_, rfl⟩
      rw [hST] at HST HV
      clear hST HSI HNO HYES HSR
      go_upto_region 3 with (first | (go_at_call 18; (with_reducible refine (HG.out _).mono ?_); rintro e9 w9 ⟨rfl, hb9⟩; have HF9 := Lib.hid (HF.out.kept hb9); have o0 := HF9.out.v.c0; have o1 := HF9.out.v.c1;  clear hb9) | (go_at_call 35; (with_reducible refine (HQ.out _).mono ?_); rintro e10 w10 ⟨rfl, hb10⟩; have HF10 := Lib.hid (HF9.out.kept hb10);  clear hb10))
      clear c0 c1 c2 c3 c4 v0 v1 o0 o1 HF9 HF HG HQ
      obtain ⟨th, hth⟩ : ∃ z, Ft.theirs ⟨s, k, b, t, u⟩ x y = z := ⟨_, rfl⟩
      have hv : (s = 1 ∧ y = th) ∨ (s = 2 ∧ x = th) := by
        rcases hs with e | e
        · left; refine ⟨e, ?_⟩; rw [← hth]; unfold Ft.theirs; simp [e]
        · right; refine ⟨e, ?_⟩; rw [← hth]; unfold Ft.theirs; simp [e]
      rw [hth] at HST
      have HST := Lib.hid (show ST = if 0 < u ∧ u ≤ th then ⟨s, k, Max.max b t, 0, 0⟩ else ⟨s, k, b, t, u⟩ from HST.out)
      clear hth hs
      obtain ⟨c0, c1, c2, c3, c4⟩ := HF10.out.f.cs
      have v0 := HF10.out.v.c0
      have v1 := HF10.out.v.c1
      rcases hv with ⟨rfl, rfl⟩ | ⟨rfl, rfl⟩
      · by_cases hu0 : 0 < u
        · by_cases hu : u ≤ y
          · have HS2 := Lib.hid (show ST = ⟨1, k, Max.max b t, 0, 0⟩ by rw [HST.out, if_pos ⟨hu0, hu⟩])
            have hg1 : decide (0 < u) = true := decide_eq_true hu0
            have hg2 : decide (u ≤ y) = true := decide_eq_true hu
            go_quiet (fail)
            clear c0 c1 c2 c3 c4 v0 v1 hg1 hg2
            go_upto_region 4 with (fail)
            have HF11 := Lib.hid (HF10.out.kept (drewN_below (Below.refl _ w10) nq))
            clear HF10 hu0 hu
            generalize w10.drewN nq = W11 at *
            obtain ⟨c0, c1, c2, c3, c4⟩ := HF11.out.f.cs
            have z2 := HF11.out.f.fz 2
            obtain ⟨mx, hmx⟩ : ∃ z, Max.max b t = z := ⟨_, rfl⟩
            rw [hmx] at HS2
            go_upto_region 5 with (fail)
            have HF12 := Lib.hid (HF11.out.set2 mx)
            clear c0 c1 c2 c3 c4 z2 HF11 hmx
            generalize W11.setCell ⟨w.heap.size, 2, none⟩ (.int .i64 mx) = W12 at *
            obtain ⟨c0, c1, c2, c3, c4⟩ := HF12.out.f.cs
            have z3 := HF12.out.f.fz 3
            go_upto_region 6 with (fail)
            have HF13 := Lib.hid (HF12.out.set3 0)
            clear c0 c1 c2 c3 c4 z3 HF12
            generalize W12.setCell ⟨w.heap.size, 3, none⟩ (.int .i64 0) = W13 at *
            obtain ⟨c0, c1, c2, c3, c4⟩ := HF13.out.f.cs
            have z4 := HF13.out.f.fz 4
            go_upto_region 7 with (fail)
            have HF14 := Lib.hid (HF13.out.set4 0)
            clear c0 c1 c2 c3 c4 z4 HF13
            generalize W13.setCell ⟨w.heap.size, 4, none⟩ (.int .i64 0) = W14 at *
            obtain ⟨c0, c1, c2, c3, c4⟩ := HF14.out.f.cs
            obtain ⟨d0, d1, d2, d3, d4⟩ := HF14.out.z.cs
            have z0 := HF14.out.z.fz 0
            have z1 := HF14.out.z.fz 1
            have z2 := HF14.out.z.fz 2
            have z3 := HF14.out.z.fz 3
            have z4 := HF14.out.z.fz 4
            go_wp2
            refine bodyPost_ret (res_cell_tmp rfl _ _ (w.heap.size + 2) 29 _ (0, 0) _ _ rfl rfl (HF14.out.fillz 1 k mx 0 0) Try.underlying29 rfl (by kernel_rfl)) rfl ⟨?_, HF14.out.belz 1 k mx 0 0⟩
            rw [HV.out, HS2.out]; rfl
          · have HS2 := Lib.hid (show ST = ⟨1, k, b, t, u⟩ by rw [HST.out, if_neg (fun h => hu h.2)])
            have hg1 : decide (0 < u) = true := decide_eq_true hu0
            have hg2 : decide (u ≤ y) = false := decide_eq_false hu
            go_quiet (fail)
            clear c0 c1 c2 c3 c4 v0 v1
            have HF11 := Lib.hid (HF10.out.kept (drewN_below (Below.refl _ w10) nq))
            clear HF10
            generalize w10.drewN nq = W11 at *
            obtain ⟨c0, c1, c2, c3, c4⟩ := HF11.out.f.cs
            obtain ⟨d0, d1, d2, d3, d4⟩ := HF11.out.z.cs
            have z0 := HF11.out.z.fz 0
            have z1 := HF11.out.z.fz 1
            have z2 := HF11.out.z.fz 2
            have z3 := HF11.out.z.fz 3
            have z4 := HF11.out.z.fz 4
            go_wp2
            refine bodyPost_ret (res_cell_tmp rfl _ _ (w.heap.size + 2) 29 _ (0, 0) _ _ rfl rfl (HF11.out.fillz 1 k b t u) Try.underlying29 rfl (by kernel_rfl)) rfl ⟨?_, HF11.out.belz 1 k b t u⟩
            rw [HV.out, HS2.out]; rfl
        · have HS2 := Lib.hid (show ST = ⟨1, k, b, t, u⟩ by rw [HST.out, if_neg (fun h => hu0 h.1)])
          have hg1 : decide (0 < u) = false := decide_eq_false hu0
          go_quiet (fail)
          clear c0 c1 c2 c3 c4 v0 v1
          have HF11 := Lib.hid (HF10.out.kept (drewN_below (Below.refl _ w10) nq))
          clear HF10
          generalize w10.drewN nq = W11 at *
          obtain ⟨c0, c1, c2, c3, c4⟩ := HF11.out.f.cs
          obtain ⟨d0, d1, d2, d3, d4⟩ := HF11.out.z.cs
          have z0 := HF11.out.z.fz 0
          have z1 := HF11.out.z.fz 1
          have z2 := HF11.out.z.fz 2
          have z3 := HF11.out.z.fz 3
          have z4 := HF11.out.z.fz 4
          go_wp2
          refine bodyPost_ret (res_cell_tmp rfl _ _ (w.heap.size + 2) 29 _ (0, 0) _ _ rfl rfl (HF11.out.fillz 1 k b t u) Try.underlying29 rfl (by kernel_rfl)) rfl ⟨?_, HF11.out.belz 1 k b t u⟩
          rw [HV.out, HS2.out]; rfl
      · by_cases hu0 : 0 < u
        · by_cases hu : u ≤ x
          · have HS2 := Lib.hid (show ST = ⟨2, k, Max.max b t, 0, 0⟩ by rw [HST.out, if_pos ⟨hu0, hu⟩])
            have hg1 : decide (0 < u) = true := decide_eq_true hu0
            have hg2 : decide (u ≤ x) = true := decide_eq_true hu
            go_quiet (fail)
            clear c0 c1 c2 c3 c4 v0 v1 hg1 hg2
            go_upto_region 4 with (fail)
            have HF11 := Lib.hid (HF10.out.kept (drewN_below (Below.refl _ w10) nq))
            clear HF10 hu0 hu
            generalize w10.drewN nq = W11 at *
            obtain ⟨c0, c1, c2, c3, c4⟩ := HF11.out.f.cs
            have z2 := HF11.out.f.fz 2
            obtain ⟨mx, hmx⟩ : ∃ z, Max.max b t = z := ⟨_, rfl⟩
            rw [hmx] at HS2
            go_upto_region 5 with (fail)
            have HF12 := Lib.hid (HF11.out.set2 mx)
            clear c0 c1 c2 c3 c4 z2 HF11 hmx
            generalize W11.setCell ⟨w.heap.size, 2, none⟩ (.int .i64 mx) = W12 at *
            obtain ⟨c0, c1, c2, c3, c4⟩ := HF12.out.f.cs
            have z3 := HF12.out.f.fz 3
            go_upto_region 6 with (fail)
            have HF13 := Lib.hid (HF12.out.set3 0)
            clear c0 c1 c2 c3 c4 z3 HF12
            generalize W12.setCell ⟨w.heap.size, 3, none⟩ (.int .i64 0) = W13 at *
            obtain ⟨c0, c1, c2, c3, c4⟩ := HF13.out.f.cs
            have z4 := HF13.out.f.fz 4
            go_upto_region 7 with (fail)
            have HF14 := Lib.hid (HF13.out.set4 0)
            clear c0 c1 c2 c3 c4 z4 HF13
            generalize W13.setCell ⟨w.heap.size, 4, none⟩ (.int .i64 0) = W14 at *
            obtain ⟨c0, c1, c2, c3, c4⟩ := HF14.out.f.cs
            obtain ⟨d0, d1, d2, d3, d4⟩ := HF14.out.z.cs
            have z0 := HF14.out.z.fz 0
            have z1 := HF14.out.z.fz 1
            have z2 := HF14.out.z.fz 2
            have z3 := HF14.out.z.fz 3
            have z4 := HF14.out.z.fz 4
            go_wp2
            refine bodyPost_ret (res_cell_tmp rfl _ _ (w.heap.size + 2) 29 _ (0, 0) _ _ rfl rfl (HF14.out.fillz 2 k mx 0 0) Try.underlying29 rfl (by kernel_rfl)) rfl ⟨?_, HF14.out.belz 2 k mx 0 0⟩
            rw [HV.out, HS2.out]; rfl
          · have HS2 := Lib.hid (show ST = ⟨2, k, b, t, u⟩ by rw [HST.out, if_neg (fun h => hu h.2)])
            have hg1 : decide (0 < u) = true := decide_eq_true hu0
            have hg2 : decide (u ≤ x) = false := decide_eq_false hu
            go_quiet (fail)
            clear c0 c1 c2 c3 c4 v0 v1
            have HF11 := Lib.hid (HF10.out.kept (drewN_below (Below.refl _ w10) nq))
            clear HF10
            generalize w10.drewN nq = W11 at *
            obtain ⟨c0, c1, c2, c3, c4⟩ := HF11.out.f.cs
            obtain ⟨d0, d1, d2, d3, d4⟩ := HF11.out.z.cs
            have z0 := HF11.out.z.fz 0
            have z1 := HF11.out.z.fz 1
            have z2 := HF11.out.z.fz 2
            have z3 := HF11.out.z.fz 3
            have z4 := HF11.out.z.fz 4
            go_wp2
            refine bodyPost_ret (res_cell_tmp rfl _ _ (w.heap.size + 2) 29 _ (0, 0) _ _ rfl rfl (HF11.out.fillz 2 k b t u) Try.underlying29 rfl (by kernel_rfl)) rfl ⟨?_, HF11.out.belz 2 k b t u⟩
            rw [HV.out, HS2.out]; rfl
        · have HS2 := Lib.hid (show ST = ⟨2, k, b, t, u⟩ by rw [HST.out, if_neg (fun h => hu0 h.1)])
          have hg1 : decide (0 < u) = false := decide_eq_false hu0
          go_quiet (fail)
          clear c0 c1 c2 c3 c4 v0 v1
          have HF11 := Lib.hid (HF10.out.kept (drewN_below (Below.refl _ w10) nq))
          clear HF10
          generalize w10.drewN nq = W11 at *
          obtain ⟨c0, c1, c2, c3, c4⟩ := HF11.out.f.cs
          obtain ⟨d0, d1, d2, d3, d4⟩ := HF11.out.z.cs
          have z0 := HF11.out.z.fz 0
          have z1 := HF11.out.z.fz 1
          have z2 := HF11.out.z.fz 2
          have z3 := HF11.out.z.fz 3
          have z4 := HF11.out.z.fz 4
          go_wp2
          refine bodyPost_ret (res_cell_tmp rfl _ _ (w.heap.size + 2) 29 _ (0, 0) _ _ rfl rfl (HF11.out.fillz 2 k b t u) Try.underlying29 rfl (by kernel_rfl)) rfl ⟨?_, HF11.out.belz 2 k b t u⟩
          rw [HV.out, HS2.out]; rfl
set_option maxHeartbeats 12800000 in
theorem rflearn_c (s k b t u x y ack own : Int) (w : World) : Calls Try.prog 9 #[.agg #[.int .i64 s, .int .i64 k, .int .i64 b, .int .i64 t, .int .i64 u], .agg #[.int .i64 x, .int .i64 y], .int .i64 ack, .int .i64 own] w (Tells (ftR (learnS ⟨s, k, b, t, u⟩ x y ack own)) w) := by
  have HF := Lib.hid (Fw.new w 29 s k b t u x y)
  have HNO := Lib.hid (@learn_no ⟨s, k, b, t, u⟩ x y ack own)
  have HYES := Lib.hid (@learn_yes ⟨s, k, b, t, u⟩ x y ack own)
  have HSI := Lib.hid (@good_site s k b t u)
  have HG := Lib.hid (rfgood_c s k b t u)
  have HQ := Lib.hid (rvgood_c x y)
  obtain ⟨RV, hRV⟩ : ∃ z, learnS ⟨s, k, b, t, u⟩ x y ack own = z := ⟨_, rfl⟩
  rw [hRV] at HNO HYES ⊢
  obtain ⟨R, hR⟩ : ∃ z, Ft.good ⟨s, k, b, t, u⟩ = z := ⟨_, rfl⟩
  obtain ⟨R2, hR2⟩ : ∃ z, vgood x y = z := ⟨_, rfl⟩
  rw [hR, hR2] at HNO HYES
  rw [hR] at HSI HG
  rw [hR2] at HQ
  clear hRV hR hR2
  go_enter Try.func9, Try.ntmps9
  go_upto_region 1 with (fail)
  generalize ((w.alloc (.cells #[.int .i64 s, .int .i64 k, .int .i64 b, .int .i64 t, .int .i64 u] 29)).alloc (.cells #[.int .i64 x, .int .i64 y] 25)).alloc (.cells #[.int .i64 0, .int .i64 0, .int .i64 0, .int .i64 0, .int .i64 0] 29) = W1 at *
  obtain ⟨c0, c1, c2, c3, c4⟩ := HF.out.f.cs
  have v0 := HF.out.v.c0
  have v1 := HF.out.v.c1
  cases R with
  | false =>
    have HV := Lib.hid (HNO.out (.inl (by first | rfl | trivial)))
    go_wp2_with (go_at_call 18; (with_reducible refine (HG.out _).mono ?_); rintro e9 w9 ⟨rfl, hb9⟩; have HF9 := Lib.hid (HF.out.kept hb9); have o0 := HF9.out.v.c0; have o1 := HF9.out.v.c1; obtain ⟨d0, d1, d2, d3, d4⟩ := HF9.out.z.cs; have z0 := HF9.out.z.fz 0; have z1 := HF9.out.z.fz 1; have z2 := HF9.out.z.fz 2; have z3 := HF9.out.z.fz 3; have z4 := HF9.out.z.fz 4; clear hb9)
    refine bodyPost_ret (res_cell_tmp rfl _ _ (w.heap.size + 2) 29 _ (0, 0) _ _ rfl rfl (HF9.out.fillz 0 0 0 0 0) Try.underlying29 rfl (by kernel_rfl)) rfl ⟨?_, HF9.out.belz 0 0 0 0 0⟩
    rw [HV.out]; rfl
  | true =>
    cases R2 with
    | false =>
      have HV := Lib.hid (HNO.out (.inl (by first | rfl | trivial)))
      go_wp2_with (first | (go_at_call 18; (with_reducible refine (HG.out _).mono ?_); rintro e9 w9 ⟨rfl, hb9⟩; have HF9 := Lib.hid (HF.out.kept hb9); have o0 := HF9.out.v.c0; have o1 := HF9.out.v.c1;  clear hb9) | (go_at_call 35; (with_reducible refine (HQ.out _).mono ?_); rintro e10 w10 ⟨rfl, hb10⟩; have HF10 := Lib.hid (HF9.out.kept hb10); obtain ⟨d0, d1, d2, d3, d4⟩ := HF10.out.z.cs; have z0 := HF10.out.z.fz 0; have z1 := HF10.out.z.fz 1; have z2 := HF10.out.z.fz 2; have z3 := HF10.out.z.fz 3; have z4 := HF10.out.z.fz 4; clear hb10))
      refine bodyPost_ret (res_cell_tmp rfl _ _ (w.heap.size + 2) 29 _ (0, 0) _ _ rfl rfl (HF10.out.fillz 0 0 0 0 0) Try.underlying29 rfl (by kernel_rfl)) rfl ⟨?_, HF10.out.belz 0 0 0 0 0⟩
      rw [HV.out]; rfl
    | true =>
      have hs := HSI.out (by first | rfl | trivial)
      have HSQ := Lib.hid (rseq_c own)
      rcases hs with rfl | rfl
      · by_cases h1 : ack < 0
        · have HV := Lib.hid (HNO.out (.inr (.inl h1)))
          clear HSI HNO HYES
          go_wp2_with (first | (go_at_call 18; (with_reducible refine (HG.out _).mono ?_); rintro e9 w9 ⟨rfl, hb9⟩; have HF9 := Lib.hid (HF.out.kept hb9); have o0 := HF9.out.v.c0; have o1 := HF9.out.v.c1; obtain ⟨e0, e1, e2, e3, e4⟩ := HF9.out.f.cs; clear hb9) | (go_at_call 35; (with_reducible refine (HQ.out _).mono ?_); rintro e10 w10 ⟨rfl, hb10⟩; have HF10 := Lib.hid (HF9.out.kept hb10); obtain ⟨f0, f1, f2, f3, f4⟩ := HF10.out.f.cs; have p0 := HF10.out.v.c0; have p1 := HF10.out.v.c1; obtain ⟨d0, d1, d2, d3, d4⟩ := HF10.out.z.cs; have z0 := HF10.out.z.fz 0; have z1 := HF10.out.z.fz 1; have z2 := HF10.out.z.fz 2; have z3 := HF10.out.z.fz 3; have z4 := HF10.out.z.fz 4; clear hb10) | (go_at_call 36; (with_reducible refine (HSQ.out _).mono ?_); rintro e11 w11 ⟨rfl, rfl⟩))
          refine bodyPost_ret (res_cell_tmp rfl _ _ (w.heap.size + 2) 29 _ (0, 0) _ _ rfl rfl (HF10.out.fillz 0 0 0 0 0) Try.underlying29 rfl (by kernel_rfl)) rfl ⟨?_, HF10.out.belz 0 0 0 0 0⟩
          rw [HV.out]; rfl
        · by_cases h2 : x < ack
          · have HV := Lib.hid (HNO.out (.inr (.inr (.inl h2))))
            clear HSI HNO HYES
            go_wp2_with (first | (go_at_call 18; (with_reducible refine (HG.out _).mono ?_); rintro e9 w9 ⟨rfl, hb9⟩; have HF9 := Lib.hid (HF.out.kept hb9); have o0 := HF9.out.v.c0; have o1 := HF9.out.v.c1; obtain ⟨e0, e1, e2, e3, e4⟩ := HF9.out.f.cs; clear hb9) | (go_at_call 35; (with_reducible refine (HQ.out _).mono ?_); rintro e10 w10 ⟨rfl, hb10⟩; have HF10 := Lib.hid (HF9.out.kept hb10); obtain ⟨f0, f1, f2, f3, f4⟩ := HF10.out.f.cs; have p0 := HF10.out.v.c0; have p1 := HF10.out.v.c1; obtain ⟨d0, d1, d2, d3, d4⟩ := HF10.out.z.cs; have z0 := HF10.out.z.fz 0; have z1 := HF10.out.z.fz 1; have z2 := HF10.out.z.fz 2; have z3 := HF10.out.z.fz 3; have z4 := HF10.out.z.fz 4; clear hb10) | (go_at_call 36; (with_reducible refine (HSQ.out _).mono ?_); rintro e11 w11 ⟨rfl, rfl⟩))
            refine bodyPost_ret (res_cell_tmp rfl _ _ (w.heap.size + 2) 29 _ (0, 0) _ _ rfl rfl (HF10.out.fillz 0 0 0 0 0) Try.underlying29 rfl (by kernel_rfl)) rfl ⟨?_, HF10.out.belz 0 0 0 0 0⟩
            rw [HV.out]; rfl
          · cases h3 : seqS own with
            | false =>
              have HV := Lib.hid (HNO.out (.inr (.inr (.inr h3))))
              rw [h3] at HSQ
              clear h3
              clear HSI HNO HYES
              go_wp2_with (first | (go_at_call 18; (with_reducible refine (HG.out _).mono ?_); rintro e9 w9 ⟨rfl, hb9⟩; have HF9 := Lib.hid (HF.out.kept hb9); have o0 := HF9.out.v.c0; have o1 := HF9.out.v.c1; obtain ⟨e0, e1, e2, e3, e4⟩ := HF9.out.f.cs; clear hb9) | (go_at_call 35; (with_reducible refine (HQ.out _).mono ?_); rintro e10 w10 ⟨rfl, hb10⟩; have HF10 := Lib.hid (HF9.out.kept hb10); obtain ⟨f0, f1, f2, f3, f4⟩ := HF10.out.f.cs; have p0 := HF10.out.v.c0; have p1 := HF10.out.v.c1; obtain ⟨d0, d1, d2, d3, d4⟩ := HF10.out.z.cs; have z0 := HF10.out.z.fz 0; have z1 := HF10.out.z.fz 1; have z2 := HF10.out.z.fz 2; have z3 := HF10.out.z.fz 3; have z4 := HF10.out.z.fz 4; clear hb10) | (go_at_call 36; (with_reducible refine (HSQ.out _).mono ?_); rintro e11 w11 ⟨rfl, rfl⟩))
              refine bodyPost_ret (res_cell_tmp rfl _ _ (w.heap.size + 2) 29 _ (0, 0) _ _ rfl rfl (HF10.out.fillz 0 0 0 0 0) Try.underlying29 rfl (by kernel_rfl)) rfl ⟨?_, HF10.out.belz 0 0 0 0 0⟩
              rw [HV.out]; rfl
            | true =>
              have HV := Lib.hid (HYES.out (by first | rfl | trivial) (by omega) (show ack ≤ Ft.mine ⟨1, k, b, t, u⟩ x y by show ack ≤ x; omega) h3)
              rw [h3] at HSQ
              clear h3 HSI HNO HYES
              have HL := Lib.hid (show Ft.learned ⟨1, k, b, t, u⟩ x y ack own = if own ≤ y then ⟨1, Max.max k ack, Max.max b ack, t, u⟩ else if u = 0 ∧ b < ack then ⟨1, Max.max k ack, b, ack, own⟩ else ⟨1, Max.max k ack, b, t, u⟩ from rfl)
              obtain ⟨LE, hLE⟩ : ∃ z, Ft.learned ⟨1, k, b, t, u⟩ x y ack own = z := ⟨_, rfl⟩
              rw [hLE] at HL HV
              clear hLE
              go_upto_region 3 with (first | (go_at_call 18; (with_reducible refine (HG.out _).mono ?_); rintro e9 w9 ⟨rfl, hb9⟩; have HF9 := Lib.hid (HF.out.kept hb9); have o0 := HF9.out.v.c0; have o1 := HF9.out.v.c1; obtain ⟨e0, e1, e2, e3, e4⟩ := HF9.out.f.cs; clear hb9) | (go_at_call 35; (with_reducible refine (HQ.out _).mono ?_); rintro e10 w10 ⟨rfl, hb10⟩; have HF10 := Lib.hid (HF9.out.kept hb10); obtain ⟨f0, f1, f2, f3, f4⟩ := HF10.out.f.cs; have p0 := HF10.out.v.c0; have p1 := HF10.out.v.c1;  clear hb10) | (go_at_call 36; (with_reducible refine (HSQ.out _).mono ?_); rintro e11 w11 ⟨rfl, rfl⟩))
              clear c0 c1 c2 c3 c4 v0 v1 o0 o1 e0 e1 e2 e3 e4 f0 f1 f2 f3 f4 p0 p1 HF9 HF HG HQ HSQ h1 h2
              obtain ⟨c0, c1, c2, c3, c4⟩ := HF10.out.f.cs
              have z1 := HF10.out.f.fz 1
              obtain ⟨mk, hmk⟩ : ∃ z, Max.max k ack = z := ⟨_, rfl⟩
              rw [hmk] at HL
              go_upto_region 4 with (fail)
              have HF11 := Lib.hid (HF10.out.set1 mk)
              clear c0 c1 c2 c3 c4 z1 HF10 hmk
              generalize w11.setCell ⟨w.heap.size, 1, none⟩ (.int .i64 mk) = W11 at *
              obtain ⟨c0, c1, c2, c3, c4⟩ := HF11.out.f.cs
              have v0 := HF11.out.v.c0
              have v1 := HF11.out.v.c1
              by_cases how : own ≤ y
              · have HL2 := Lib.hid (show LE = ⟨1, mk, Max.max b ack, t, u⟩ by rw [HL.out, if_pos how])
                obtain ⟨mb, hmb⟩ : ∃ z, Max.max b ack = z := ⟨_, rfl⟩
                rw [hmb] at HL2
                have z2 := HF11.out.f.fz 2
                go_upto_region 5 with (fail)
                go_upto_region 9 with (fail)
                have HF12 := Lib.hid (HF11.out.set2 mb)
                clear c0 c1 c2 c3 c4 v0 v1 z2 HF11 hmb how
                generalize W11.setCell ⟨w.heap.size, 2, none⟩ (.int .i64 mb) = W12 at *
                obtain ⟨c0, c1, c2, c3, c4⟩ := HF12.out.f.cs
                have v0 := HF12.out.v.c0
                have v1 := HF12.out.v.c1
                have HSET := Lib.hid (rfsettle_c 1 mk mb t u x y)
                rw [HL2.out] at HV
                obtain ⟨⟨r0, r1, r2, r3, r4⟩, r5⟩ := RV
                have hR0 := HV.out.symm
                simp only [hR0, ftR] at HSET
                clear hR0
                go_wp2_with (go_at_call 12; (with_reducible refine (HSET.out _).mono ?_); rintro e20 w20 ⟨rfl, hb20⟩; have HF20 := Lib.hid (HF12.out.kept hb20); obtain ⟨d0, d1, d2, d3, d4⟩ := HF20.out.z.cs; have z0 := HF20.out.z.fz 0; have z1 := HF20.out.z.fz 1; have z2 := HF20.out.z.fz 2; have z3 := HF20.out.z.fz 3; have z4 := HF20.out.z.fz 4; clear hb20)
                refine bodyPost_ret (res_cell_tmp rfl _ _ (w.heap.size + 2) 29 _ (0, 0) _ _ rfl rfl (HF20.out.fillz r0 r1 r2 r3 r4) Try.underlying29 rfl (by kernel_rfl)) rfl ⟨?_, HF20.out.belz r0 r1 r2 r3 r4⟩
                rfl
              · rw [if_neg how] at HL
                by_cases hu0 : u = 0
                · subst hu0
                  by_cases hba : b < ack
                  · have HL2 := Lib.hid (show LE = ⟨1, mk, b, ack, own⟩ by rw [HL.out, if_pos ⟨rfl, hba⟩])
                    go_upto_region 7 with (fail)
                    have z3 := HF11.out.f.fz 3
                    go_upto_region 8 with (fail)
                    have HF12 := Lib.hid (HF11.out.set3 ack)
                    clear c0 c1 c2 c3 c4 v0 v1 z3 HF11 how hba
                    generalize W11.setCell ⟨w.heap.size, 3, none⟩ (.int .i64 ack) = W12 at *
                    obtain ⟨c0, c1, c2, c3, c4⟩ := HF12.out.f.cs
                    have z4 := HF12.out.f.fz 4
                    go_upto_region 9 with (fail)
                    have HF13 := Lib.hid (HF12.out.set4 own)
                    clear c0 c1 c2 c3 c4 z4 HF12
                    generalize W12.setCell ⟨w.heap.size, 4, none⟩ (.int .i64 own) = W13 at *
                    obtain ⟨c0, c1, c2, c3, c4⟩ := HF13.out.f.cs
                    have v0 := HF13.out.v.c0
                    have v1 := HF13.out.v.c1
                    have HSET := Lib.hid (rfsettle_c 1 mk b ack own x y)
                    rw [HL2.out] at HV
                    obtain ⟨⟨r0, r1, r2, r3, r4⟩, r5⟩ := RV
                    have hR0 := HV.out.symm
                    simp only [hR0, ftR] at HSET
                    clear hR0
                    go_wp2_with (go_at_call 12; (with_reducible refine (HSET.out _).mono ?_); rintro e20 w20 ⟨rfl, hb20⟩; have HF20 := Lib.hid (HF13.out.kept hb20); obtain ⟨d0, d1, d2, d3, d4⟩ := HF20.out.z.cs; have z0 := HF20.out.z.fz 0; have z1 := HF20.out.z.fz 1; have z2 := HF20.out.z.fz 2; have z3 := HF20.out.z.fz 3; have z4 := HF20.out.z.fz 4; clear hb20)
                    refine bodyPost_ret (res_cell_tmp rfl _ _ (w.heap.size + 2) 29 _ (0, 0) _ _ rfl rfl (HF20.out.fillz r0 r1 r2 r3 r4) Try.underlying29 rfl (by kernel_rfl)) rfl ⟨?_, HF20.out.belz r0 r1 r2 r3 r4⟩
                    rfl
                  · have HL2 := Lib.hid (show LE = ⟨1, mk, b, t, 0⟩ by rw [HL.out, if_neg (fun h => hba h.2)])
                    go_upto_region 9 with (fail)
                    clear c0 c1 c2 c3 c4 v0 v1 hba how
                    obtain ⟨c0, c1, c2, c3, c4⟩ := HF11.out.f.cs
                    have v0 := HF11.out.v.c0
                    have v1 := HF11.out.v.c1
                    have HSET := Lib.hid (rfsettle_c 1 mk b t 0 x y)
                    rw [HL2.out] at HV
                    obtain ⟨⟨r0, r1, r2, r3, r4⟩, r5⟩ := RV
                    have hR0 := HV.out.symm
                    simp only [hR0, ftR] at HSET
                    clear hR0
                    go_wp2_with (go_at_call 12; (with_reducible refine (HSET.out _).mono ?_); rintro e20 w20 ⟨rfl, hb20⟩; have HF20 := Lib.hid (HF11.out.kept hb20); obtain ⟨d0, d1, d2, d3, d4⟩ := HF20.out.z.cs; have z0 := HF20.out.z.fz 0; have z1 := HF20.out.z.fz 1; have z2 := HF20.out.z.fz 2; have z3 := HF20.out.z.fz 3; have z4 := HF20.out.z.fz 4; clear hb20)
                    refine bodyPost_ret (res_cell_tmp rfl _ _ (w.heap.size + 2) 29 _ (0, 0) _ _ rfl rfl (HF20.out.fillz r0 r1 r2 r3 r4) Try.underlying29 rfl (by kernel_rfl)) rfl ⟨?_, HF20.out.belz r0 r1 r2 r3 r4⟩
                    rfl
                · have HL2 := Lib.hid (show LE = ⟨1, mk, b, t, u⟩ by rw [HL.out, if_neg (fun h => hu0 h.1)])
                  go_upto_region 9 with (fail)
                  clear c0 c1 c2 c3 c4 v0 v1 hu0 how
                  obtain ⟨c0, c1, c2, c3, c4⟩ := HF11.out.f.cs
                  have v0 := HF11.out.v.c0
                  have v1 := HF11.out.v.c1
                  have HSET := Lib.hid (rfsettle_c 1 mk b t u x y)
                  rw [HL2.out] at HV
                  obtain ⟨⟨r0, r1, r2, r3, r4⟩, r5⟩ := RV
                  have hR0 := HV.out.symm
                  simp only [hR0, ftR] at HSET
                  clear hR0
                  go_wp2_with (go_at_call 12; (with_reducible refine (HSET.out _).mono ?_); rintro e20 w20 ⟨rfl, hb20⟩; have HF20 := Lib.hid (HF11.out.kept hb20); obtain ⟨d0, d1, d2, d3, d4⟩ := HF20.out.z.cs; have z0 := HF20.out.z.fz 0; have z1 := HF20.out.z.fz 1; have z2 := HF20.out.z.fz 2; have z3 := HF20.out.z.fz 3; have z4 := HF20.out.z.fz 4; clear hb20)
                  refine bodyPost_ret (res_cell_tmp rfl _ _ (w.heap.size + 2) 29 _ (0, 0) _ _ rfl rfl (HF20.out.fillz r0 r1 r2 r3 r4) Try.underlying29 rfl (by kernel_rfl)) rfl ⟨?_, HF20.out.belz r0 r1 r2 r3 r4⟩
                  rfl
      · by_cases h1 : ack < 0
        · have HV := Lib.hid (HNO.out (.inr (.inl h1)))
          clear HSI HNO HYES
          go_wp2_with (first | (go_at_call 18; (with_reducible refine (HG.out _).mono ?_); rintro e9 w9 ⟨rfl, hb9⟩; have HF9 := Lib.hid (HF.out.kept hb9); have o0 := HF9.out.v.c0; have o1 := HF9.out.v.c1; obtain ⟨e0, e1, e2, e3, e4⟩ := HF9.out.f.cs; clear hb9) | (go_at_call 35; (with_reducible refine (HQ.out _).mono ?_); rintro e10 w10 ⟨rfl, hb10⟩; have HF10 := Lib.hid (HF9.out.kept hb10); obtain ⟨f0, f1, f2, f3, f4⟩ := HF10.out.f.cs; have p0 := HF10.out.v.c0; have p1 := HF10.out.v.c1; obtain ⟨d0, d1, d2, d3, d4⟩ := HF10.out.z.cs; have z0 := HF10.out.z.fz 0; have z1 := HF10.out.z.fz 1; have z2 := HF10.out.z.fz 2; have z3 := HF10.out.z.fz 3; have z4 := HF10.out.z.fz 4; clear hb10) | (go_at_call 36; (with_reducible refine (HSQ.out _).mono ?_); rintro e11 w11 ⟨rfl, rfl⟩))
          refine bodyPost_ret (res_cell_tmp rfl _ _ (w.heap.size + 2) 29 _ (0, 0) _ _ rfl rfl (HF10.out.fillz 0 0 0 0 0) Try.underlying29 rfl (by kernel_rfl)) rfl ⟨?_, HF10.out.belz 0 0 0 0 0⟩
          rw [HV.out]; rfl
        · by_cases h2 : y < ack
          · have HV := Lib.hid (HNO.out (.inr (.inr (.inl h2))))
            clear HSI HNO HYES
            go_wp2_with (first | (go_at_call 18; (with_reducible refine (HG.out _).mono ?_); rintro e9 w9 ⟨rfl, hb9⟩; have HF9 := Lib.hid (HF.out.kept hb9); have o0 := HF9.out.v.c0; have o1 := HF9.out.v.c1; obtain ⟨e0, e1, e2, e3, e4⟩ := HF9.out.f.cs; clear hb9) | (go_at_call 35; (with_reducible refine (HQ.out _).mono ?_); rintro e10 w10 ⟨rfl, hb10⟩; have HF10 := Lib.hid (HF9.out.kept hb10); obtain ⟨f0, f1, f2, f3, f4⟩ := HF10.out.f.cs; have p0 := HF10.out.v.c0; have p1 := HF10.out.v.c1; obtain ⟨d0, d1, d2, d3, d4⟩ := HF10.out.z.cs; have z0 := HF10.out.z.fz 0; have z1 := HF10.out.z.fz 1; have z2 := HF10.out.z.fz 2; have z3 := HF10.out.z.fz 3; have z4 := HF10.out.z.fz 4; clear hb10) | (go_at_call 36; (with_reducible refine (HSQ.out _).mono ?_); rintro e11 w11 ⟨rfl, rfl⟩))
            refine bodyPost_ret (res_cell_tmp rfl _ _ (w.heap.size + 2) 29 _ (0, 0) _ _ rfl rfl (HF10.out.fillz 0 0 0 0 0) Try.underlying29 rfl (by kernel_rfl)) rfl ⟨?_, HF10.out.belz 0 0 0 0 0⟩
            rw [HV.out]; rfl
          · cases h3 : seqS own with
            | false =>
              have HV := Lib.hid (HNO.out (.inr (.inr (.inr h3))))
              rw [h3] at HSQ
              clear h3
              clear HSI HNO HYES
              go_wp2_with (first | (go_at_call 18; (with_reducible refine (HG.out _).mono ?_); rintro e9 w9 ⟨rfl, hb9⟩; have HF9 := Lib.hid (HF.out.kept hb9); have o0 := HF9.out.v.c0; have o1 := HF9.out.v.c1; obtain ⟨e0, e1, e2, e3, e4⟩ := HF9.out.f.cs; clear hb9) | (go_at_call 35; (with_reducible refine (HQ.out _).mono ?_); rintro e10 w10 ⟨rfl, hb10⟩; have HF10 := Lib.hid (HF9.out.kept hb10); obtain ⟨f0, f1, f2, f3, f4⟩ := HF10.out.f.cs; have p0 := HF10.out.v.c0; have p1 := HF10.out.v.c1; obtain ⟨d0, d1, d2, d3, d4⟩ := HF10.out.z.cs; have z0 := HF10.out.z.fz 0; have z1 := HF10.out.z.fz 1; have z2 := HF10.out.z.fz 2; have z3 := HF10.out.z.fz 3; have z4 := HF10.out.z.fz 4; clear hb10) | (go_at_call 36; (with_reducible refine (HSQ.out _).mono ?_); rintro e11 w11 ⟨rfl, rfl⟩))
              refine bodyPost_ret (res_cell_tmp rfl _ _ (w.heap.size + 2) 29 _ (0, 0) _ _ rfl rfl (HF10.out.fillz 0 0 0 0 0) Try.underlying29 rfl (by kernel_rfl)) rfl ⟨?_, HF10.out.belz 0 0 0 0 0⟩
              rw [HV.out]; rfl
            | true =>
              have HV := Lib.hid (HYES.out (by first | rfl | trivial) (by omega) (show ack ≤ Ft.mine ⟨2, k, b, t, u⟩ x y by show ack ≤ y; omega) h3)
              rw [h3] at HSQ
              clear h3 HSI HNO HYES
              have HL := Lib.hid (show Ft.learned ⟨2, k, b, t, u⟩ x y ack own = if own ≤ x then ⟨2, Max.max k ack, Max.max b ack, t, u⟩ else if u = 0 ∧ b < ack then ⟨2, Max.max k ack, b, ack, own⟩ else ⟨2, Max.max k ack, b, t, u⟩ from rfl)
              obtain ⟨LE, hLE⟩ : ∃ z, Ft.learned ⟨2, k, b, t, u⟩ x y ack own = z := ⟨_, rfl⟩
              rw [hLE] at HL HV
              clear hLE
              go_upto_region 3 with (first | (go_at_call 18; (with_reducible refine (HG.out _).mono ?_); rintro e9 w9 ⟨rfl, hb9⟩; have HF9 := Lib.hid (HF.out.kept hb9); have o0 := HF9.out.v.c0; have o1 := HF9.out.v.c1; obtain ⟨e0, e1, e2, e3, e4⟩ := HF9.out.f.cs; clear hb9) | (go_at_call 35; (with_reducible refine (HQ.out _).mono ?_); rintro e10 w10 ⟨rfl, hb10⟩; have HF10 := Lib.hid (HF9.out.kept hb10); obtain ⟨f0, f1, f2, f3, f4⟩ := HF10.out.f.cs; have p0 := HF10.out.v.c0; have p1 := HF10.out.v.c1;  clear hb10) | (go_at_call 36; (with_reducible refine (HSQ.out _).mono ?_); rintro e11 w11 ⟨rfl, rfl⟩))
              clear c0 c1 c2 c3 c4 v0 v1 o0 o1 e0 e1 e2 e3 e4 f0 f1 f2 f3 f4 p0 p1 HF9 HF HG HQ HSQ h1 h2
              obtain ⟨c0, c1, c2, c3, c4⟩ := HF10.out.f.cs
              have z1 := HF10.out.f.fz 1
              obtain ⟨mk, hmk⟩ : ∃ z, Max.max k ack = z := ⟨_, rfl⟩
              rw [hmk] at HL
              go_upto_region 4 with (fail)
              have HF11 := Lib.hid (HF10.out.set1 mk)
              clear c0 c1 c2 c3 c4 z1 HF10 hmk
              generalize w11.setCell ⟨w.heap.size, 1, none⟩ (.int .i64 mk) = W11 at *
              obtain ⟨c0, c1, c2, c3, c4⟩ := HF11.out.f.cs
              have v0 := HF11.out.v.c0
              have v1 := HF11.out.v.c1
              by_cases how : own ≤ x
              · have HL2 := Lib.hid (show LE = ⟨2, mk, Max.max b ack, t, u⟩ by rw [HL.out, if_pos how])
                obtain ⟨mb, hmb⟩ : ∃ z, Max.max b ack = z := ⟨_, rfl⟩
                rw [hmb] at HL2
                have z2 := HF11.out.f.fz 2
                go_upto_region 5 with (fail)
                go_upto_region 9 with (fail)
                have HF12 := Lib.hid (HF11.out.set2 mb)
                clear c0 c1 c2 c3 c4 v0 v1 z2 HF11 hmb how
                generalize W11.setCell ⟨w.heap.size, 2, none⟩ (.int .i64 mb) = W12 at *
                obtain ⟨c0, c1, c2, c3, c4⟩ := HF12.out.f.cs
                have v0 := HF12.out.v.c0
                have v1 := HF12.out.v.c1
                have HSET := Lib.hid (rfsettle_c 2 mk mb t u x y)
                rw [HL2.out] at HV
                obtain ⟨⟨r0, r1, r2, r3, r4⟩, r5⟩ := RV
                have hR0 := HV.out.symm
                simp only [hR0, ftR] at HSET
                clear hR0
                go_wp2_with (go_at_call 12; (with_reducible refine (HSET.out _).mono ?_); rintro e20 w20 ⟨rfl, hb20⟩; have HF20 := Lib.hid (HF12.out.kept hb20); obtain ⟨d0, d1, d2, d3, d4⟩ := HF20.out.z.cs; have z0 := HF20.out.z.fz 0; have z1 := HF20.out.z.fz 1; have z2 := HF20.out.z.fz 2; have z3 := HF20.out.z.fz 3; have z4 := HF20.out.z.fz 4; clear hb20)
                refine bodyPost_ret (res_cell_tmp rfl _ _ (w.heap.size + 2) 29 _ (0, 0) _ _ rfl rfl (HF20.out.fillz r0 r1 r2 r3 r4) Try.underlying29 rfl (by kernel_rfl)) rfl ⟨?_, HF20.out.belz r0 r1 r2 r3 r4⟩
                rfl
              · rw [if_neg how] at HL
                by_cases hu0 : u = 0
                · subst hu0
                  by_cases hba : b < ack
                  · have HL2 := Lib.hid (show LE = ⟨2, mk, b, ack, own⟩ by rw [HL.out, if_pos ⟨rfl, hba⟩])
                    go_upto_region 7 with (fail)
                    have z3 := HF11.out.f.fz 3
                    go_upto_region 8 with (fail)
                    have HF12 := Lib.hid (HF11.out.set3 ack)
                    clear c0 c1 c2 c3 c4 v0 v1 z3 HF11 how hba
                    generalize W11.setCell ⟨w.heap.size, 3, none⟩ (.int .i64 ack) = W12 at *
                    obtain ⟨c0, c1, c2, c3, c4⟩ := HF12.out.f.cs
                    have z4 := HF12.out.f.fz 4
                    go_upto_region 9 with (fail)
                    have HF13 := Lib.hid (HF12.out.set4 own)
                    clear c0 c1 c2 c3 c4 z4 HF12
                    generalize W12.setCell ⟨w.heap.size, 4, none⟩ (.int .i64 own) = W13 at *
                    obtain ⟨c0, c1, c2, c3, c4⟩ := HF13.out.f.cs
                    have v0 := HF13.out.v.c0
                    have v1 := HF13.out.v.c1
                    have HSET := Lib.hid (rfsettle_c 2 mk b ack own x y)
                    rw [HL2.out] at HV
                    obtain ⟨⟨r0, r1, r2, r3, r4⟩, r5⟩ := RV
                    have hR0 := HV.out.symm
                    simp only [hR0, ftR] at HSET
                    clear hR0
                    go_wp2_with (go_at_call 12; (with_reducible refine (HSET.out _).mono ?_); rintro e20 w20 ⟨rfl, hb20⟩; have HF20 := Lib.hid (HF13.out.kept hb20); obtain ⟨d0, d1, d2, d3, d4⟩ := HF20.out.z.cs; have z0 := HF20.out.z.fz 0; have z1 := HF20.out.z.fz 1; have z2 := HF20.out.z.fz 2; have z3 := HF20.out.z.fz 3; have z4 := HF20.out.z.fz 4; clear hb20)
                    refine bodyPost_ret (res_cell_tmp rfl _ _ (w.heap.size + 2) 29 _ (0, 0) _ _ rfl rfl (HF20.out.fillz r0 r1 r2 r3 r4) Try.underlying29 rfl (by kernel_rfl)) rfl ⟨?_, HF20.out.belz r0 r1 r2 r3 r4⟩
                    rfl
                  · have HL2 := Lib.hid (show LE = ⟨2, mk, b, t, 0⟩ by rw [HL.out, if_neg (fun h => hba h.2)])
                    go_upto_region 9 with (fail)
                    clear c0 c1 c2 c3 c4 v0 v1 hba how
                    obtain ⟨c0, c1, c2, c3, c4⟩ := HF11.out.f.cs
                    have v0 := HF11.out.v.c0
                    have v1 := HF11.out.v.c1
                    have HSET := Lib.hid (rfsettle_c 2 mk b t 0 x y)
                    rw [HL2.out] at HV
                    obtain ⟨⟨r0, r1, r2, r3, r4⟩, r5⟩ := RV
                    have hR0 := HV.out.symm
                    simp only [hR0, ftR] at HSET
                    clear hR0
                    go_wp2_with (go_at_call 12; (with_reducible refine (HSET.out _).mono ?_); rintro e20 w20 ⟨rfl, hb20⟩; have HF20 := Lib.hid (HF11.out.kept hb20); obtain ⟨d0, d1, d2, d3, d4⟩ := HF20.out.z.cs; have z0 := HF20.out.z.fz 0; have z1 := HF20.out.z.fz 1; have z2 := HF20.out.z.fz 2; have z3 := HF20.out.z.fz 3; have z4 := HF20.out.z.fz 4; clear hb20)
                    refine bodyPost_ret (res_cell_tmp rfl _ _ (w.heap.size + 2) 29 _ (0, 0) _ _ rfl rfl (HF20.out.fillz r0 r1 r2 r3 r4) Try.underlying29 rfl (by kernel_rfl)) rfl ⟨?_, HF20.out.belz r0 r1 r2 r3 r4⟩
                    rfl
                · have HL2 := Lib.hid (show LE = ⟨2, mk, b, t, u⟩ by rw [HL.out, if_neg (fun h => hu0 h.1)])
                  go_upto_region 9 with (fail)
                  clear c0 c1 c2 c3 c4 v0 v1 hu0 how
                  obtain ⟨c0, c1, c2, c3, c4⟩ := HF11.out.f.cs
                  have v0 := HF11.out.v.c0
                  have v1 := HF11.out.v.c1
                  have HSET := Lib.hid (rfsettle_c 2 mk b t u x y)
                  rw [HL2.out] at HV
                  obtain ⟨⟨r0, r1, r2, r3, r4⟩, r5⟩ := RV
                  have hR0 := HV.out.symm
                  simp only [hR0, ftR] at HSET
                  clear hR0
                  go_wp2_with (go_at_call 12; (with_reducible refine (HSET.out _).mono ?_); rintro e20 w20 ⟨rfl, hb20⟩; have HF20 := Lib.hid (HF11.out.kept hb20); obtain ⟨d0, d1, d2, d3, d4⟩ := HF20.out.z.cs; have z0 := HF20.out.z.fz 0; have z1 := HF20.out.z.fz 1; have z2 := HF20.out.z.fz 2; have z3 := HF20.out.z.fz 3; have z4 := HF20.out.z.fz 4; clear hb20)
                  refine bodyPost_ret (res_cell_tmp rfl _ _ (w.heap.size + 2) 29 _ (0, 0) _ _ rfl rfl (HF20.out.fillz r0 r1 r2 r3 r4) Try.underlying29 rfl (by kernel_rfl)) rfl ⟨?_, HF20.out.belz r0 r1 r2 r3 r4⟩
                  rfl
end Go.Proofs.Ytdjhiaogpgaboaa
end

section
namespace Go.Proofs.Ytdjhiaogpgaboaa
open Go.RowKit Go Go.Sort
set_option linter.unusedVariables false
set_option maxRecDepth 20000

def stabS (f : Ft) (x y : Int) : (Int × Int) × Int := if (f.good && vgood x y) = true then ((if f.s = 1 then (f.b, y) else (x, f.b)), 0) else ((0, 0), 2)
def stR (r : (Int × Int) × Int) : Value := .tuple #[.agg #[.int .i64 r.1.1, .int .i64 r.1.2], .int .i64 r.2]
def newF (s : Int) : Ft × Int := if s = 1 ∨ s = 2 then (⟨s, 0, 0, 0, 0⟩, 0) else (Ft.zero, 2)
/-- A front, counts, and counts that are told: three boxes. -/
structure Fv (w : World) (T : TypeId) (s k b t u x y : Int) (W : World) : Prop where
  f : Fb W w.heap.size T s k b t u
  v : Pair W (w.heap.size + 1) 25 x y
  z : Pair W (w.heap.size + 2) 25 0 0
  b : Below w.heap.size w W
section
variable {w W W' : World} {T : TypeId} {s k b t u x y : Int}
theorem Fv.kept (h : Fv w T s k b t u x y W) (hb : Below W.heap.size W W') : Fv w T s k b t u x y W' := ⟨h.f.kept hb, h.v.kept hb, h.z.kept hb, h.b.trans (hb.mono h.b.size)⟩
theorem Fv.new (w : World) (T : TypeId) (s k b t u x y : Int) : Fv w T s k b t u x y (((w.alloc (.cells #[.int .i64 s, .int .i64 k, .int .i64 b, .int .i64 t, .int .i64 u] T)).alloc (.cells #[.int .i64 x, .int .i64 y] 25)).alloc (.cells #[.int .i64 0, .int .i64 0] 25)) := by
  have h1 := Fb.new w T s k b t u
  have b1 := alloc_below w (.cells #[.int .i64 s, .int .i64 k, .int .i64 b, .int .i64 t, .int .i64 u] T)
  have s1 := World.size_alloc w (.cells #[.int .i64 s, .int .i64 k, .int .i64 b, .int .i64 t, .int .i64 u] T)
  generalize w.alloc (.cells #[.int .i64 s, .int .i64 k, .int .i64 b, .int .i64 t, .int .i64 u] T) = W1 at *
  have h2 := Pair.new W1 25 x y
  have b2 := alloc_below W1 (.cells #[.int .i64 x, .int .i64 y] 25)
  have s2 := World.size_alloc W1 (.cells #[.int .i64 x, .int .i64 y] 25)
  generalize W1.alloc (.cells #[.int .i64 x, .int .i64 y] 25) = W2 at *
  have h3 := Pair.new W2 25 0 0
  have b3 := alloc_below W2 (.cells #[.int .i64 0, .int .i64 0] 25)
  rw [s2, s1] at h3
  rw [s1] at h2
  exact ⟨(h1.kept b2).kept b3, h2.kept b3, h3, (b1.trans (b2.mono b1.size)).trans (b3.mono (b1.trans (b2.mono b1.size)).size)⟩
theorem Fv.setv0 (h : Fv w T s k b t u x y W) (n : Int) : Fv w T s k b t u n y (W.setCell ⟨w.heap.size + 1, 0, none⟩ (.int .i64 n)) := ⟨h.f.other _ (by simp), h.v.set0 n, h.z.other _ _ (by simp), h.b.setCell (p := ⟨w.heap.size + 1, 0, none⟩) (by simp) _⟩
theorem Fv.setv1 (h : Fv w T s k b t u x y W) (n : Int) : Fv w T s k b t u x n (W.setCell ⟨w.heap.size + 1, 1, none⟩ (.int .i64 n)) := ⟨h.f.other _ (by simp), h.v.set1 n, h.z.other _ _ (by simp), h.b.setCell (p := ⟨w.heap.size + 1, 1, none⟩) (by simp) _⟩
theorem Fv.fillz (h : Fv w T s k b t u x y W) (n0 n1 : Int) : Pair ((W.setCell ⟨w.heap.size + 2, 0, none⟩ (.int .i64 n0)).setCell ⟨w.heap.size + 2, 1, none⟩ (.int .i64 n1)) (w.heap.size + 2) 25 n0 n1 := (h.z.set0 n0).set1 n1
theorem Fv.belz (h : Fv w T s k b t u x y W) (n0 n1 : Int) : Below w.heap.size w ((W.setCell ⟨w.heap.size + 2, 0, none⟩ (.int .i64 n0)).setCell ⟨w.heap.size + 2, 1, none⟩ (.int .i64 n1)) := (h.b.setCell (p := ⟨w.heap.size + 2, 0, none⟩) (by simp) _).setCell (p := ⟨w.heap.size + 2, 1, none⟩) (by simp) _
end
set_option maxHeartbeats 6400000 in
theorem fstable_c (s k b t u x y : Int) (w : World) : Calls Try.prog 13 #[.agg #[.int .i64 s, .int .i64 k, .int .i64 b, .int .i64 t, .int .i64 u], .agg #[.int .i64 x, .int .i64 y]] w (Tells (stR (stabS ⟨s, k, b, t, u⟩ x y)) w) := by
  have HF := Lib.hid (Fv.new w 23 s k b t u x y)
  have HSI := Lib.hid (@good_site s k b t u)
  have HV0 := Lib.hid (show stabS ⟨s, k, b, t, u⟩ x y = if (Ft.good ⟨s, k, b, t, u⟩ && vgood x y) = true then ((if s = 1 then (b, y) else (x, b)), 0) else ((0, 0), 2) from rfl)
  have HIR := Lib.hid (fright_c s k b t u x y)
  have HG := Lib.hid (rfgood_c s k b t u)
  have HQ := Lib.hid (rvgood_c x y)
  obtain ⟨RV, hRV⟩ : ∃ z, stabS ⟨s, k, b, t, u⟩ x y = z := ⟨_, rfl⟩
  rw [hRV] at HV0 ⊢
  obtain ⟨R, hR⟩ : ∃ z, Ft.good ⟨s, k, b, t, u⟩ = z := ⟨_, rfl⟩
  obtain ⟨R2, hR2⟩ : ∃ z, vgood x y = z := ⟨_, rfl⟩
  rw [hR, hR2] at HV0
  rw [hR] at HSI HG
  rw [hR2] at HQ
  simp only [hR, hR2] at HIR
  clear hRV hR hR2
  go_enter Try.func13, Try.ntmps13
  go_upto_region 1 with (fail)
  generalize ((w.alloc (.cells #[.int .i64 s, .int .i64 k, .int .i64 b, .int .i64 t, .int .i64 u] 23)).alloc (.cells #[.int .i64 x, .int .i64 y] 25)).alloc (.cells #[.int .i64 0, .int .i64 0] 25) = W1 at *
  obtain ⟨c0, c1, c2, c3, c4⟩ := HF.out.f.cs
  have v0 := HF.out.v.c0
  have v1 := HF.out.v.c1
  cases hRR : (R && R2) with
  | false =>
    have HV := Lib.hid (show RV = ((0, 0), 2) by rw [HV0.out, hRR]; rfl)
    simp only [hRR] at HIR
    clear hRR HSI
    go_wp2_with (go_at_call 31; (with_reducible refine (HIR.out _).mono ?_); rintro e9 w9 ⟨rfl, hb9⟩; have HF9 := Lib.hid (HF.out.kept hb9); have d0 := HF9.out.z.c0; have d1 := HF9.out.z.c1; have z0 := HF9.out.z.fz 0; have z1 := HF9.out.z.fz 1; clear hb9)
    refine bodyPost_ret (res_cell_tmp rfl _ _ (w.heap.size + 2) 25 _ (0, 0) _ _ rfl rfl (HF9.out.fillz 0 0) Try.underlying25 rfl (size2 _ _)) rfl ⟨?_, HF9.out.belz 0 0⟩
    rw [HV.out]; rfl
  | true =>
    rw [hRR, if_pos rfl] at HV0
    simp only [hRR] at HIR
    have hs := HSI.out (Bool.and_eq_true _ _ ▸ hRR).1
    clear hRR HSI
    rcases hs with rfl | rfl
    · have HV := Lib.hid (show RV = ((b, y), 0) from HV0.out)
      go_upto_region 3 with (go_at_call 31; (with_reducible refine (HIR.out _).mono ?_); rintro e9 w9 ⟨rfl, hb9⟩; have HF9 := Lib.hid (HF.out.kept hb9); clear hb9)
      clear c0 c1 c2 c3 c4 v0 v1 HF
      obtain ⟨c0, c1, c2, c3, c4⟩ := HF9.out.f.cs
      have v0 := HF9.out.v.c0
      have v1 := HF9.out.v.c1
      have y0 := HF9.out.v.fz 0
      have y1 := HF9.out.v.fz 1
      go_upto_region 4 with (fail)
      have HF10 := Lib.hid (HF9.out.setv0 b)
      clear c0 c1 c2 c3 c4 v0 v1 y0 y1 HF9
      generalize w9.setCell ⟨w.heap.size + 1, 0, none⟩ (.int .i64 b) = W10 at *
      have v0 := HF10.out.v.c0
      have v1 := HF10.out.v.c1
      obtain d0 := HF10.out.z.c0
      obtain d1 := HF10.out.z.c1
      have z0 := HF10.out.z.fz 0
      have z1 := HF10.out.z.fz 1
      go_wp2
      refine bodyPost_ret (res_cell_tmp rfl _ _ (w.heap.size + 2) 25 _ (0, 0) _ _ rfl rfl (HF10.out.fillz b y) Try.underlying25 rfl (size2 _ _)) rfl ⟨?_, HF10.out.belz b y⟩
      rw [HV.out]; rfl
    · have HV := Lib.hid (show RV = ((x, b), 0) from HV0.out)
      go_upto_region 3 with (go_at_call 31; (with_reducible refine (HIR.out _).mono ?_); rintro e9 w9 ⟨rfl, hb9⟩; have HF9 := Lib.hid (HF.out.kept hb9); clear hb9)
      clear c0 c1 c2 c3 c4 v0 v1 HF
      obtain ⟨c0, c1, c2, c3, c4⟩ := HF9.out.f.cs
      have v0 := HF9.out.v.c0
      have v1 := HF9.out.v.c1
      have y0 := HF9.out.v.fz 0
      have y1 := HF9.out.v.fz 1
      go_upto_region 4 with (fail)
      have HF10 := Lib.hid (HF9.out.setv1 b)
      clear c0 c1 c2 c3 c4 v0 v1 y0 y1 HF9
      generalize w9.setCell ⟨w.heap.size + 1, 1, none⟩ (.int .i64 b) = W10 at *
      have v0 := HF10.out.v.c0
      have v1 := HF10.out.v.c1
      obtain d0 := HF10.out.z.c0
      obtain d1 := HF10.out.z.c1
      have z0 := HF10.out.z.fz 0
      have z1 := HF10.out.z.fz 1
      go_wp2
      refine bodyPost_ret (res_cell_tmp rfl _ _ (w.heap.size + 2) 25 _ (0, 0) _ _ rfl rfl (HF10.out.fillz x b) Try.underlying25 rfl (size2 _ _)) rfl ⟨?_, HF10.out.belz x b⟩
      rw [HV.out]; rfl
set_option maxHeartbeats 6400000 in
theorem rfstable_c (s k b t u x y : Int) (w : World) : Calls Try.prog 14 #[.agg #[.int .i64 s, .int .i64 k, .int .i64 b, .int .i64 t, .int .i64 u], .agg #[.int .i64 x, .int .i64 y]] w (Tells (stR (stabS ⟨s, k, b, t, u⟩ x y)) w) := by
  have HF := Lib.hid (Fv.new w 29 s k b t u x y)
  have HSI := Lib.hid (@good_site s k b t u)
  have HV0 := Lib.hid (show stabS ⟨s, k, b, t, u⟩ x y = if (Ft.good ⟨s, k, b, t, u⟩ && vgood x y) = true then ((if s = 1 then (b, y) else (x, b)), 0) else ((0, 0), 2) from rfl)
  have HIR := Lib.hid (fright_c s k b t u x y)
  have HG := Lib.hid (rfgood_c s k b t u)
  have HQ := Lib.hid (rvgood_c x y)
  obtain ⟨RV, hRV⟩ : ∃ z, stabS ⟨s, k, b, t, u⟩ x y = z := ⟨_, rfl⟩
  rw [hRV] at HV0 ⊢
  obtain ⟨R, hR⟩ : ∃ z, Ft.good ⟨s, k, b, t, u⟩ = z := ⟨_, rfl⟩
  obtain ⟨R2, hR2⟩ : ∃ z, vgood x y = z := ⟨_, rfl⟩
  rw [hR, hR2] at HV0
  rw [hR] at HSI HG
  rw [hR2] at HQ
  simp only [hR, hR2] at HIR
  clear hRV hR hR2
  go_enter Try.func14, Try.ntmps14
  go_upto_region 1 with (fail)
  generalize ((w.alloc (.cells #[.int .i64 s, .int .i64 k, .int .i64 b, .int .i64 t, .int .i64 u] 29)).alloc (.cells #[.int .i64 x, .int .i64 y] 25)).alloc (.cells #[.int .i64 0, .int .i64 0] 25) = W1 at *
  obtain ⟨c0, c1, c2, c3, c4⟩ := HF.out.f.cs
  have v0 := HF.out.v.c0
  have v1 := HF.out.v.c1
  cases R with
  | false =>
    have HV := Lib.hid (show RV = ((0, 0), 2) from HV0.out)
    clear HSI
    go_wp2_with (go_at_call 18; (with_reducible refine (HG.out _).mono ?_); rintro e9 w9 ⟨rfl, hb9⟩; have HF9 := Lib.hid (HF.out.kept hb9); have o0 := HF9.out.v.c0; have o1 := HF9.out.v.c1; have d0 := HF9.out.z.c0; have d1 := HF9.out.z.c1; have z0 := HF9.out.z.fz 0; have z1 := HF9.out.z.fz 1; clear hb9)
    refine bodyPost_ret (res_cell_tmp rfl _ _ (w.heap.size + 2) 25 _ (0, 0) _ _ rfl rfl (HF9.out.fillz 0 0) Try.underlying25 rfl (size2 _ _)) rfl ⟨?_, HF9.out.belz 0 0⟩
    rw [HV.out]; rfl
  | true =>
    cases R2 with
    | false =>
      have HV := Lib.hid (show RV = ((0, 0), 2) from HV0.out)
      clear HSI
      go_wp2_with (first | (go_at_call 18; (with_reducible refine (HG.out _).mono ?_); rintro e9 w9 ⟨rfl, hb9⟩; have HF9 := Lib.hid (HF.out.kept hb9); have o0 := HF9.out.v.c0; have o1 := HF9.out.v.c1;  clear hb9) | (go_at_call 35; (with_reducible refine (HQ.out _).mono ?_); rintro e10 w10 ⟨rfl, hb10⟩; have HF10 := Lib.hid (HF9.out.kept hb10); have d0 := HF10.out.z.c0; have d1 := HF10.out.z.c1; have z0 := HF10.out.z.fz 0; have z1 := HF10.out.z.fz 1; clear hb10))
      refine bodyPost_ret (res_cell_tmp rfl _ _ (w.heap.size + 2) 25 _ (0, 0) _ _ rfl rfl (HF10.out.fillz 0 0) Try.underlying25 rfl (size2 _ _)) rfl ⟨?_, HF10.out.belz 0 0⟩
      rw [HV.out]; rfl
    | true =>
      have hs := HSI.out (by first | rfl | trivial)
      clear HSI
      rcases hs with rfl | rfl
      · have HV := Lib.hid (show RV = ((b, y), 0) from HV0.out)
        go_upto_region 3 with (first | (go_at_call 18; (with_reducible refine (HG.out _).mono ?_); rintro e9 w9 ⟨rfl, hb9⟩; have HF9 := Lib.hid (HF.out.kept hb9); have o0 := HF9.out.v.c0; have o1 := HF9.out.v.c1;  clear hb9) | (go_at_call 35; (with_reducible refine (HQ.out _).mono ?_); rintro e10 w10 ⟨rfl, hb10⟩; have HF10 := Lib.hid (HF9.out.kept hb10);  clear hb10))
        clear c0 c1 c2 c3 c4 v0 v1 o0 o1 HF HF9
        obtain ⟨c0, c1, c2, c3, c4⟩ := HF10.out.f.cs
        have v0 := HF10.out.v.c0
        have v1 := HF10.out.v.c1
        have y0 := HF10.out.v.fz 0
        have y1 := HF10.out.v.fz 1
        go_upto_region 4 with (fail)
        have HF11 := Lib.hid (HF10.out.setv0 b)
        clear c0 c1 c2 c3 c4 v0 v1 y0 y1 HF10
        generalize w10.setCell ⟨w.heap.size + 1, 0, none⟩ (.int .i64 b) = W11 at *
        have v0 := HF11.out.v.c0
        have v1 := HF11.out.v.c1
        obtain d0 := HF11.out.z.c0
        obtain d1 := HF11.out.z.c1
        have z0 := HF11.out.z.fz 0
        have z1 := HF11.out.z.fz 1
        go_wp2
        refine bodyPost_ret (res_cell_tmp rfl _ _ (w.heap.size + 2) 25 _ (0, 0) _ _ rfl rfl (HF11.out.fillz b y) Try.underlying25 rfl (size2 _ _)) rfl ⟨?_, HF11.out.belz b y⟩
        rw [HV.out]; rfl
      · have HV := Lib.hid (show RV = ((x, b), 0) from HV0.out)
        go_upto_region 3 with (first | (go_at_call 18; (with_reducible refine (HG.out _).mono ?_); rintro e9 w9 ⟨rfl, hb9⟩; have HF9 := Lib.hid (HF.out.kept hb9); have o0 := HF9.out.v.c0; have o1 := HF9.out.v.c1;  clear hb9) | (go_at_call 35; (with_reducible refine (HQ.out _).mono ?_); rintro e10 w10 ⟨rfl, hb10⟩; have HF10 := Lib.hid (HF9.out.kept hb10);  clear hb10))
        clear c0 c1 c2 c3 c4 v0 v1 o0 o1 HF HF9
        obtain ⟨c0, c1, c2, c3, c4⟩ := HF10.out.f.cs
        have v0 := HF10.out.v.c0
        have v1 := HF10.out.v.c1
        have y0 := HF10.out.v.fz 0
        have y1 := HF10.out.v.fz 1
        go_upto_region 4 with (fail)
        have HF11 := Lib.hid (HF10.out.setv1 b)
        clear c0 c1 c2 c3 c4 v0 v1 y0 y1 HF10
        generalize w10.setCell ⟨w.heap.size + 1, 1, none⟩ (.int .i64 b) = W11 at *
        have v0 := HF11.out.v.c0
        have v1 := HF11.out.v.c1
        obtain d0 := HF11.out.z.c0
        obtain d1 := HF11.out.z.c1
        have z0 := HF11.out.z.fz 0
        have z1 := HF11.out.z.fz 1
        go_wp2
        refine bodyPost_ret (res_cell_tmp rfl _ _ (w.heap.size + 2) 25 _ (0, 0) _ _ rfl rfl (HF11.out.fillz x b) Try.underlying25 rfl (size2 _ _)) rfl ⟨?_, HF11.out.belz x b⟩
        rw [HV.out]; rfl
theorem newF_good (s : Int) : Ft.good ⟨s, 0, 0, 0, 0⟩ = decide (s = 1 ∨ s = 2) := by
  unfold Ft.good
  simp [seqS]
section
variable {W : World} {g : Nat} {ty : TypeId} {s k b t u : Int}
theorem Fb.fill (h : Fb W g ty s k b t u) (n0 n1 n2 n3 n4 : Int) : Fb (((((W.setCell ⟨g, 0, none⟩ (.int .i64 n0)).setCell ⟨g, 1, none⟩ (.int .i64 n1)).setCell ⟨g, 2, none⟩ (.int .i64 n2)).setCell ⟨g, 3, none⟩ (.int .i64 n3)).setCell ⟨g, 4, none⟩ (.int .i64 n4)) g ty n0 n1 n2 n3 n4 := ((((h.set0 n0).set1 n1).set2 n2).set3 n3).set4 n4
end
theorem bel5 {w W : World} {B g : Nat} (h : Below B w W) (hg : B ≤ g) (n0 n1 n2 n3 n4 : Value) : Below B w (((((W.setCell ⟨g, 0, none⟩ n0).setCell ⟨g, 1, none⟩ n1).setCell ⟨g, 2, none⟩ n2).setCell ⟨g, 3, none⟩ n3).setCell ⟨g, 4, none⟩ n4) := ((((h.setCell (p := ⟨g, 0, none⟩) hg _).setCell (p := ⟨g, 1, none⟩) hg _).setCell (p := ⟨g, 2, none⟩) hg _).setCell (p := ⟨g, 3, none⟩) hg _).setCell (p := ⟨g, 4, none⟩) hg _
set_option maxHeartbeats 3200000 in
theorem fnew_c (s : Int) (w : World) : Calls Try.prog 15 #[.int .i64 s] w (Tells (ftR (newF s)) w) := by
  have h1 := Fb.new w 23 0 0 0 0 0
  have b1 := alloc_below w (.cells #[.int .i64 0, .int .i64 0, .int .i64 0, .int .i64 0, .int .i64 0] 23)
  have s1 := World.size_alloc w (.cells #[.int .i64 0, .int .i64 0, .int .i64 0, .int .i64 0, .int .i64 0] 23)
  have h2 := Fb.new (w.alloc (.cells #[.int .i64 0, .int .i64 0, .int .i64 0, .int .i64 0, .int .i64 0] 23)) 23 s 0 0 0 0
  have b2 := alloc_below (w.alloc (.cells #[.int .i64 0, .int .i64 0, .int .i64 0, .int .i64 0, .int .i64 0] 23)) (.cells #[.int .i64 s, .int .i64 0, .int .i64 0, .int .i64 0, .int .i64 0] 23)
  rw [s1] at h2
  have HZ := Lib.hid (h1.kept b2)
  have HI := Lib.hid h2
  have HB := Lib.hid (b1.trans (b2.mono b1.size))
  have HG := Lib.hid (fgood_c s 0 0 0 0)
  clear h1 b1 s1 h2 b2
  rw [newF_good] at HG
  by_cases hs : s = 1 ∨ s = 2
  · have HV := Lib.hid (show newF s = (⟨s, 0, 0, 0, 0⟩, 0) from if_pos hs)
    rw [decide_eq_true hs] at HG
    clear hs
    go_enter Try.func15, Try.ntmps15
    go_upto_region 2 with (fail)
    generalize (w.alloc (.cells #[.int .i64 0, .int .i64 0, .int .i64 0, .int .i64 0, .int .i64 0] 23)).alloc (.cells #[.int .i64 s, .int .i64 0, .int .i64 0, .int .i64 0, .int .i64 0] 23) = W1 at *
    obtain ⟨c0, c1, c2, c3, c4⟩ := HI.out.cs
    go_wp2_with (go_at_call 17; (with_reducible refine (HG.out _).mono ?_); rintro e9 w9 ⟨rfl, hb9⟩; obtain ⟨d0, d1, d2, d3, d4⟩ := (HZ.out.kept hb9).cs; obtain ⟨e0, e1, e2, e3, e4⟩ := (HI.out.kept hb9).cs; have z0 := (HZ.out.kept hb9).fz 0; have z1 := (HZ.out.kept hb9).fz 1; have z2 := (HZ.out.kept hb9).fz 2; have z3 := (HZ.out.kept hb9).fz 3; have z4 := (HZ.out.kept hb9).fz 4; have HB9 := Lib.hid (HB.out.trans (hb9.mono HB.out.size)); have HZ9 := Lib.hid (HZ.out.kept hb9); clear hb9)
    refine bodyPost_ret (res_cell_tmp rfl _ _ w.heap.size 23 _ (0, 0) _ _ rfl rfl (HZ9.out.fill s 0 0 0 0) Try.underlying23 rfl (by kernel_rfl)) rfl ⟨?_, bel5 HB9.out (Nat.le_refl _) _ _ _ _ _⟩
    rw [HV.out]; rfl
  · have HV := Lib.hid (show newF s = (Ft.zero, 2) from if_neg hs)
    rw [decide_eq_false hs] at HG
    clear hs
    go_enter Try.func15, Try.ntmps15
    go_upto_region 2 with (fail)
    generalize (w.alloc (.cells #[.int .i64 0, .int .i64 0, .int .i64 0, .int .i64 0, .int .i64 0] 23)).alloc (.cells #[.int .i64 s, .int .i64 0, .int .i64 0, .int .i64 0, .int .i64 0] 23) = W1 at *
    obtain ⟨c0, c1, c2, c3, c4⟩ := HI.out.cs
    go_wp2_with (go_at_call 17; (with_reducible refine (HG.out _).mono ?_); rintro e9 w9 ⟨rfl, hb9⟩; obtain ⟨d0, d1, d2, d3, d4⟩ := (HZ.out.kept hb9).cs; have z0 := (HZ.out.kept hb9).fz 0; have z1 := (HZ.out.kept hb9).fz 1; have z2 := (HZ.out.kept hb9).fz 2; have z3 := (HZ.out.kept hb9).fz 3; have z4 := (HZ.out.kept hb9).fz 4; have HB9 := Lib.hid (HB.out.trans (hb9.mono HB.out.size)); have HZ9 := Lib.hid (HZ.out.kept hb9); clear hb9)
    refine bodyPost_ret (res_cell_tmp rfl _ _ w.heap.size 23 _ (0, 0) _ _ rfl rfl (HZ9.out.fill 0 0 0 0 0) Try.underlying23 rfl (by kernel_rfl)) rfl ⟨?_, bel5 HB9.out (Nat.le_refl _) _ _ _ _ _⟩
    rw [HV.out]; rfl
end Go.Proofs.Ytdjhiaogpgaboaa
end

section
namespace Go.Proofs.Ytdjhiaogpgaboaa
open Go.RowKit Go Go.Sort
set_option linter.unusedVariables false
set_option maxRecDepth 20000

set_option maxHeartbeats 800000 in
theorem rfnew_c (s : Int) (w : World) : Calls Try.prog 16 #[.int .i64 s] w (Tells (ftR (newF s)) w) := by
  have HZ := Lib.hid (Fb.new w 29 0 0 0 0 0)
  have HB := Lib.hid (alloc_below w (.cells #[.int .i64 0, .int .i64 0, .int .i64 0, .int .i64 0, .int .i64 0] 29))
  by_cases hs : s = 1 ∨ s = 2
  · have HV := Lib.hid (show newF s = (⟨s, 0, 0, 0, 0⟩, 0) from if_pos hs)
    rcases hs with rfl | rfl
    · go_enter Try.func16, Try.ntmps16
      go_upto_region 3 with (fail)
      generalize w.alloc (.cells #[.int .i64 0, .int .i64 0, .int .i64 0, .int .i64 0, .int .i64 0] 29) = W1 at *
      obtain ⟨d0, d1, d2, d3, d4⟩ := HZ.out.cs
      have z0 := HZ.out.fz 0
      have z1 := HZ.out.fz 1
      have z2 := HZ.out.fz 2
      have z3 := HZ.out.fz 3
      have z4 := HZ.out.fz 4
      go_wp2
      refine bodyPost_ret (res_cell_tmp rfl _ _ w.heap.size 29 _ (0, 0) _ _ rfl rfl (HZ.out.fill 1 0 0 0 0) Try.underlying29 rfl (by kernel_rfl)) rfl ⟨?_, bel5 HB.out (Nat.le_refl _) _ _ _ _ _⟩
      rw [HV.out]; rfl
    · go_enter Try.func16, Try.ntmps16
      go_upto_region 3 with (fail)
      generalize w.alloc (.cells #[.int .i64 0, .int .i64 0, .int .i64 0, .int .i64 0, .int .i64 0] 29) = W1 at *
      obtain ⟨d0, d1, d2, d3, d4⟩ := HZ.out.cs
      have z0 := HZ.out.fz 0
      have z1 := HZ.out.fz 1
      have z2 := HZ.out.fz 2
      have z3 := HZ.out.fz 3
      have z4 := HZ.out.fz 4
      go_wp2
      refine bodyPost_ret (res_cell_tmp rfl _ _ w.heap.size 29 _ (0, 0) _ _ rfl rfl (HZ.out.fill 2 0 0 0 0) Try.underlying29 rfl (by kernel_rfl)) rfl ⟨?_, bel5 HB.out (Nat.le_refl _) _ _ _ _ _⟩
      rw [HV.out]; rfl
  · have HV := Lib.hid (show newF s = (Ft.zero, 2) from if_neg hs)
    have h1 : (s != 1) = true := by simp; omega
    have h2 : (s != 2) = true := by simp; omega
    clear hs
    go_enter Try.func16, Try.ntmps16
    go_upto_region 2 with (fail)
    generalize w.alloc (.cells #[.int .i64 0, .int .i64 0, .int .i64 0, .int .i64 0, .int .i64 0] 29) = W1 at *
    obtain ⟨d0, d1, d2, d3, d4⟩ := HZ.out.cs
    have z0 := HZ.out.fz 0
    have z1 := HZ.out.fz 1
    have z2 := HZ.out.fz 2
    have z3 := HZ.out.fz 3
    have z4 := HZ.out.fz 4
    go_wp2
    refine bodyPost_ret (res_cell_tmp rfl _ _ w.heap.size 29 _ (0, 0) _ _ rfl rfl (HZ.out.fill 0 0 0 0 0) Try.underlying29 rfl (by kernel_rfl)) rfl ⟨?_, bel5 HB.out (Nat.le_refl _) _ _ _ _ _⟩
    rw [HV.out]; rfl
set_option maxHeartbeats 1600000 in
theorem fof_c (s k b t u : Int) (w : World) : Calls Try.prog 10 #[.agg #[.int .i64 s, .int .i64 k, .int .i64 b, .int .i64 t, .int .i64 u]] w (Tells (.agg #[.int .i64 s, .int .i64 k, .int .i64 b, .int .i64 t, .int .i64 u]) w) := by
  have hr := Fb.new w 23 s k b t u
  have b1 := alloc_below w (.cells #[.int .i64 s, .int .i64 k, .int .i64 b, .int .i64 t, .int .i64 u] 23)
  have s1 := World.size_alloc w (.cells #[.int .i64 s, .int .i64 k, .int .i64 b, .int .i64 t, .int .i64 u] 23)
  have h2 := Fb.new (w.alloc (.cells #[.int .i64 s, .int .i64 k, .int .i64 b, .int .i64 t, .int .i64 u] 23)) 29 0 0 0 0 0
  have b2 := alloc_below (w.alloc (.cells #[.int .i64 s, .int .i64 k, .int .i64 b, .int .i64 t, .int .i64 u] 23)) (.cells #[.int .i64 0, .int .i64 0, .int .i64 0, .int .i64 0, .int .i64 0] 29)
  rw [s1] at h2
  have HB := Lib.hid (b1.trans (b2.mono b1.size))
  have HR := Lib.hid (hr.kept b2)
  have HZ := Lib.hid h2
  clear hr b1 s1 h2 b2
  go_enter Try.func10, Try.ntmps10
  go_upto_region 1 with (fail)
  generalize (w.alloc (.cells #[.int .i64 s, .int .i64 k, .int .i64 b, .int .i64 t, .int .i64 u] 23)).alloc (.cells #[.int .i64 0, .int .i64 0, .int .i64 0, .int .i64 0, .int .i64 0] 29) = W3 at *
  obtain ⟨c0, c1, c2, c3, c4⟩ := HR.out.cs
  have z0 := HZ.out.fz 0
  have z1 := HZ.out.fz 1
  have z2 := HZ.out.fz 2
  have z3 := HZ.out.fz 3
  have z4 := HZ.out.fz 4
  obtain ⟨d0, d1, d2, d3, d4⟩ := HZ.out.cs
  go_wp2
  exact bodyPost_ret (res_cell_tmp1 rfl _ _ (w.heap.size + 1) 29 _ (0, 0) _ rfl (HZ.out.fill s k b t u) Try.underlying29 rfl (by kernel_rfl)) rfl ⟨rfl, bel5 HB.out (by omega) _ _ _ _ _⟩
end Go.Proofs.Ytdjhiaogpgaboaa
end

section
namespace Go.Proofs.Ytdjhiaogpgaboaa
open Go.RowKit Go Go.Sort Go.Deep
set_option linter.unusedVariables false
set_option maxRecDepth 20000

theorem trod_front {H : Type} {enc : TypeId × Value → H} {W : World} {fuel : Nat} {cs : List Value} {x : DataW H × List MemPlace} (h : DataW.trod enc Try.prog W 0 (fun _ => true) true fuel 23 cs = some x) :
    ∃ q0 q1 q2 q3 q4 : Int, cs = [.int .i64 q0, .int .i64 q1, .int .i64 q2, .int .i64 q3, .int .i64 q4] := by
  obtain ⟨xs, m, _, rfl, hl, hlen, hf⟩ := DataW.trod_struct Try.underlying23 h
  have h4 : Try.prog.cellsOf 23 = 5 := by kernel_rfl
  have h1 : Try.prog.cellsOf 3 = 1 := by kernel_rfl
  rw [h4] at hl
  match xs, hlen with
  | [y0, y1, y2, y3, y4], _ =>
    have i0 := hf 0 _ rfl
    have i1 := hf 1 _ rfl
    have i2 := hf 2 _ rfl
    have i3 := hf 3 _ rfl
    have i4 := hf 4 _ rfl
    match cs, hl with
    | [c0, c1, c2, c3, c4], _ =>
      have j0 : DataW.trod enc Try.prog W 0 (fun _ => true) true m 3 (([c0, c1, c2, c3, c4].drop 0).take (Try.prog.cellsOf 3)) = some y0 := i0
      have j1 : DataW.trod enc Try.prog W 0 (fun _ => true) true m 3 (([c0, c1, c2, c3, c4].drop 1).take (Try.prog.cellsOf 3)) = some y1 := i1
      have j2 : DataW.trod enc Try.prog W 0 (fun _ => true) true m 3 (([c0, c1, c2, c3, c4].drop 2).take (Try.prog.cellsOf 3)) = some y2 := i2
      have j3 : DataW.trod enc Try.prog W 0 (fun _ => true) true m 3 (([c0, c1, c2, c3, c4].drop 3).take (Try.prog.cellsOf 3)) = some y3 := i3
      have j4 : DataW.trod enc Try.prog W 0 (fun _ => true) true m 3 (([c0, c1, c2, c3, c4].drop 4).take (Try.prog.cellsOf 3)) = some y4 := i4
      rw [h1] at j0 j1 j2 j3 j4
      obtain ⟨a0, ha0, _, -⟩ := DataW.trod_int Try.underlying3 j0
      obtain ⟨a1, ha1, _, -⟩ := DataW.trod_int Try.underlying3 j1
      obtain ⟨a2, ha2, _, -⟩ := DataW.trod_int Try.underlying3 j2
      obtain ⟨a3, ha3, _, -⟩ := DataW.trod_int Try.underlying3 j3
      obtain ⟨a4, ha4, _, -⟩ := DataW.trod_int Try.underlying3 j4
      simp at ha0 ha1 ha2 ha3 ha4
      subst ha0
      subst ha1
      subst ha2
      subst ha3
      subst ha4
      exact ⟨a0, a1, a2, a3, a4, rfl⟩
theorem open_front {H : Type} {enc : TypeId × Value → H} {W : World} {base : Nat} {v : Value} {d : DataW H} {p : List MemPlace} (hv : Value.okWide Try.prog W .any base 23 v)
    (h : DataW.Trod enc Try.prog W 0 (fun _ => true) true 23 v d p) : ∃ q0 q1 q2 q3 q4 : Int, v = .agg #[.int .i64 q0, .int .i64 q1, .int .i64 q2, .int .i64 q3, .int .i64 q4] := by
  simp only [Value.okWide, Try.underlying23] at hv
  obtain ⟨cs, rfl, hs, _⟩ := hv
  obtain ⟨m, hm⟩ := h
  obtain ⟨q0, q1, q2, q3, q4, hc⟩ := trod_front hm
  refine ⟨q0, q1, q2, q3, q4, ?_⟩
  congr 1
  apply Array.toList_inj.1
  exact hc
theorem cells_ar2 {H : Type} {enc : TypeId × Value → H} {W : World} {base : Nat} {sp : Nat → Bool} {held : Bool} {fuel : Nat} {cs : List Value} {x : DataW H × List MemPlace} (h : DataW.trod enc Try.prog W base sp held fuel 24 cs = some x) :
    ∃ a b : Int, cs = [.int .i64 a, .int .i64 b] := by
  obtain ⟨xs, m, rfl, rfl, hl, hx, hi⟩ := DataW.trod_array Try.underlying24 h
  have h2 : Try.prog.cellsOf 24 = 2 := by kernel_rfl
  have h1 : Try.prog.cellsOf 3 = 1 := by kernel_rfl
  rw [h2] at hl
  rw [h1] at hi
  match cs, hl with
  | [c0, c1], _ =>
    have i0 := hi 0 (by omega)
    have i1 := hi 1 (by omega)
    rw [List.getElem?_eq_getElem (by omega)] at i0 i1
    obtain ⟨a, ha, _, wa⟩ := DataW.trod_int Try.underlying3 i0
    obtain ⟨b, hb, _, wb⟩ := DataW.trod_int Try.underlying3 i1
    simp at ha hb
    subst ha
    subst hb
    exact ⟨a, b, rfl⟩
theorem open_ar2 {H : Type} {enc : TypeId × Value → H} {W : World} {base : Nat} {v : Value} {d : DataW H} {p : List MemPlace} (hv : Value.okWide Try.prog W .any base 24 v)
    (h : DataW.Trod enc Try.prog W 0 (fun _ => true) true 24 v d p) : ∃ a b : Int, v = .agg #[.int .i64 a, .int .i64 b] := by
  simp only [Value.okWide, Try.underlying24] at hv
  obtain ⟨cs, rfl, hs, _⟩ := hv
  obtain ⟨m, hm⟩ := h
  obtain ⟨a, b, hc⟩ := cells_ar2 hm
  refine ⟨a, b, ?_⟩
  congr 1
  apply Array.toList_inj.1
  exact hc
theorem cells_veF {H : Type} {enc : TypeId × Value → H} {W : World} {base : Nat} {sp : Nat → Bool} {held : Bool} {fuel : Nat} {cs : List Value} {x : DataW H × List MemPlace} (h : DataW.trod enc Try.prog W base sp held fuel 25 cs = some x) :
    ∃ a b : Int, cs = [.int .i64 a, .int .i64 b] := by
  obtain ⟨xs, m, rfl, rfl, hl, hx, hi⟩ := DataW.trod_array Try.underlying25 h
  have h2 : Try.prog.cellsOf 25 = 2 := by kernel_rfl
  have h1 : Try.prog.cellsOf 3 = 1 := by kernel_rfl
  rw [h2] at hl
  rw [h1] at hi
  match cs, hl with
  | [c0, c1], _ =>
    have i0 := hi 0 (by omega)
    have i1 := hi 1 (by omega)
    rw [List.getElem?_eq_getElem (by omega)] at i0 i1
    obtain ⟨a, ha, _, wa⟩ := DataW.trod_int Try.underlying3 i0
    obtain ⟨b, hb, _, wb⟩ := DataW.trod_int Try.underlying3 i1
    simp at ha hb
    subst ha
    subst hb
    exact ⟨a, b, rfl⟩
theorem open_veF {H : Type} {enc : TypeId × Value → H} {W : World} {base : Nat} {v : Value} {d : DataW H} {p : List MemPlace} (hv : Value.okWide Try.prog W .any base 25 v)
    (h : DataW.Trod enc Try.prog W 0 (fun _ => true) true 25 v d p) : ∃ a b : Int, v = .agg #[.int .i64 a, .int .i64 b] := by
  simp only [Value.okWide, Try.underlying25] at hv
  obtain ⟨cs, rfl, hs, _⟩ := hv
  obtain ⟨m, hm⟩ := h
  obtain ⟨a, b, hc⟩ := cells_veF hm
  refine ⟨a, b, ?_⟩
  congr 1
  apply Array.toList_inj.1
  exact hc
/-- Something that is told: ack, own, and what comes. -/
structure Tl where
  a : Int
  o : Int
  c : Int
def Tl.zero : Tl := ⟨0, 0, 0⟩
structure Tls (w : World) (a : Option Addr) (n cap : Nat) (l : List Tl) : Prop where
  len : l.length = n
  le : n ≤ cap
  max : cap ≤ 9223372036854775807
  adr : cap = 0 ∨ ∃ b off, a = some ⟨b, off, none⟩ ∧ ∀ i, i < n → w.cell? ⟨b, off + i * 3, none⟩ = some (.int .i64 (l.getD i Tl.zero).a) ∧ w.cell? ⟨b, off + i * 3 + 1, none⟩ = some (.int .i64 (l.getD i Tl.zero).o) ∧ w.cell? ⟨b, off + i * 3 + 2, none⟩ = some (.int .i64 (l.getD i Tl.zero).c)
theorem Tls.at {w : World} {a : Option Addr} {n cap : Nat} {l : List Tl} (h : Tls w a n cap l) {k : Nat} (hk : k < n) : ∃ b off, a = some ⟨b, off, none⟩ ∧ ∀ W, Below w.heap.size w W → W.cell? ⟨b, off + k * 3, none⟩ = some (.int .i64 (l.getD k Tl.zero).a) ∧ W.cell? ⟨b, off + k * 3 + 1, none⟩ = some (.int .i64 (l.getD k Tl.zero).o) ∧ W.cell? ⟨b, off + k * 3 + 2, none⟩ = some (.int .i64 (l.getD k Tl.zero).c) := by
  have := h.le
  rcases h.adr with h4 | ⟨b, off, rfl, hc⟩
  · omega
  · obtain ⟨h0, h1, h2⟩ := hc k hk
    exact ⟨b, off, rfl, fun W hb => ⟨(hb.cell (World.block_lt_of_cell? w _ h0)).trans h0, (hb.cell (World.block_lt_of_cell? w _ h1)).trans h1, (hb.cell (World.block_lt_of_cell? w _ h2)).trans h2⟩⟩
theorem trod_told {H : Type} {enc : TypeId × Value → H} {W : World} {fuel : Nat} {cs : List Value} {x : DataW H × List MemPlace} (h : DataW.trod enc Try.prog W 0 (fun _ => true) true fuel 76 cs = some x) :
    ∃ q0 q1 q2 : Int, cs = [.int .i64 q0, .int .i64 q1, .int .i64 q2] := by
  obtain ⟨xs, m, _, rfl, hl, hlen, hf⟩ := DataW.trod_struct Try.underlying76 h
  have h4 : Try.prog.cellsOf 76 = 3 := by kernel_rfl
  have h1 : Try.prog.cellsOf 3 = 1 := by kernel_rfl
  rw [h4] at hl
  match xs, hlen with
  | [y0, y1, y2], _ =>
    have i0 := hf 0 _ rfl
    have i1 := hf 1 _ rfl
    have i2 := hf 2 _ rfl
    match cs, hl with
    | [c0, c1, c2], _ =>
      have j0 : DataW.trod enc Try.prog W 0 (fun _ => true) true m 3 (([c0, c1, c2].drop 0).take (Try.prog.cellsOf 3)) = some y0 := i0
      have j1 : DataW.trod enc Try.prog W 0 (fun _ => true) true m 3 (([c0, c1, c2].drop 1).take (Try.prog.cellsOf 3)) = some y1 := i1
      have j2 : DataW.trod enc Try.prog W 0 (fun _ => true) true m 3 (([c0, c1, c2].drop 2).take (Try.prog.cellsOf 3)) = some y2 := i2
      rw [h1] at j0 j1 j2
      obtain ⟨a0, ha0, _, -⟩ := DataW.trod_int Try.underlying3 j0
      obtain ⟨a1, ha1, _, -⟩ := DataW.trod_int Try.underlying3 j1
      obtain ⟨a2, ha2, _, -⟩ := DataW.trod_int Try.underlying3 j2
      simp at ha0 ha1 ha2
      subst ha0
      subst ha1
      subst ha2
      exact ⟨a0, a1, a2, rfl⟩
theorem open_tls {H : Type} {enc : TypeId × Value → H} {W : World} {a : Option Addr} {len cap : Nat} {d : DataW H} {p : List MemPlace} (h : DataW.Trod enc Try.prog W 0 (fun _ => true) true 73 (.slice a len cap) d p) :
    ∃ l, Tls W a len cap l := by
  have hc : Try.prog.cellsOf 76 = 3 := by kernel_rfl
  obtain ⟨fuel, hf⟩ := h
  rcases open_slice Try.underlying73 hf with ⟨hcs, hx⟩ | ⟨x, l, c, m, n, D, Pl, hcs, _, hl, hm, hmm, hx, hcell⟩
  · simp [Value.cells] at hcs
    obtain ⟨rfl, rfl, rfl⟩ := hcs
    exact ⟨[], ⟨rfl, Nat.le_refl _, by omega, .inl rfl⟩⟩
  · simp [Value.cells] at hcs
    obtain ⟨rfl, rfl, rfl⟩ := hcs
    simp only [if_true] at hmm
    subst hmm
    rw [hc] at hcell
    have key : ∀ i, i < m → ∃ q : Tl, W.cell? (x.add (i * 3)) = some (.int .i64 q.a) ∧ W.cell? ((x.add (i * 3)).add 1) = some (.int .i64 q.o) ∧ W.cell? ((x.add (i * 3)).add 2) = some (.int .i64 q.c) := by
      intro i hi
      obtain ⟨cs', h1, h2⟩ := hcell i hi
      obtain ⟨_, _, h3⟩ := World.cells?_some h1
      obtain ⟨q0, q1, q2, rfl⟩ := trod_told h2
      have k0 := h3 0 (by omega)
      have k1 := h3 1 (by omega)
      have k2 := h3 2 (by omega)
      refine ⟨⟨q0, q1, q2⟩, ?_, ?_, ?_⟩
      · simpa [Addr.add] using k0
      · simpa using k1
      · simpa using k2
    haveI : Inhabited Tl := ⟨Tl.zero⟩
    obtain ⟨V, hV⟩ := choose_lt (α := Tl) (p := fun i q => W.cell? (x.add (i * 3)) = some (.int .i64 q.a) ∧ W.cell? ((x.add (i * 3)).add 1) = some (.int .i64 q.o) ∧ W.cell? ((x.add (i * 3)).add 2) = some (.int .i64 q.c)) key
    have hgd : ∀ i, i < len → ((List.range len).map V).getD i Tl.zero = V i := fun i hi => by simp [List.getD, hi]
    refine ⟨(List.range len).map V, ⟨by simp, hl, by unfold maxLen at hm; omega, ?_⟩⟩
    by_cases hz : m = 0
    · exact .inl hz
    · right
      obtain ⟨b, off, spot⟩ := x
      have h0 := (hV 0 (by omega)).1
      have hspot : spot = none := by simpa [Addr.add] using World.cell?_spot h0
      subst hspot
      refine ⟨b, off, rfl, fun i hi => ?_⟩
      rw [hgd i hi]
      obtain ⟨q1, q2, q3⟩ := hV i (by omega)
      have e1 : (⟨b, off, none⟩ : Addr).add (i * 3) = ⟨b, off + i * 3, none⟩ := by
        by_cases h0 : i * 3 = 0
        · rw [h0]; rfl
        · simp [Addr.add, h0]
      rw [e1] at q1 q2 q3
      exact ⟨q1, q2, q3⟩
end Go.Proofs.Ytdjhiaogpgaboaa
end

section
namespace Go.Proofs.Ytdjhiaogpgaboaa
open Go.RowKit Go Go.Sort
set_option linter.unusedVariables false

theorem umodF (z M : Int) (h0 : 0 < M) (h1 : M ≤ 4611686018427387904) : ∃ q : Int, wrap64 ((IntKind.u64.wrap z).tmod M) = q ∧ 0 ≤ q ∧ q < M := by
  have e : IntKind.u64.wrap z = z % 18446744073709551616 := by simp [IntKind.wrap, IntKind.signed, IntKind.bits]
  rw [e]
  have h2 : 0 ≤ z % 18446744073709551616 := Int.emod_nonneg _ (by decide)
  rw [Int.tmod_eq_emod_of_nonneg h2]
  have h3 := Int.emod_nonneg (z % 18446744073709551616) (show M ≠ 0 by omega)
  have h4 := Int.emod_lt_of_pos (z % 18446744073709551616) h0
  refine ⟨_, rfl, ?_⟩
  unfold wrap64
  omega
/-- What was told with an own that has come. -/
def Came (l : List Tl) (n : Nat) (b th : Int) : Prop := ∃ i, i < n ∧ (l.getD i Tl.zero).a = b ∧ 0 ≤ (l.getD i Tl.zero).o ∧ (l.getD i Tl.zero).o ≤ th
/-- A front behind what was told first. -/
structure Grw (l : List Tl) (n : Nat) (f : Ft) (most : Int) : Prop where
  good : f.good = true
  ack : f.k = most
  wait : 0 < f.u → ∃ i, i < n ∧ (l.getD i Tl.zero).a = f.t ∧ (l.getD i Tl.zero).o = f.u
theorem Grw.up {l : List Tl} {n : Nat} {f : Ft} {most : Int} (h : Grw l n f most) : Grw l (n + 1) f most :=
  ⟨h.good, h.ack, fun hu => by obtain ⟨i, hi, e⟩ := h.wait hu; exact ⟨i, by omega, e⟩⟩
/-- Settling: nothing falls, what rises was told with an own that has come. -/
theorem Grw.settled {l : List Tl} {n : Nat} {f : Ft} {most x y : Int} (h : Grw l n f most) (hv : vgood x y = true) :
    Grw l n (f.settled x y) most ∧ f.b ≤ (f.settled x y).b ∧ (f.b < (f.settled x y).b → Came l n (f.settled x y).b (f.theirs x y)) ∧ (f.settled x y).s = f.s := by
  have hg := Ft.settled_good (x := x) (y := y) h.good
  unfold Ft.settled at hg ⊢
  by_cases hc : f.u ≤ f.theirs x y
  · rw [if_pos hc] at hg ⊢
    refine ⟨⟨hg, h.ack, fun hu => by simp at hu⟩, Int.le_max_left _ _, fun hlt => ?_, rfl⟩
    simp only at hlt ⊢
    have hb := Ft.good_iff.1 h.good
    have hm : Max.max f.b f.t = f.t := by omega
    have hu : 0 < f.u := by
      rcases hb.2.2.2.2.2.2.2 with h1 | h1
      · exact h1
      · omega
    obtain ⟨i, hi, e1, e2⟩ := h.wait hu
    rw [hm]
    exact ⟨i, hi, e1, by rw [e2]; omega, by rw [e2]; exact hc⟩
  · rw [if_neg hc] at hg ⊢
    exact ⟨h, Int.le_refl _, fun hlt => absurd hlt (Int.lt_irrefl _), rfl⟩
theorem Grw.learned {l : List Tl} {n : Nat} {f : Ft} {most x y : Int} (h : Grw l n f most) (hv : vgood x y = true) (h0 : 0 ≤ (l.getD n Tl.zero).a) (h1 : (l.getD n Tl.zero).a ≤ f.mine x y) (h2 : seqS (l.getD n Tl.zero).o = true) :
    Grw l (n + 1) (f.learned x y (l.getD n Tl.zero).a (l.getD n Tl.zero).o) (Max.max most (l.getD n Tl.zero).a) ∧ f.b ≤ (f.learned x y (l.getD n Tl.zero).a (l.getD n Tl.zero).o).b ∧
    (f.b < (f.learned x y (l.getD n Tl.zero).a (l.getD n Tl.zero).o).b → Came l (n + 1) (f.learned x y (l.getD n Tl.zero).a (l.getD n Tl.zero).o).b (f.theirs x y)) ∧ (f.learned x y (l.getD n Tl.zero).a (l.getD n Tl.zero).o).s = f.s := by
  have hg := Ft.learned_good (x := x) (y := y) h.good hv h0 h1 h2
  have hs := seqS_iff.1 h2
  have hk := h.ack
  unfold Ft.learned at hg ⊢
  by_cases hc : (l.getD n Tl.zero).o ≤ f.theirs x y
  · rw [if_pos hc] at hg ⊢
    refine ⟨⟨hg, by simp only; rw [hk], fun hu => h.up.wait hu⟩, Int.le_max_left _ _, fun hlt => ?_, rfl⟩
    simp only at hlt ⊢
    have hm : Max.max f.b (l.getD n Tl.zero).a = (l.getD n Tl.zero).a := by omega
    rw [hm]
    exact ⟨n, by omega, rfl, hs.1, hc⟩
  · rw [if_neg hc] at hg ⊢
    by_cases hw : f.u = 0 ∧ f.b < (l.getD n Tl.zero).a
    · rw [if_pos hw] at hg ⊢
      exact ⟨⟨hg, by simp only; rw [hk], fun _ => ⟨n, by omega, rfl, rfl⟩⟩, Int.le_refl _, fun hlt => absurd hlt (Int.lt_irrefl _), rfl⟩
    · rw [if_neg hw] at hg ⊢
      exact ⟨⟨hg, by simp only; rw [hk], fun hu => h.up.wait hu⟩, Int.le_refl _, fun hlt => absurd hlt (Int.lt_irrefl _), rfl⟩
theorem theirs_site {f g : Ft} (h : f.s = g.s) (x y : Int) : f.theirs x y = g.theirs x y := by unfold Ft.theirs; rw [h]
/-- What a tell makes of a front: all that the law asks. -/
theorem Grw.told {l : List Tl} {n : Nat} {f : Ft} {most x y : Int} (h : Grw l n f most) (hv : vgood x y = true) (h0 : 0 ≤ (l.getD n Tl.zero).a) (h1 : (l.getD n Tl.zero).a ≤ f.mine x y) (h2 : seqS (l.getD n Tl.zero).o = true) {g : Ft} {e : Int} (hl : learnS f x y (l.getD n Tl.zero).a (l.getD n Tl.zero).o = (g, e)) :
    e = 0 ∧ Grw l (n + 1) g (Max.max most (l.getD n Tl.zero).a) ∧ f.b ≤ g.b ∧ (f.b < g.b → Came l (n + 1) g.b (f.theirs x y)) ∧ g.s = f.s := by
  obtain ⟨a1, a2, a3, a4⟩ := h.learned hv h0 h1 h2
  obtain ⟨b1, b2, b3, b4⟩ := a1.settled hv
  rw [learn_yes (by rw [h.good, hv]; rfl) h0 h1 h2, settle_yes (by rw [a1.good, hv]; rfl)] at hl
  injection hl with e1 e2
  subst e1 e2
  refine ⟨rfl, b1, by omega, fun hlt => ?_, b4.trans a4⟩
  rw [theirs_site a4] at b3
  by_cases hc : (f.learned x y (l.getD n Tl.zero).a (l.getD n Tl.zero).o).b < ((f.learned x y (l.getD n Tl.zero).a (l.getD n Tl.zero).o).settled x y).b
  · exact b3 hc
  · have he : ((f.learned x y (l.getD n Tl.zero).a (l.getD n Tl.zero).o).settled x y).b = (f.learned x y (l.getD n Tl.zero).a (l.getD n Tl.zero).o).b := by omega
    rw [he] at hlt ⊢
    exact a3 hlt
theorem Grw.rest {l : List Tl} {n : Nat} {f : Ft} {most x y : Int} (h : Grw l n f most) (hv : vgood x y = true) {g : Ft} {e : Int} (hl : settleS f x y = (g, e)) :
    e = 0 ∧ Grw l (n + 1) g most ∧ f.b ≤ g.b ∧ (f.b < g.b → Came l (n + 1) g.b (f.theirs x y)) ∧ g.s = f.s := by
  obtain ⟨b1, b2, b3, b4⟩ := h.settled hv
  rw [settle_yes (by rw [h.good, hv]; rfl)] at hl
  injection hl with e1 e2
  subst e1 e2
  exact ⟨rfl, b1.up, b2, fun hlt => by obtain ⟨i, hi, e⟩ := b3 hlt; exact ⟨i, by omega, e⟩, b4⟩
/-- What the law looks for among what was told. -/
def hitN (l : List Tl) (b th : Int) : Nat → Bool
  | 0 => false
  | n + 1 => hitN l b th n || (((l.getD n Tl.zero).a == b) && (decide (0 ≤ (l.getD n Tl.zero).o) && decide ((l.getD n Tl.zero).o ≤ th)))
theorem hit_of {l : List Tl} {b th : Int} : ∀ {n i}, i < n → (l.getD i Tl.zero).a = b → 0 ≤ (l.getD i Tl.zero).o → (l.getD i Tl.zero).o ≤ th → hitN l b th n = true
  | 0, i, hi, _, _, _ => by omega
  | n + 1, i, hi, h1, h2, h3 => by
    unfold hitN
    by_cases e : i = n
    · subst e
      rw [decide_eq_true h2, decide_eq_true h3, h1, beq_self_eq_true]
      simp
    · rw [hit_of (n := n) (by omega) h1 h2 h3]; rfl
theorem hit_came {l : List Tl} {b th : Int} {n : Nat} (h : Came l n b th) : hitN l b th n = true := by
  obtain ⟨i, hi, h1, h2, h3⟩ := h
  exact hit_of hi h1 h2 h3
end Go.Proofs.Ytdjhiaogpgaboaa
end

section
namespace Go.Proofs.Ytdjhiaogpgaboaa
open Go.RowKit Go Go.Sort
set_option linter.unusedVariables false
set_option maxRecDepth 20000

/-- A list that lies in memory: 'arr' tells the cells of an element, sz of them. -/
structure Ls {α : Type} (sz : Nat) (arr : α → Array Value) (z : α) (w : World) (a : Option Addr) (n cap : Nat) (l : List α) : Prop where
  len : l.length = n
  le : n ≤ cap
  max : cap ≤ 9223372036854775807
  adr : cap = 0 ∨ ∃ b off, a = some ⟨b, off, none⟩ ∧ ∀ i, i < n → ∀ j v, (arr (l.getD i z))[j]? = some v → w.cell? ⟨b, off + i * sz + j, none⟩ = some v
section
variable {α : Type} {sz : Nat} {arr : α → Array Value} {z : α}
theorem Ls.below {w w' : World} {a : Option Addr} {n cap : Nat} {l : List α} (h : Ls sz arr z w a n cap l) (hb : Below w.heap.size w w') : Ls sz arr z w' a n cap l := by
  refine ⟨h.len, h.le, h.max, ?_⟩
  rcases h.adr with h4 | ⟨b, off, rfl, hc⟩
  · exact .inl h4
  · exact .inr ⟨b, off, rfl, fun i hi j v hj => (hb.cell (World.block_lt_of_cell? w _ (hc i hi j v hj))).trans (hc i hi j v hj)⟩
/-- What a place holds, in every world in which nothing of the old is turned. -/
theorem Ls.at {w : World} {a : Option Addr} {n cap : Nat} {l : List α} (h : Ls sz arr z w a n cap l) {k : Nat} (hk : k < n) :
    ∃ b off, a = some ⟨b, off, none⟩ ∧ ∀ W, Below w.heap.size w W → ∀ j v, (arr (l.getD k z))[j]? = some v → W.cell? ⟨b, off + k * sz + j, none⟩ = some v := by
  have := h.le
  rcases h.adr with h4 | ⟨b, off, rfl, hc⟩
  · omega
  · exact ⟨b, off, rfl, fun W hb j v hj => (hb.cell (World.block_lt_of_cell? w _ (hc k hk j v hj))).trans (hc k hk j v hj)⟩
theorem Ls.nil (w : World) : Ls sz arr z w none 0 0 [] := ⟨rfl, Nat.le_refl _, by omega, .inl rfl⟩
/-- The cells of a list. -/
def lCells (arr : α → Array Value) (l : List α) : List Value := l.flatMap (fun c => (arr c).toList)
theorem lCells_get (hs : ∀ c, (arr c).size = sz) : ∀ (l : List α) (i j : Nat), i < l.length → j < sz → (lCells arr l)[i * sz + j]? = (arr (l.getD i z))[j]?
  | [], i, j, h, _ => by simp at h
  | c :: r, 0, j, _, hj => by
    simp only [lCells, List.flatMap_cons, List.getD_cons_zero, Nat.zero_mul, Nat.zero_add]
    rw [List.getElem?_append_left (by rw [Array.length_toList, hs]; exact hj)]
    simp
  | c :: r, i + 1, j, h, hj => by
    have := lCells_get hs r i j (by simpa using h) hj
    simp only [List.getD_cons_succ]
    rw [← this]
    simp only [lCells, List.flatMap_cons]
    rw [List.getElem?_append_right (by rw [Array.length_toList, hs, Nat.succ_mul]; omega), Array.length_toList, hs]
    congr 1
    rw [Nat.succ_mul]
    omega
/-- A slice of the call's own that reads as the list l. -/
def OwnL (sz : Nat) (ty : TypeId) (arr : α → Array Value) (w : World) (B : Nat) (v : Value) (l : List α) : Prop := w.ownsRow B ty sz v l.length (lCells arr l)
theorem OwnL.nil (ty : TypeId) (w : World) (B : Nat) : OwnL sz ty arr w B (.slice none 0 0) [] := World.ownsRow_nil _ _ _ _
theorem OwnL.ls {ty : TypeId} {w : World} {B : Nat} {v : Value} {l : List α} (hs : ∀ c, (arr c).size = sz) (h : OwnL sz ty arr w B v l) : ∃ a cap, v = .slice a l.length cap ∧ Ls sz arr z w a l.length cap l := by
  obtain ⟨h1, h2⟩ := h
  rcases h2 with ⟨rfl, hn⟩ | ⟨g, cap, cur, rfl, hb, hg, hnc, hcm, hcs, htake⟩
  · exact ⟨none, 0, by rw [hn], rfl, by omega, by omega, .inl rfl⟩
  · refine ⟨_, cap, rfl, rfl, hnc, by unfold maxLen at hcm; omega, .inr ⟨g, 0, rfl, fun i hi j v hj => ?_⟩⟩
    have hjs : j < sz := by have := (Array.getElem?_eq_some_iff.1 hj).1; rwa [hs] at this
    have c1 := lCells_get (z := z) hs l i j hi hjs
    have hlt : i * sz + j < l.length * sz := by
      have h9 : (i + 1) * sz ≤ l.length * sz := Nat.mul_le_mul_right sz hi
      rw [Nat.succ_mul] at h9
      omega
    rw [← htake, List.getElem?_take, if_pos hlt, hj] at c1
    rw [Nat.zero_add, cell_of_row w g _ cur _ (0, 0) hg, ← c1]
    simp
theorem OwnL.kept {ty : TypeId} {w w' : World} {B : Nat} {v : Value} {l : List α} (h : OwnL sz ty arr w B v l) (hb : Below w.heap.size w w') : OwnL sz ty arr w' B v l := own_kept h hb
theorem OwnL.mono {ty : TypeId} {w : World} {B B' : Nat} {v : Value} {l : List α} (h : OwnL sz ty arr w B v l) (hB : B' ≤ B) : OwnL sz ty arr w B' v l := own_mono h hB
theorem OwnL.lt {ty : TypeId} {w : World} {B : Nat} {v : Value} {l : List α} (h : OwnL sz ty arr w B v l) : ∀ k, v.ownBlock = some k → B ≤ k ∧ k < w.heap.size := World.ownsRow.lt h
theorem OwnL.of_block {ty : TypeId} {w w' : World} {B : Nat} {v : Value} {l : List α} (h : OwnL sz ty arr w B v l) (hb : ∀ q, v.ownBlock = some q → w'.heap[q]? = w.heap[q]?) : OwnL sz ty arr w' B v l := by
  obtain ⟨hlen, ⟨ev, hn⟩ | ⟨g, cap, cur, ev, hB, hg, hnc, hcm, hcs, htake⟩⟩ := h
  · exact ⟨hlen, .inl ⟨ev, hn⟩⟩
  · exact ⟨hlen, .inr ⟨g, cap, cur, ev, hB, (hb g (by subst ev; rfl)).trans hg, hnc, hcm, hcs, htake⟩⟩
end
end Go.Proofs.Ytdjhiaogpgaboaa
end

