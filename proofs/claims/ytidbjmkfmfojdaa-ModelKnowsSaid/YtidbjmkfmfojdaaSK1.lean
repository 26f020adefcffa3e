/-
  Merged: HT V0 NM NW Ap PM PW RP OM DF DT CS CP K0 K1 K2 KA TX K3 K4 K6 KE KB Q0 Q1 Q2 JQ JB Rd CX YA A0.
-/
import Derived.Deep.QuietTactic
import Derived.StillTail
import Derived.Lib.QuietBelow
import Derived.Test.YtidbjmkfmfojdaaRows
import Derived.WalkKit
import Derived.Lib.Hide
import Derived.BigQuiet
import Derived.BigRegion
import Derived.Deep.Cut
import Derived.Deep.MidRow
import Derived.Great.BuildSlice
import Derived.Outline
import Derived.OwnWalk
import Derived.Laws.Rows
import Derived.ChangeKeysEq
import Derived.Laws.StructEq
import Derived.WalkSpells
import Derived.WalkLawsBesides
import Derived.Laws.CopyOwn
import Derived.WalkSmall
import Derived.Lib.LaidTab
import Derived.Deep.RegionWith
import Derived.Lib.MinMax
import Derived.WideShapes
import Derived.ChangeSame
import Derived.OpenShut
import Derived.Deep.Slices
import Derived.Deep.AppendSrc
import Derived.Lib.AppendZerosOnto
import Derived.Lib.SliceRun
import Derived.Lib.Walk
import Derived.Lib.OthersKept
import Derived.Laws.RangeAny
import Derived.Maps.OwnOps
import Derived.Maps.Views
import Derived.ChangeSlices
import Derived.ChangeArms
import Derived.Deep.DeepAppendWide
import Derived.OrdersIn
import Derived.TacticsIn
import Derived.RangeFuncNested
import Derived.RangeFuncBound
import Derived.RangeFuncCalls
import Derived.RangeFuncLeaves
import Derived.Maps.AppendAt
import Derived.Shelf.Abstract
import Derived.OwnWalkIn
import Derived.TacticsInMore
import Derived.LoopNIn
import Derived.LoopIn

section
namespace Go.Proofs.Ytidbjmkfmfojdaa
open Go Go.RowKit
set_option linter.unusedVariables false

section
variable {P : Program} {ops : Array Oper} {md : Region.Mode} {C : World → Prop}

/-- What is listed on the way through the head. -/
structure HdInv (md : Region.Mode) (ops : Array Oper) (k n : Nat) (listed : Array Bool) : Prop where
  head : HeadInv md ops n listed
  first : ∀ i, i < k → listed.getD i true = true
theorem HdInv.set {k n j : Nat} {listed : Array Bool} (h : HdInv md ops k n listed) (hj : j ∈ Region.ready md ops listed) (hjn : j < n) : HdInv md ops k n (listed.setIfInBounds j true) := by
  refine ⟨h.head.set hj hjn, fun i hi => ?_⟩
  by_cases hij : j = i
  · subst hij
    have := (mem_ready.1 hj).1
    rw [h.first j hi] at this
    cases this
  · rw [getD_set_ne true hij]; exact h.first i hi
end
end Go.Proofs.Ytidbjmkfmfojdaa
end

section
namespace Go.Proofs.Ytidbjmkfmfojdaa
open Go.RowKit Go Go.Sort
set_option linter.unusedVariables false

/-- A value comes back; what was there stays. -/
def Tells (v : Value) (w : World) (e : Ending) (w' : World) : Prop := e = .returned v ∧ Below w.heap.size w w'
/-- A pair that lies at a block's head. -/
def Pair (W : World) (g : Nat) (t : TypeId) (a b : Int) : Prop := W.heap[g]? = some (.cells #[.int .i64 a, .int .i64 b] t (0, 0))
theorem Pair.lt {W : World} {g : Nat} {t : TypeId} {a b : Int} (h : Pair W g t a b) : g < W.heap.size := (Array.getElem?_eq_some_iff.1 h).1
theorem Pair.kept {W W' : World} {g : Nat} {t : TypeId} {a b : Int} (h : Pair W g t a b) (hb : Below W.heap.size W W') : Pair W' g t a b := (hb.block g h.lt).trans h
theorem Pair.c0 {W : World} {g : Nat} {t : TypeId} {a b : Int} (h : Pair W g t a b) : W.cell? ⟨g, 0, none⟩ = some (.int .i64 a) := by
  rw [cell_of_row W g 0 _ t (0, 0) h]; rfl
theorem Pair.c1 {W : World} {g : Nat} {t : TypeId} {a b : Int} (h : Pair W g t a b) : W.cell? ⟨g, 1, none⟩ = some (.int .i64 b) := by
  rw [cell_of_row W g 1 _ t (0, 0) h]; rfl
theorem Pair.fz {W : World} {g : Nat} {t : TypeId} {a b : Int} (h : Pair W g t a b) (i : Nat) : W.frozen? ⟨g, i, none⟩ = false := frozen_of_row W g i _ t h
theorem Pair.new (W : World) (t : TypeId) (a b : Int) : Pair (W.alloc (.cells #[.int .i64 a, .int .i64 b] t)) W.heap.size t a b := heap_alloc_new W _
theorem Pair.alloc {W : World} {g : Nat} {t : TypeId} {a b : Int} (h : Pair W g t a b) (o : Obj) : Pair (W.alloc o) g t a b := (Below.heap_alloc W o g h.lt).trans h
theorem Pair.other {W : World} {g : Nat} {t : TypeId} {a b : Int} (h : Pair W g t a b) (p : Addr) (v : Value) (hne : g ≠ p.block) : Pair (W.setCell p v) g t a b :=
  (heap_setCell_other W p g v hne).trans h
theorem Pair.set0 {W : World} {g : Nat} {t : TypeId} {a b : Int} (h : Pair W g t a b) (x : Int) : Pair (W.setCell ⟨g, 0, none⟩ (.int .i64 x)) g t x b := by
  unfold Pair; rw [heap_setCell_same W g 0 _ t _ h]; rfl
theorem Pair.set1 {W : World} {g : Nat} {t : TypeId} {a b : Int} (h : Pair W g t a b) (x : Int) : Pair (W.setCell ⟨g, 1, none⟩ (.int .i64 x)) g t a x := by
  unfold Pair; rw [heap_setCell_same W g 1 _ t _ h]; rfl
theorem drewN_below {w0 w : World} {B : Nat} (h : Below B w0 w) (n : Nat) : Below B w0 (w.drewN n) := ⟨h.os, h.tape, h.output, h.size, h.block⟩
theorem alloc_below (w : World) (o : Obj) : Below w.heap.size w (w.alloc o) := (Below.refl _ w).alloc (Nat.le_refl _) o
theorem Pair.second (W : World) (o1 : Obj) (t : TypeId) (a b : Int) : Pair ((W.alloc o1).alloc (.cells #[.int .i64 a, .int .i64 b] t)) (W.heap.size + 1) t a b := by
  have h := Pair.new (W.alloc o1) t a b
  rwa [World.size_alloc] at h
theorem second_below (W : World) (o1 o2 : Obj) : Below W.heap.size W ((W.alloc o1).alloc o2) := (alloc_below W o1).alloc (by simp) o2
theorem res_cell_tmp {P : Program} {fn : Func} {p q : Tmp} {ty : TypeId} (h : fn.results = #[.cell p ty, .tmp q]) (tmps : Array Value) (w : World) (g : Nat) (t : TypeId) (cs : Array Value) (fr : Nat × Nat) (d : TypeDesc) (v : Value)
    (hp : tmps.getD p undef = .pointer (some ⟨g, 0, none⟩)) (hq : tmps.getD q undef = v) (hg : w.heap[g]? = some (.cells cs t fr))
    (hu : P.underlying ty = some d) (hd : (match d with | .struct _ | .array _ _ => true | _ => false) = true) (hi : (P.info? ty).map (·.size) = some cs.size) :
    (results fn tmps).run P w = .ok (.tuple #[.agg cs, v]) w := by
  have hp' : tmps[p]?.getD undef = .pointer (some ⟨g, 0, none⟩) := by simpa using hp
  have hq' : tmps[q]?.getD undef = v := by simpa using hq
  simp [results, h, hp', hq', asAddr, run_loadVar_row w g t ty cs fr d hg hu hd hi]
theorem Pair.third (W : World) (o1 o2 : Obj) (t : TypeId) (a b : Int) : Pair (((W.alloc o1).alloc o2).alloc (.cells #[.int .i64 a, .int .i64 b] t)) (W.heap.size + 1 + 1) t a b := by
  have h := Pair.new ((W.alloc o1).alloc o2) t a b
  rwa [World.size_alloc, World.size_alloc] at h
theorem third_below (W : World) (o1 o2 o3 : Obj) : Below W.heap.size W (((W.alloc o1).alloc o2).alloc o3) := ((alloc_below W o1).alloc (by simp) o2).alloc (by simp; omega) o3

/-- A slice of pairs of the world. -/
structure Prs (w : World) (a : Option Addr) (n cap : Nat) (l : List (Int × Int)) : Prop where
  len : l.length = n
  le : n ≤ cap
  max : cap ≤ 9223372036854775807
  adr : cap = 0 ∨ ∃ b off, a = some ⟨b, off, none⟩ ∧ ∀ i, i < n → w.cell? ⟨b, off + i * 2, none⟩ = some (.int .i64 (l.getD i (0, 0)).1) ∧ w.cell? ⟨b, off + i * 2 + 1, none⟩ = some (.int .i64 (l.getD i (0, 0)).2)
theorem Prs.below {w w' : World} {a : Option Addr} {n cap : Nat} {l : List (Int × Int)} (h : Prs w a n cap l) (hb : Below w.heap.size w w') : Prs w' a n cap l := by
  refine ⟨h.len, h.le, h.max, ?_⟩
  rcases h.adr with h4 | ⟨b, off, rfl, hc⟩
  · exact .inl h4
  · refine .inr ⟨b, off, rfl, fun i hi => ?_⟩
    obtain ⟨h1, h2⟩ := hc i hi
    exact ⟨by rw [hb.cell (World.block_lt_of_cell? w _ h1)]; exact h1, by rw [hb.cell (World.block_lt_of_cell? w _ h2)]; exact h2⟩
end Go.Proofs.Ytidbjmkfmfojdaa
end

section
namespace Go.Proofs.Ytidbjmkfmfojdaa
open Go.RowKit

/-- Byte i of l, as a number. -/
def by8 (l : List UInt8) (i : Nat) : Int := ((l.getD i 0).toNat : Int)
/-- A byte slice of the world: length n, reading as the bytes l. -/
structure Bys (w : World) (a : Option Addr) (n cap : Nat) (l : List UInt8) : Prop where
  len : l.length = n
  le : n ≤ cap
  max : cap ≤ 9223372036854775807
  adr : cap = 0 ∨ ∃ b off, a = some ⟨b, off, none⟩ ∧ ∀ i, i < n → w.cell? ⟨b, off + i, none⟩ = some (.int .u8 (by8 l i))

theorem by8_take (l : List UInt8) (q i : Nat) (h : i < q) : by8 (l.take q) i = by8 l i := by
  unfold by8; simp [List.getD, h]
theorem by8_drop (l : List UInt8) (q i : Nat) : by8 (l.drop q) i = by8 l (q + i) := by
  unfold by8; simp [List.getD, List.getElem?_drop]
theorem addr_add (b off i : Nat) : (⟨b, off, none⟩ : Addr).add i = ⟨b, off + i, none⟩ := by
  by_cases h0 : i = 0
  · subst h0; rfl
  · simp [Addr.add, h0]

/-- The first q bytes of a slice. -/
theorem Bys.take {w : World} {a : Option Addr} {n cap : Nat} {l : List UInt8} (h : Bys w a n cap l) {q : Nat} (hq : q ≤ n) : Bys w a q cap (l.take q) := by
  obtain ⟨h1, h2, h3, h4⟩ := h
  refine ⟨by simp; omega, by omega, h3, ?_⟩
  rcases h4 with h4 | ⟨b, off, rfl, hc⟩
  · exact .inl h4
  · exact .inr ⟨b, off, rfl, fun i hi => by rw [by8_take l q i hi]; exact hc i (by omega)⟩
theorem Bys.drop {w : World} {a : Option Addr} {n cap : Nat} {l : List UInt8} (h : Bys w a n cap l) {q : Nat} (hq : q ≤ n) : Bys w (a.map (fun x => x.add q)) (n - q) (cap - q) (l.drop q) := by
  obtain ⟨h1, h2, h3, h4⟩ := h
  refine ⟨by simp; omega, by omega, by omega, ?_⟩
  rcases h4 with h4 | ⟨b, off, rfl, hc⟩
  · exact .inl (by omega)
  · exact .inr ⟨b, off + q, by rw [Option.map_some, addr_add], fun i hi => by rw [by8_drop, Nat.add_assoc]; exact hc (q + i) (by omega)⟩

theorem Bys.below {w w' : World} {a : Option Addr} {n cap : Nat} {l : List UInt8} (h : Bys w a n cap l) (hb : Below w.heap.size w w') : Bys w' a n cap l := by
  obtain ⟨h1, h2, h3, h4⟩ := h
  refine ⟨h1, h2, h3, ?_⟩
  rcases h4 with h4 | ⟨b, off, rfl, hc⟩
  · exact .inl h4
  · refine .inr ⟨b, off, rfl, fun i hi => ?_⟩
    have := hc i hi
    rw [hb.cell (World.block_lt_of_cell? w _ this)]; exact this

/-- Byte i of l. -/
def byt8 (l : List UInt8) (i : Nat) : UInt8 := l.getD i 0
theorem take_snoc8 (l : List UInt8) (k : Nat) (h : k < l.length) : l.take (k + 1) = l.take k ++ [l.getD k 0] := by
  rw [List.take_succ_eq_append_getElem h]; simp [List.getD, h]

end Go.Proofs.Ytidbjmkfmfojdaa
end

section
namespace Go.Proofs.Ytidbjmkfmfojdaa
open Go.RowKit

/-- Three numbers come back, and the world is as it was. -/
def Ret3 (t : Int × Int × Int) (w : World) (e : Ending) (w' : World) : Prop := e = .returned (.tuple #[.int .i64 t.1, .int .i64 t.2.1, .int .i64 t.2.2]) ∧ w = w'
theorem Ret3.mk {x y z : Int} {t : Int × Int × Int} {w : World} (h : t = (x, y, z)) : Ret3 t w (.returned (.tuple #[.int .i64 x, .int .i64 y, .int .i64 z])) w := by
  subst h; exact ⟨rfl, rfl⟩

end Go.Proofs.Ytidbjmkfmfojdaa
end

section
namespace Go.Proofs.Ytidbjmkfmfojdaa
open Go.RowKit
set_option linter.unusedVariables false

/-- Bytes as cells. -/
def u8v (l : List UInt8) : List Value := l.map (fun c => Value.int .u8 (c.toNat : Int))
theorem u8v_length (l : List UInt8) : (u8v l).length = l.length := by simp [u8v]
theorem u8v_get (l : List UInt8) (i : Nat) (h : i < l.length) : (u8v l)[i]? = some (.int .u8 (by8 l i)) := by
  simp [u8v, by8, List.getD, h]
/-- The text of bytes. -/
def text (l : List UInt8) : ByteArray := ⟨l.toArray⟩

/-- The cells behind a slice's address. -/
theorem Bys.cells {w : World} {a : Option Addr} {n cap : Nat} {l : List UInt8} (h : Bys w a n cap l) (hn : 0 < n) :
    ∃ ad, a = some ad ∧ ∀ j v, (u8v l)[j]? = some v → w.cell? (ad.add j) = some v := by
  obtain ⟨h1, h2, h3, h4⟩ := h
  rcases h4 with h4 | ⟨b, off, rfl, hc⟩
  · omega
  · refine ⟨_, rfl, fun j v hv => ?_⟩
    have hj : j < l.length := by
      have := (List.getElem?_eq_some_iff.1 hv).1
      rwa [u8v_length] at this
    rw [u8v_get l j hj] at hv
    rw [addr_add, ← hv]
    exact hc j (by omega)

section
variable {P : Program}
/-- A slice of the call's own that reads as the bytes l. -/
def OwnB (w : World) (B : Nat) (e : TypeId) (v : Value) (l : List UInt8) : Prop := w.ownsRow B e 1 v l.length (u8v l)

/-- A row of its own that is not empty lies at a block's head. -/
theorem OwnB.row {w : World} {B : Nat} {e : TypeId} {v : Value} {l : List UInt8} (h : OwnB w B e v l) (hl : 0 < l.length) :
    ∃ g cap, v = .slice (some ⟨g, 0, none⟩) l.length cap ∧ OwnB w B e (.slice (some ⟨g, 0, none⟩) l.length cap) l := by
  have h' := h
  rcases h'.2 with ⟨rfl, hn⟩ | ⟨g, cap, cur, rfl, _⟩
  · omega
  · exact ⟨g, cap, rfl, h⟩

end

theorem OwnB.kept {w w' : World} {B : Nat} {e : TypeId} {v : Value} {l : List UInt8} (h : OwnB w B e v l) (hb : Below w.heap.size w w') : OwnB w' B e v l := by
  refine ⟨h.1, ?_⟩
  rcases h.2 with hn | ⟨g, cap, cur, rfl, hB, hg, rest⟩
  · exact .inl hn
  · exact .inr ⟨g, cap, cur, rfl, hB, by rw [hb.block g (Array.getElem?_eq_some_iff.1 hg).1]; exact hg, rest⟩
theorem OwnB.lt {w : World} {B : Nat} {e : TypeId} {v : Value} {l : List UInt8} (h : OwnB w B e v l) : ∀ k, v.ownBlock = some k → B ≤ k ∧ k < w.heap.size := World.ownsRow.lt h
theorem OwnB.mono {w : World} {B B' : Nat} {e : TypeId} {v : Value} {l : List UInt8} (h : OwnB w B e v l) (hB : B' ≤ B) : OwnB w B' e v l := by
  refine ⟨h.1, ?_⟩
  rcases h.2 with hn | ⟨g, cap, cur, rfl, hb, rest⟩
  · exact .inl hn
  · exact .inr ⟨g, cap, cur, rfl, by omega, rest⟩
end Go.Proofs.Ytidbjmkfmfojdaa
end

section
namespace Go.Proofs.Ytidbjmkfmfojdaa
open Go.RowKit
set_option linter.unusedVariables false

/-- The mark of a number's first byte. -/
def markS (k : Nat) : Nat := if k = 2 then 64 else if k = 4 then 128 else if k = 8 then 192 else 0

def rawAt (n : Int) (i : Nat) : UInt8 := UInt8.ofNat (n.toNat / 256 ^ i % 256)
/-- The k lowest bytes of n, the highest first. -/
def rawB (n : Int) (k : Nat) : List UInt8 := (List.range k).map (fun j => rawAt n (k - 1 - j))
theorem rawB_length (n : Int) (k : Nat) : (rawB n k).length = k := by simp [rawB]
/-- k bytes with the mark. -/
def numK (n : Int) (k : Nat) : List UInt8 := (rawB n k).set 0 (UInt8.ofNat (n.toNat / 256 ^ (k - 1) % 256 + markS k))
theorem numK_length (n : Int) (k : Nat) : (numK n k).length = k := by simp [numK, rawB_length]
end Go.Proofs.Ytidbjmkfmfojdaa
end

section
namespace Go.Proofs.Ytidbjmkfmfojdaa
open Go.RowKit
set_option linter.unusedVariables false

def RetU8 (x : Int) (w : World) (e : Ending) (w' : World) : Prop := e = .returned (.int .u8 x) ∧ w = w'
theorem RetU8.mk {a x : Int} {w : World} (h : a = x) : RetU8 x w (.returned (.int .u8 a)) w := by subst h; exact ⟨rfl, rfl⟩

end Go.Proofs.Ytidbjmkfmfojdaa
end

section
namespace Go.Proofs.Ytidbjmkfmfojdaa
open Go.RowKit
set_option linter.unusedVariables false

/-- Where the loop stands: j of the number's bytes are appended. -/
def PutAt (l : List UInt8) (n : Int) (k j : Nat) (w : World) (v : Value) (wr : World) : Prop :=
  OwnB wr w.heap.size 5 v (l ++ (numK n k).take j) ∧ Below w.heap.size w wr
theorem PutAt.next {l : List UInt8} {n : Int} {k j : Nat} {w wr w1 : World} {v v' : Value} {o : Obj} (hj : j < k) (h : PutAt l n k j w v wr)
    (ho : OwnB w1 w.heap.size 5 v' (l ++ ((numK n k).take j ++ [byt8 (numK n k) j]))) (hg : (wr.alloc o).grownBy w1 v.ownBlock) : PutAt l n k (j + 1) w v' w1 := by
  refine ⟨?_, (h.2.alloc h.2.size _).grown hg (by have := h.2.size; simp; omega) (fun q hq => (h.1.lt q hq).1)⟩
  have := take_snoc8 (numK n k) j (by rw [numK_length]; exact hj)
  rw [this]
  exact ho

end Go.Proofs.Ytidbjmkfmfojdaa
end

section
namespace Go.Proofs.Ytidbjmkfmfojdaa
open Go.RowKit
set_option linter.unusedVariables false

theorem text_toList (l : List UInt8) : (text l).toList = l := by unfold text; simp
theorem text_size (l : List UInt8) : (text l).size = l.length := by unfold text; rfl
end Go.Proofs.Ytidbjmkfmfojdaa
end

section
namespace Go.Proofs.Ytidbjmkfmfojdaa
open Go Go.RowKit
set_option linter.unusedVariables false

section
variable {P : Program} {ops : Array Oper} {md : Region.Mode}

theorem upon_weak {o : Oper} {a : Act} {K K' : Act → World → Prop} {Q Q' : Exit → Act → World → Prop} (hK : ∀ a w, K a w → K' a w) (hQ : ∀ e a w, Q e a w → e = .normal) (r : Result Next) (h : o.upon P a K Q r) : o.upon P a K' Q' r := by
  cases r with
  | ok n w' =>
    cases n with
    | value v => exact hK _ _ h
    | skip => exact hK _ _ h
    | defer d => exact hK _ _ h
    | enter f args =>
      refine Calls.mono h fun e w'' he => ?_
      cases e with
      | returned v => exact hK _ _ he
      | panicked c => exact absurd (hQ _ _ _ he) (by simp)
      | outgrown => exact absurd (hQ _ _ _ he.choose_spec.choose_spec) (by simp)
    | row r args => exact Rows.mono h fun v w'' he => hK _ _ he
    | _ => exact h
  | halt x w' =>
    cases x with
    | panic v => exact absurd (hQ _ _ _ h) (by simp)
    | _ => exact h
theorem wpOp_of_one {i : Nat} {o : Oper} {a : Act} {w : World} {K : Act → World → Prop} {Q Q' : Exit → Act → World → Prop} (ho : ops[i]? = some o) (hK : ∀ a w, Q' .normal a w → K a w) (hQ : ∀ e a w, Q' e a w → e = .normal)
    (h : wpList P ops Q' [o] a w) : wpOp P ops Q i K a w := by
  unfold wpOp
  simp only [ho]
  unfold wpList at h
  split
  · rename_i hw
    rw [if_pos hw] at h
    rcases h with h | ⟨_, a', w', h⟩
    · left
      exact upon_weak (fun a w h => hK a w h) hQ _ h
    · exact absurd (hQ _ _ _ h) (by simp)
  · rename_i hw
    rw [if_neg hw] at h
    exact hK _ _ h

/-- How one operation ends. -/
def FlowEnd (a : Act) (o : Oper) (R : World → World → Prop) (g : Value → World → Prop) (w : World) (e : Exit) (a' : Act) (w' : World) : Prop :=
  e = .normal ∧ ∃ v, a' = a.put o.dst v ∧ R w w' ∧ g v w'

theorem count_set_lt (l : List Bool) (i : Nat) (h : l[i]? = some false) : (l.set i true).count false < l.count false := by
  induction l generalizing i with
  | nil => simp at h
  | cons b l ih =>
    cases i with
    | zero =>
      have : b = false := by simpa using h
      subst this
      simp
    | succ i =>
      have := ih i (by simpa using h)
      cases b <;> simp <;> omega

theorem wpAny_flow {Q : Exit → Act → World → Prop} (act : (Nat → Value) → Act) (R : World → World → Prop) (G : Nat → Value → World → Prop) (w0 : World)
    (hR : ∀ a b c, R a b → R b c → R a c) (hG : ∀ i v w w', R w0 w → R w w' → G i v w → G i v w')
    (hwf : ∀ i o, ops[i]? = some o → ∀ e ∈ o.after, Region.binds md e = true → e.on < i)
    (hput : ∀ i o xs v, ops[i]? = some o → (act xs).put o.dst v = act (fun j => if j = i then v else xs j))
    (hop : ∀ i o, ops[i]? = some o → ∀ xs w, R w0 w → (∀ e ∈ o.after, Region.binds md e = true → G e.on (xs e.on) w) → wpList P ops (FlowEnd (act xs) o R (G i) w) [o] (act xs) w)
    (hend : ∀ xs w, R w0 w → (∀ i, i < ops.size → G i (xs i) w) → Q .normal (act xs) w) :
    ∀ (f : Nat) (listed : Array Bool) (xs : Nat → Value) (w : World), R w0 w → listed.size = ops.size → listed.toList.count false ≤ f → (∀ i, i < ops.size → listed.getD i true = true → G i (xs i) w) → wpAny P md ops Q f listed (act xs) w := by
  have hnone : ∀ (listed : Array Bool), listed.size = ops.size → Region.ready md ops listed = [] → ∀ i, i < ops.size → listed.getD i true = true := by
    intro listed hs hr i
    induction i using Nat.strongRecOn with
    | _ i ih =>
      intro hi
      cases hl : listed.getD i true with
      | true => rfl
      | false =>
        have : i ∈ Region.ready md ops listed := by
          refine mem_ready.2 ⟨hl, ops[i], by simp [hi], fun e he hb => ?_⟩
          have hlt := hwf i ops[i] (by simp [hi]) e he hb
          have h1 := ih e.on hlt (by omega)
          have h2 : e.on < listed.size := by omega
          simp only [Array.getD_eq_getD_getElem?, Array.getElem?_eq_getElem h2, Option.getD_some] at h1 ⊢
          exact h1
        rw [hr] at this
        cases this
  intro f
  induction f with
  | zero =>
    intro listed xs w hw hs hc hg
    have hall : ∀ i, i < ops.size → listed.getD i true = true := by
      intro i hi
      cases hl : listed.getD i true with
      | true => rfl
      | false =>
        have h2 : i < listed.size := by omega
        have h3 : listed[i] = false := by simpa [Array.getD_eq_getD_getElem?, Array.getElem?_eq_getElem h2] using hl
        have : false ∈ listed.toList := by rw [← h3]; simp
        have := List.count_pos_iff.2 this
        omega
    refine ⟨?_, hend xs w hw fun i hi => hg i hi (hall i hi)⟩
    cases hr : Region.ready md ops listed with
    | nil => rfl
    | cons i r =>
      have hm : i ∈ Region.ready md ops listed := by rw [hr]; simp
      obtain ⟨hun, o, ho, _⟩ := mem_ready.1 hm
      have := hall i (Array.getElem?_eq_some_iff.1 ho).1
      rw [hun] at this
      cases this
  | succ f ih =>
    intro listed xs w hw hs hc hg
    refine ⟨fun hr => hend xs w hw fun i hi => hg i hi (hnone listed hs hr i hi), fun i hi => ?_⟩
    obtain ⟨hun, o, ho, hall⟩ := mem_ready.1 hi
    have hilt := (Array.getElem?_eq_some_iff.1 ho).1
    refine wpOp_of_one ho (fun a' w' h => ?_) (fun e a' w' h => h.1) (hop i o ho xs w hw fun e he hb => ?_)
    · obtain ⟨_, v, rfl, hww, hv⟩ := h
      rw [hput i o xs v ho]
      refine ih _ _ w' (hR _ _ _ hw hww) (by simpa using hs) ?_ fun j hj hl => ?_
      · have h2 : i < listed.size := by omega
        have h3 : listed[i] = false := by simpa [Array.getD_eq_getD_getElem?, Array.getElem?_eq_getElem h2] using hun
        have := count_set_lt listed.toList i (by simp [h2, h3])
        rw [Array.toList_setIfInBounds]
        omega
      · by_cases hji : j = i
        · subst hji
          simpa using hv
        · rw [getD_set_ne true (Ne.symm hji)] at hl
          simp only [if_neg hji]
          exact hG j _ w w' hw hww (hg j hj hl)
    · have h1 := hall e he hb
      have h2 : e.on < ops.size := by have := hwf i o ho e he hb; omega
      refine hg e.on h2 ?_
      have h3 : e.on < listed.size := by omega
      simp only [Array.getD_eq_getD_getElem?, Array.getElem?_eq_getElem h3, Option.getD_some] at h1 ⊢
      exact h1

/-- What is known of the slots: those that the region writes have the values 'xs'. -/
def flowAct (a : Act) (srcs : List (Option Nat)) (xs : Nat → Value) : Act :=
  { a with tmps := (List.zipWith (fun t s => match s with | some i => xs i | none => t) a.tmps.toList srcs).toArray }
theorem zwc {α β γ : Type} {f : α → β → γ} {a : α} {b : β} {l : List α} {m : List β} : List.zipWith f (a :: l) (b :: m) = f a b :: List.zipWith f l m := rfl
theorem zwn {α β γ : Type} {f : α → β → γ} {m : List β} : List.zipWith f [] m = [] := rfl
def flowB (md : Region.Mode) (ops : Array Oper) (srcs : List (Option Nat)) : Bool :=
  (List.range ops.size).all fun i => ((ops[i]?).map (fun o => (o.after.all fun e => !Region.binds md e || decide (e.on < i)) &&
    (List.range srcs.length).all fun s => decide ((srcs.getD s none = some i) ↔ (o.dst = some s)))).getD true
theorem flowB_spec {srcs : List (Option Nat)} (h : flowB md ops srcs = true) {i : Nat} {o : Oper} (ho : ops[i]? = some o) :
    (∀ e ∈ o.after, Region.binds md e = true → e.on < i) ∧ ∀ s, s < srcs.length → (srcs.getD s none = some i ↔ o.dst = some s) := by
  have h1 := List.all_eq_true.1 h i (List.mem_range.2 (Array.getElem?_eq_some_iff.1 ho).1)
  simp only [ho, Option.map_some, Option.getD_some, Bool.and_eq_true] at h1
  refine ⟨fun e he hb => ?_, fun s hs => ?_⟩
  · have h2 := (Array.all_eq_true_iff_forall_mem.1 h1.1) e he
    simpa [hb] using h2
  · have h2 := List.all_eq_true.1 h1.2 s (List.mem_range.2 hs)
    simpa using h2
theorem flowAct_put {a : Act} {srcs : List (Option Nat)} (hB : flowB md ops srcs = true) (hl : a.tmps.size = srcs.length) {i : Nat} {o : Oper} (ho : ops[i]? = some o) (xs : Nat → Value) (v : Value) :
    (flowAct a srcs xs).put o.dst v = flowAct a srcs (fun j => if j = i then v else xs j) := by
  have hs := (flowB_spec hB ho).2
  have key : ∀ (d : Option Tmp), o.dst = d → (match d with | some d => { flowAct a srcs xs with tmps := (flowAct a srcs xs).tmps.setIfInBounds d v } | none => flowAct a srcs xs) = flowAct a srcs (fun j => if j = i then v else xs j) := by
    intro d hd
    cases d with
    | none =>
      simp only [flowAct]
      congr 2
      apply List.ext_getElem?
      intro s
      simp only [List.getElem?_zipWith]
      by_cases hlt : s < srcs.length
      · have h1 := hs s hlt
        rw [hd] at h1
        have h2 : ¬ srcs.getD s none = some i := fun h => by cases h1.1 h
        rw [List.getElem?_eq_getElem hlt]
        rw [List.getD_eq_getElem?_getD, List.getElem?_eq_getElem hlt] at h2
        simp only [Option.getD_some] at h2
        cases a.tmps.toList[s]? with
        | none => rfl
        | some t =>
          cases hx : srcs[s] with
          | none => rfl
          | some j =>
            rw [hx] at h2
            have : j ≠ i := fun h => h2 (by rw [h])
            simp [this]
      · rw [List.getElem?_eq_none (l := srcs) (by omega)]
        cases a.tmps.toList[s]? <;> rfl
    | some d =>
      simp only [flowAct, List.setIfInBounds_toArray]
      congr 2
      apply List.ext_getElem?
      intro s
      by_cases hlt : s < srcs.length
      · have h1 := hs s hlt
        rw [hd] at h1
        have hta : s < a.tmps.toList.length := by simpa [hl] using hlt
        rw [List.getD_eq_getElem?_getD, List.getElem?_eq_getElem hlt] at h1
        simp only [Option.getD_some] at h1
        by_cases hsd : d = s
        · subst hsd
          rw [List.getElem?_set_self (by rw [List.length_zipWith]; exact Nat.lt_min.2 ⟨hta, hlt⟩)]
          rw [List.getElem?_zipWith, List.getElem?_eq_getElem hlt, List.getElem?_eq_getElem hta]
          simp [h1.2 rfl]
        · rw [List.getElem?_set_ne hsd]
          simp only [List.getElem?_zipWith, List.getElem?_eq_getElem hlt, List.getElem?_eq_getElem hta]
          cases hx : srcs[s] with
          | none => rfl
          | some j =>
            rw [hx] at h1
            have : j ≠ i := fun h => hsd (by have := h1.1 (by rw [h]); simpa using this)
            simp [this]
      · rw [List.getElem?_eq_none (by simp; omega), List.getElem?_eq_none (by simp; omega)]
  have := key o.dst rfl
  unfold Act.put
  exact this

def flowNeeds (md : Region.Mode) (Gs : List (Value → World → Prop)) (xs : Nat → Value) (w : World) : List Edge → Prop
  | [] => True
  | e :: l => (Region.binds md e = true → (Gs.getD e.on fun _ _ => True) (xs e.on) w) ∧ flowNeeds md Gs xs w l
def flowOps (P : Program) (md : Region.Mode) (ops : Array Oper) (a : Act) (srcs : List (Option Nat)) (Gs : List (Value → World → Prop)) (w0 : World) : List Oper → Nat → Prop
  | [], _ => True
  | o :: l, k => (∀ xs w, Below w0.heap.size w0 w → flowNeeds md Gs xs w o.after.toList → wpList P ops (FlowEnd (flowAct a srcs xs) o (fun x y => Below x.heap.size x y) (Gs.getD k fun _ _ => True) w) [o] (flowAct a srcs xs) w) ∧ flowOps P md ops a srcs Gs w0 l (k + 1)
def flowAll (xs : Nat → Value) (w : World) : List (Value → World → Prop) → Nat → Prop
  | [], _ => True
  | g :: l, k => g (xs k) w ∧ flowAll xs w l (k + 1)
theorem flowNeeds_of {Gs : List (Value → World → Prop)} {xs : Nat → Value} {w : World} : ∀ (l : List Edge), (∀ e ∈ l, Region.binds md e = true → (Gs.getD e.on fun _ _ => True) (xs e.on) w) → flowNeeds md Gs xs w l
  | [], _ => trivial
  | e :: l, h => ⟨h e (by simp), flowNeeds_of l fun e' he => h e' (by simp [he])⟩
theorem flowOps_get {a : Act} {srcs : List (Option Nat)} {Gs : List (Value → World → Prop)} {w0 : World} : ∀ (l : List Oper) (k : Nat), flowOps P md ops a srcs Gs w0 l k → ∀ i o, l[i]? = some o →
    ∀ xs w, Below w0.heap.size w0 w → flowNeeds md Gs xs w o.after.toList → wpList P ops (FlowEnd (flowAct a srcs xs) o (fun x y => Below x.heap.size x y) (Gs.getD (k + i) fun _ _ => True) w) [o] (flowAct a srcs xs) w
  | [], _, _, i, o, h => by simp at h
  | o' :: l, k, hh, 0, o, h => by
    obtain rfl : o' = o := by simpa using h
    exact hh.1
  | o' :: l, k, hh, i + 1, o, h => by
    have := flowOps_get l (k + 1) hh.2 i o (by simpa using h)
    rwa [show k + 1 + i = k + (i + 1) by omega] at this
theorem flowAll_of {xs : Nat → Value} {w : World} : ∀ (l : List (Value → World → Prop)) (k : Nat), (∀ i, i < l.length → (l.getD i fun _ _ => True) (xs (k + i)) w) → flowAll xs w l k
  | [], _, _ => trivial
  | g :: l, k, h => ⟨by simpa using h 0 (by simp), flowAll_of l (k + 1) fun i hi => by
      have := h (i + 1) (by simpa using hi)
      rw [show k + 1 + i = k + (i + 1) by omega]
      simpa using this⟩
theorem wp_region_flow {id : Nat} {Q : Exit → Act → World → Prop} {l : List Oper} {a : Act} {w : World} (srcs : List (Option Nat)) (xs0 : Nat → Value) (Gs : List (Value → World → Prop)) (hm : P.follows .mixedOrders = true)
    (hB : flowB .any l.toArray srcs = true) (hl : a.tmps.size = srcs.length) (h0 : flowAct a srcs xs0 = a) (hn : Gs.length = l.length)
    (hG : ∀ g ∈ Gs, ∀ v x y, Below w.heap.size w x → Below x.heap.size x y → g v x → g v y)
    (hops : flowOps P .any l.toArray a srcs Gs w l 0)
    (hend : ∀ xs w', Below w.heap.size w w' → flowAll xs w' Gs 0 → Q .normal (flowAct a srcs xs) w') : (Code.region id l.toArray true).wp P Q a w := by
  refine wp_region_any hm ?_
  have := wpAny_flow (P := P) (ops := l.toArray) (md := .any) (Q := Q) (flowAct a srcs) (fun x y => Below x.heap.size x y) (fun i => Gs.getD i fun _ _ => True) w
    (fun a b c h1 h2 => h1.trans (h2.mono h1.size)) (fun i v x y h1 h2 h3 => ?_) (fun i o ho => (flowB_spec hB ho).1) (fun i o xs v ho => flowAct_put hB hl ho xs v)
    (fun i o ho xs x hx hn => by
      have := flowOps_get l 0 hops i o (by simpa using ho) xs x hx (flowNeeds_of _ fun e he hb => hn e (by simpa using he) hb)
      rwa [Nat.zero_add] at this)
    (fun xs x hx hg => hend xs x hx (flowAll_of Gs 0 fun i hi => by rw [Nat.zero_add]; exact hg i (by simpa using (by omega : i < l.length))))
    l.toArray.size (Array.replicate l.toArray.size false) xs0 { w with drawn := w.drawn + 1 } ⟨rfl, rfl, rfl, Nat.le_refl _, fun _ _ => rfl⟩ (by simp) (by simp) (fun i hi hl => by
      exfalso
      rw [Array.getD_eq_getD_getElem?, Array.getElem?_eq_getElem (by simpa using hi)] at hl
      simp at hl)
  · rwa [h0] at this
  · by_cases hi : i < Gs.length
    · have hm := List.getElem_mem hi
      rw [List.getD_eq_getElem?_getD, List.getElem?_eq_getElem hi] at h3 ⊢
      exact hG _ hm v x y h1 h2 h3
    · rw [List.getD_eq_getElem?_getD, List.getElem?_eq_none (by omega)]
      trivial
end
end Go.Proofs.Ytidbjmkfmfojdaa
end

section
namespace Go.Proofs.Ytidbjmkfmfojdaa
open Go Go.RowKit
set_option linter.unusedVariables false

section
variable {P : Program} {ops : Array Oper} {md : Region.Mode}

theorem count_set_one (l : List Bool) (i : Nat) (h : l[i]? = some false) : (l.set i true).count false + 1 = l.count false := by
  induction l generalizing i with
  | nil => simp at h
  | cons b l ih =>
    cases i with
    | zero =>
      have : b = false := by simpa using h
      subst this
      simp
    | succ i =>
      have := ih i (by simpa using h)
      cases b <;> simp <;> omega

def headDone (n m : Nat) : Array Bool := Array.replicate n true ++ Array.replicate m false
theorem headDone_of {n : Nat} {listed : Array Bool} (hn : n < ops.size) (inv : HeadInv md ops n listed) (hall : ∀ i, i < n → listed.getD i true = true) : listed = headDone n (ops.size - n) := by
  have hs := inv.size
  apply Array.ext
  · simp [headDone]; omega
  · intro i h1 h2
    by_cases hi : i < n
    · have := hall i hi
      simp only [Array.getD_eq_getD_getElem?, Array.getElem?_eq_getElem h1, Option.getD_some] at this
      rw [this]
      simp [headDone, hi]
    · have := inv.tail i (by omega) (by omega)
      simp only [Array.getD_eq_getD_getElem?, Array.getElem?_eq_getElem h1, Option.getD_some] at this
      rw [this]
      simp [headDone, Array.getElem_append, hi]

/-- How one operation of the head ends; those of 'Fr' leave what none of the others of 'Fr' has. -/
def FlowEndF (a : Act) (o : Oper) (R : World → World → Prop) (G : Nat → Value → World → Prop) (Fr : Nat → Prop) (i : Nat) (w : World) (e : Exit) (a' : Act) (w' : World) : Prop :=
  e = .normal ∧ ∃ v, a' = a.put o.dst v ∧ R w w' ∧ G i v w' ∧ (Fr i → ∀ j, Fr j → ∀ u, G j u w → u ≠ v)

theorem wpAny_flow_tail {Q : Exit → Act → World → Prop} (act : (Nat → Value) → Act) (R : World → World → Prop) (G : Nat → Value → World → Prop) (Fr : Nat → Prop) (w0 : World) (n : Nat) (l : List Oper) (hl : l.toArray = ops)
    (hn : n < ops.size) (hs : Region.sinkB md ops n = true) (hc : Region.chainB md ops n = true) (hseq : Region.seqB md ops (ops.size - n) n (headDone n (ops.size - n)) = true)
    (hR : ∀ a b c, R a b → R b c → R a c) (hG : ∀ i v w w', R w0 w → R w w' → G i v w → G i v w')
    (hwf : ∀ i o, ops[i]? = some o → i < n → ∀ e ∈ o.after, Region.binds md e = true → e.on < i)
    (hput : ∀ i o xs v, ops[i]? = some o → i < n → (act xs).put o.dst v = act (fun j => if j = i then v else xs j))
    (hop : ∀ i o, ops[i]? = some o → i < n → ∀ xs w, R w0 w → (∀ e ∈ o.after, Region.binds md e = true → G e.on (xs e.on) w) → wpList P ops (FlowEndF (act xs) o R G Fr i w) [o] (act xs) w)
    (hend : ∀ xs w, R w0 w → (∀ i, i < n → G i (xs i) w) → (∀ i j, i < n → j < n → i ≠ j → Fr i → Fr j → xs i ≠ xs j) → wpList P ops Q (l.drop n) (act xs) w) :
    ∀ (f : Nat) (listed : Array Bool) (xs : Nat → Value) (w : World), R w0 w → HeadInv md ops n listed → listed.toList.count false = f → (∀ i, i < n → listed.getD i true = true → G i (xs i) w) →
      (∀ i j, i < n → j < n → i ≠ j → Fr i → Fr j → listed.getD i true = true → listed.getD j true = true → xs i ≠ xs j) → wpAny P md ops Q f listed (act xs) w := by
  intro f
  induction f with
  | zero =>
    intro listed xs w hw inv hcn hg hfr
    exfalso
    have hsz := inv.size
    have h1 := inv.tail n (Nat.le_refl _) hn
    have h2 : n < listed.size := by omega
    simp only [Array.getD_eq_getD_getElem?, Array.getElem?_eq_getElem h2, Option.getD_some] at h1
    have : false ∈ listed.toList := by rw [← h1]; simp
    have := List.count_pos_iff.2 this
    omega
  | succ f ih =>
    intro listed xs w hw inv hcn hg hfr
    have hsz := inv.size
    by_cases hall : ∀ i, i < n → listed.getD i true = true
    · have hd := headDone_of hn inv hall
      have hcount : (headDone n (ops.size - n)).toList.count false = ops.size - n := by
        simp [headDone, List.count_replicate]
      rw [hd, hcount] at hcn
      have hlen : (l.drop n).length = ops.size - n := by rw [← hl]; simp
      have := wpAny_of_seq (P := P) (md := md) (ops := ops) (Q' := Q) (l.drop n) n (headDone n (ops.size - n)) (act xs) w (fun j => by rw [← hl]; simp [List.getElem?_drop]) (by rw [hlen]; exact hseq) (hend xs w hw (fun i hi => hg i hi (hall i hi)) fun i j hi hj hne fi fj => hfr i j hi hj hne fi fj (hall i hi) (hall j hj))
      rw [hlen] at this
      rw [hd]
      rw [hcn] at this ⊢
      exact this
    · have hex : ∃ i, i < n ∧ listed.getD i true = false := by
        apply Classical.byContradiction
        intro hne
        apply hall
        intro i hi
        cases hx : listed.getD i true with
        | true => rfl
        | false => exact absurd ⟨i, hi, hx⟩ hne
      refine ⟨fun hr => ?_, fun i hi => ?_⟩
      · exfalso
        apply hall
        intro i
        induction i using Nat.strongRecOn with
        | _ i ihi =>
          intro hi
          cases hlx : listed.getD i true with
          | true => rfl
          | false =>
            have hio : i < ops.size := by omega
            have : i ∈ Region.ready md ops listed := by
              refine mem_ready.2 ⟨hlx, ops[i], by simp [hio], fun e he hb => ?_⟩
              have hlt := hwf i ops[i] (by simp [hio]) hi e he hb
              have h1 := ihi e.on hlt (by omega)
              have h2 : e.on < listed.size := by omega
              simp only [Array.getD_eq_getD_getElem?, Array.getElem?_eq_getElem h2, Option.getD_some] at h1 ⊢
              exact h1
            rw [hr] at this
            cases this
      · obtain ⟨i0, hi0, hx0⟩ := hex
        have hin : i < n := Nat.lt_of_not_le fun h => tail_waits hs hc hn inv (n - i0) i0 rfl hi0 hx0 i h hi
        obtain ⟨hun, o, ho, hdep⟩ := mem_ready.1 hi
        have hilt := (Array.getElem?_eq_some_iff.1 ho).1
        refine wpOp_of_one ho (fun a' w' h => ?_) (fun e a' w' h => h.1) (hop i o ho hin xs w hw fun e he hb => ?_)
        · obtain ⟨_, v, rfl, hww, hv, hfv⟩ := h
          rw [hput i o xs v ho hin]
          refine ih _ _ w' (hR _ _ _ hw hww) (inv.set hi hin) ?_ (fun j hj hlj => ?_) fun j k hj hk hne fj fk lj lk => ?_
          · have h2 : i < listed.size := by omega
            have h3 : listed[i] = false := by simpa [Array.getD_eq_getD_getElem?, Array.getElem?_eq_getElem h2] using hun
            have := count_set_one listed.toList i (by simp [h2, h3])
            rw [Array.toList_setIfInBounds]
            omega
          · by_cases hji : j = i
            · subst hji
              simpa using hv
            · rw [getD_set_ne true (Ne.symm hji)] at hlj
              simp only [if_neg hji]
              exact hG j _ w w' hw hww (hg j hj hlj)
          · by_cases hji : j = i
            · subst hji
              rw [getD_set_ne true hne] at lk
              simp only [if_neg (Ne.symm hne)]
              exact (hfv fj k fk _ (hg k hk lk)).symm
            · rw [getD_set_ne true (Ne.symm hji)] at lj
              by_cases hki : k = i
              · subst hki
                simp only [if_neg hne]
                exact hfv fk j fj _ (hg j hj lj)
              · rw [getD_set_ne true (Ne.symm hki)] at lk
                simp only [if_neg hji, if_neg hki]
                exact hfr j k hj hk hne fj fk lj lk
        · have h1 := hdep e he hb
          have hlt := hwf i o ho hin e he hb
          refine hg e.on (by omega) ?_
          have h3 : e.on < listed.size := by omega
          simp only [Array.getD_eq_getD_getElem?, Array.getElem?_eq_getElem h3, Option.getD_some] at h1 ⊢
          exact h1

def flowTB (md : Region.Mode) (ops : Array Oper) (n : Nat) (srcs : List (Option Nat)) : Bool :=
  (List.range n).all fun i => ((ops[i]?).map (fun o => (o.after.all fun e => !Region.binds md e || decide (e.on < i)) &&
    (List.range srcs.length).all fun s => decide ((srcs.getD s none = some i) ↔ (o.dst = some s)))).getD true
theorem flowTB_take {l : List Oper} {n : Nat} {srcs : List (Option Nat)} (h : flowTB md l.toArray n srcs = true) : flowB md (l.take n).toArray srcs = true := by
  refine List.all_eq_true.2 fun i hi => ?_
  have hlt : i < (l.take n).length := by simpa using List.mem_range.1 hi
  have h1 := List.all_eq_true.1 h i (List.mem_range.2 (by simp at hlt; omega))
  have e : (l.take n).toArray[i]? = l.toArray[i]? := by simp [List.getElem?_take]; intro hh; simp at hlt; omega
  rw [e]
  exact h1

def flowOpsF (P : Program) (md : Region.Mode) (ops : Array Oper) (a : Act) (srcs : List (Option Nat)) (Gs : List (Value → World → Prop)) (Fr : Nat → Prop) (w0 : World) : List Oper → Nat → Prop
  | [], _ => True
  | o :: l, k => (∀ xs w, Below w0.heap.size w0 w → flowNeeds md Gs xs w o.after.toList → wpList P ops (FlowEndF (flowAct a srcs xs) o (fun x y => Below x.heap.size x y) (fun i => Gs.getD i fun _ _ => True) Fr k w) [o] (flowAct a srcs xs) w) ∧ flowOpsF P md ops a srcs Gs Fr w0 l (k + 1)
theorem flowOpsF_get {a : Act} {srcs : List (Option Nat)} {Gs : List (Value → World → Prop)} {Fr : Nat → Prop} {w0 : World} : ∀ (l : List Oper) (k : Nat), flowOpsF P md ops a srcs Gs Fr w0 l k → ∀ i o, l[i]? = some o →
    ∀ xs w, Below w0.heap.size w0 w → flowNeeds md Gs xs w o.after.toList → wpList P ops (FlowEndF (flowAct a srcs xs) o (fun x y => Below x.heap.size x y) (fun i => Gs.getD i fun _ _ => True) Fr (k + i) w) [o] (flowAct a srcs xs) w
  | [], _, _, i, o, h => by simp at h
  | o' :: l, k, hh, 0, o, h => by
    obtain rfl : o' = o := by simpa using h
    exact hh.1
  | o' :: l, k, hh, i + 1, o, h => by
    have := flowOpsF_get l (k + 1) hh.2 i o (by simpa using h)
    rwa [show k + 1 + i = k + (i + 1) by omega] at this

theorem wp_region_flow_tail {id : Nat} {Q : Exit → Act → World → Prop} {l : List Oper} {a : Act} {w : World} (n : Nat) (srcs : List (Option Nat)) (xs0 : Nat → Value) (Gs : List (Value → World → Prop)) (Fr : Nat → Prop) (hm : P.follows .mixedOrders = true)
    (hB : flowTB .any l.toArray n srcs = true) (hT : (decide (n < l.toArray.size) && Region.sinkB .any l.toArray n && Region.chainB .any l.toArray n && Region.seqB .any l.toArray (l.toArray.size - n) n (headDone n (l.toArray.size - n))) = true)
    (hl : a.tmps.size = srcs.length) (h0 : flowAct a srcs xs0 = a) (hn : Gs.length = n)
    (hG : ∀ g ∈ Gs, ∀ v x y, Below w.heap.size w x → Below x.heap.size x y → g v x → g v y)
    (hops : flowOpsF P .any l.toArray a srcs Gs Fr w (l.take n) 0)
    (hend : ∀ xs w', Below w.heap.size w w' → flowAll xs w' Gs 0 → (∀ i j, i < n → j < n → i ≠ j → Fr i → Fr j → xs i ≠ xs j) → wpList P l.toArray Q (l.drop n) (flowAct a srcs xs) w') : (Code.region id l.toArray true).wp P Q a w := by
  simp only [Bool.and_eq_true, decide_eq_true_eq] at hT
  obtain ⟨⟨⟨t1, t2⟩, t3⟩, t4⟩ := hT
  have hB' := flowTB_take hB
  have tk : ∀ i o, l.toArray[i]? = some o → i < n → (l.take n).toArray[i]? = some o := fun i o ho hi => by
    simp only [List.getElem?_toArray] at ho ⊢
    rw [List.getElem?_take, if_pos hi]
    exact ho
  refine wp_region_any hm ?_
  have := wpAny_flow_tail (P := P) (ops := l.toArray) (md := .any) (Q := Q) (flowAct a srcs) (fun x y => Below x.heap.size x y) (fun i => Gs.getD i fun _ _ => True) Fr w n l rfl t1 t2 t3 t4
    (fun a b c h1 h2 => h1.trans (h2.mono h1.size)) (fun i v x y h1 h2 h3 => ?_) (fun i o ho hi => (flowB_spec hB' (tk i o ho hi)).1) (fun i o xs v ho hi => flowAct_put hB' hl (tk i o ho hi) xs v)
    (fun i o ho hi xs x hx hn => by
      have := flowOpsF_get (l.take n) 0 hops i o (by simpa using tk i o ho hi) xs x hx (flowNeeds_of _ fun e he hb => hn e (by simpa using he) hb)
      rwa [Nat.zero_add] at this)
    (fun xs x hx hg hf => hend xs x hx (flowAll_of Gs 0 fun i hi => by rw [Nat.zero_add]; exact hg i (by omega)) hf)
    l.toArray.size (Array.replicate l.toArray.size false) xs0 { w with drawn := w.drawn + 1 } ⟨rfl, rfl, rfl, Nat.le_refl _, fun _ _ => rfl⟩
    ⟨by simp, fun j oj hj hl => (by rw [getD_replicate_false] at hl; cases hl), fun t _ ht => by
      rw [Array.getD_eq_getD_getElem?, Array.getElem?_eq_getElem (by simpa using ht)]; simp⟩ (by simp) (fun i hi hl => by
      exfalso
      rw [Array.getD_eq_getD_getElem?, Array.getElem?_eq_getElem (by simp at t1 ⊢; omega)] at hl
      simp at hl) (fun i j hi hj hne fi fj li lj => by
      exfalso
      rw [Array.getD_eq_getD_getElem?, Array.getElem?_eq_getElem (by simp at t1 ⊢; omega)] at li
      simp at li)
  · rwa [h0] at this
  · by_cases hi : i < Gs.length
    · have hm := List.getElem_mem hi
      rw [List.getD_eq_getElem?_getD, List.getElem?_eq_getElem hi] at h3 ⊢
      exact hG _ hm v x y h1 h2 h3
    · rw [List.getD_eq_getElem?_getD, List.getElem?_eq_none (by omega)]
      trivial
end
end Go.Proofs.Ytidbjmkfmfojdaa
end

section
namespace Go.Proofs.Ytidbjmkfmfojdaa
open Go.RowKit Go Go.Sort
set_option linter.unusedVariables false
set_option maxRecDepth 20000

def sgood (n s : Int) : Bool := decide ((n = 0 ∧ s = 0) ∨ (1 ≤ n ∧ n ≤ 281474976710656 ∧ (s = 1 ∨ s = 2)))
set_option maxHeartbeats 1600000 in
theorem rsgood_c (n s : Int) (w : World) : Calls Try.prog 115 #[.agg #[.int .i64 n, .int .i64 s]] w (Tells (.bool (sgood n s)) w) := by
  have hp := Pair.new w 71 n s
  have hb := alloc_below w (.cells #[.int .i64 n, .int .i64 s] 71)
  have h0 := hp.c0
  have h1 := hp.c1
  have HB := Lib.hid hb
  have HV := Lib.hid (show sgood n s = decide ((n = 0 ∧ s = 0) ∨ (1 ≤ n ∧ n ≤ 281474976710656 ∧ (s = 1 ∨ s = 2))) from rfl)
  clear hp hb
  by_cases n0 : n = 0
  · subst n0
    by_cases s0 : s = 0
    · subst s0
      go_enter Try.func115, Try.ntmps115
      go_wp2
      go_ret
      exact ⟨by rw [HV.out]; simp; try omega, HB.out⟩
    · have e0 : (s == 0) = false := by simpa using s0
      go_enter Try.func115, Try.ntmps115
      go_wp2
      go_ret
      exact ⟨by rw [HV.out]; simp; try omega, HB.out⟩
  · have e0 : (n == 0) = false := by simpa using n0
    by_cases n1 : 1 ≤ n
    · by_cases n2 : n ≤ 281474976710656
      · by_cases s1 : s = 1
        · subst s1
          go_enter Try.func115, Try.ntmps115
          go_wp2
          go_ret
          exact ⟨by rw [HV.out]; simp; try omega, HB.out⟩
        · have e1 : (s == 1) = false := by simpa using s1
          by_cases s2 : s = 2
          · subst s2
            go_enter Try.func115, Try.ntmps115
            go_wp2
            go_ret
            exact ⟨by rw [HV.out]; simp; try omega, HB.out⟩
          · have e2 : (s == 2) = false := by simpa using s2
            go_enter Try.func115, Try.ntmps115
            go_wp2
            go_ret
            exact ⟨by rw [HV.out]; simp; try omega, HB.out⟩
      · go_enter Try.func115, Try.ntmps115
        go_wp2
        go_ret
        exact ⟨by rw [HV.out]; simp; try omega, HB.out⟩
    · go_enter Try.func115, Try.ntmps115
      go_wp2
      go_ret
      exact ⟨by rw [HV.out]; simp; try omega, HB.out⟩
def vgood (a b : Int) : Bool := decide (0 ≤ a) && (decide (a ≤ 1099511627776) && (decide (0 ≤ b) && decide (b ≤ 1099511627776)))
def vcov (a b c d : Int) : Bool := decide (c ≤ a) && decide (d ≤ b)
set_option maxHeartbeats 1600000 in
theorem rvgood_c (a b : Int) (w : World) : Calls Try.prog 113 #[.agg #[.int .i64 a, .int .i64 b]] w (Tells (.bool (vgood a b)) w) := by
  have hp := Pair.new w 73 a b
  have hb := alloc_below w (.cells #[.int .i64 a, .int .i64 b] 73)
  have h0 := hp.c0
  have h1 := hp.c1
  have HB := Lib.hid hb
  have HV := Lib.hid (show vgood a b = (decide (0 ≤ a) && (decide (a ≤ 1099511627776) && (decide (0 ≤ b) && decide (b ≤ 1099511627776)))) from rfl)
  clear hp hb
  by_cases g0 : 0 ≤ a
  · by_cases g1 : a ≤ 1099511627776
    · by_cases g2 : 0 ≤ b
      · by_cases g3 : b ≤ 1099511627776
        · go_enter Try.func113, Try.ntmps113
          go_wp2
          go_ret
          exact ⟨by rw [HV.out]; simp; omega, HB.out⟩
        · go_enter Try.func113, Try.ntmps113
          go_wp2
          go_ret
          exact ⟨by rw [HV.out]; simp; omega, HB.out⟩
      · go_enter Try.func113, Try.ntmps113
        go_wp2
        go_ret
        exact ⟨by rw [HV.out]; simp; omega, HB.out⟩
    · go_enter Try.func113, Try.ntmps113
      go_wp2
      go_ret
      exact ⟨by rw [HV.out]; simp; omega, HB.out⟩
  · go_enter Try.func113, Try.ntmps113
    go_wp2
    go_ret
    exact ⟨by rw [HV.out]; simp; omega, HB.out⟩
theorem size2 (a b : Int) : (Try.prog.info? 73).map (·.size) = some (#[Value.int .i64 a, Value.int .i64 b] : Array Value).size := by
  show _ = some 2
  kernel_rfl
/-- The greatest counts of a list. -/
def joinS (l : List (Int × Int)) : Int × Int := l.foldl (fun r p => (Max.max r.1 p.1, Max.max r.2 p.2)) (0, 0)
theorem joinS_take (l : List (Int × Int)) (k : Nat) (h : k < l.length) : joinS (l.take (k + 1)) = (Max.max (joinS (l.take k)).1 (l.getD k (0, 0)).1, Max.max (joinS (l.take k)).2 (l.getD k (0, 0)).2) := by
  unfold joinS
  rw [List.take_succ_eq_append_getElem h, List.foldl_append, List.getD_eq_getElem?_getD, List.getElem?_eq_getElem h]
  rfl
theorem prs2 (W : World) (a b c d : Int) : Prs (W.alloc (.cells #[.int .i64 a, .int .i64 b, .int .i64 c, .int .i64 d] 73)) (some ⟨W.heap.size, 0, none⟩) 2 2 [(a, b), (c, d)] := by
  have h : (W.alloc (.cells #[.int .i64 a, .int .i64 b, .int .i64 c, .int .i64 d] 73)).heap[W.heap.size]? = some (.cells #[.int .i64 a, .int .i64 b, .int .i64 c, .int .i64 d] 73 (0, 0)) := heap_alloc_new W _
  refine ⟨rfl, Nat.le_refl _, by omega, .inr ⟨W.heap.size, 0, rfl, fun i hi => ?_⟩⟩
  rcases (by omega : i = 0 ∨ i = 1) with rfl | rfl
  · exact ⟨by rw [cell_of_row _ _ _ _ _ _ h]; rfl, by rw [cell_of_row _ _ _ _ _ _ h]; rfl⟩
  · exact ⟨by rw [cell_of_row _ _ _ _ _ _ h]; rfl, by rw [cell_of_row _ _ _ _ _ _ h]; rfl⟩
end Go.Proofs.Ytidbjmkfmfojdaa
end

section
namespace Go.Proofs.Ytidbjmkfmfojdaa
open Go.RowKit Go Go.Sort Go.Deep
set_option linter.unusedVariables false
set_option maxRecDepth 20000

def IsI64 (n : Int) : Prop := -9223372036854775808 ≤ n ∧ n ≤ 9223372036854775807
theorem isI64_of_wf {n : Int} (h : (Lit.int .i64 n).wf = true) : IsI64 n := by
  simpa [IsI64, Lit.wf, IntKind.min, IntKind.max, IntKind.signed, IntKind.bits] using h
theorem stamp_cells {H : Type} {enc : TypeId × Value → H} {W : World} {base : Nat} {sp held : Bool} {fuel : Nat} {cs : List Value} {x : DataW H × List MemPlace} (h : DataW.trod enc Try.prog W base (fun _ => sp) held fuel 71 cs = some x) :
    ∃ a b, cs = [.int .i64 a, .int .i64 b] ∧ IsI64 a ∧ IsI64 b := by
  obtain ⟨xs, m, _, rfl, hl, hlen, hf⟩ := DataW.trod_struct Try.underlying71 h
  have h2 : Try.prog.cellsOf 71 = 2 := by kernel_rfl
  have h1 : Try.prog.cellsOf 3 = 1 := by kernel_rfl
  rw [h2] at hl
  match xs, hlen with
  | [y0, y1], _ =>
    have i0 := hf 0 _ rfl
    have i1 := hf 1 _ rfl
    match cs, hl with
    | [c0, c1], _ =>
      have j0 : DataW.trod enc Try.prog W base (fun _ => sp) held m 3 (([c0, c1].drop 0).take (Try.prog.cellsOf 3)) = some y0 := i0
      have j1 : DataW.trod enc Try.prog W base (fun _ => sp) held m 3 (([c0, c1].drop 1).take (Try.prog.cellsOf 3)) = some y1 := i1
      rw [h1] at j0 j1
      obtain ⟨a, ha, _, wa⟩ := DataW.trod_int Try.underlying3 j0
      obtain ⟨b, hb, _, wb⟩ := DataW.trod_int Try.underlying3 j1
      simp at ha hb
      subst ha
      subst hb
      exact ⟨a, b, rfl, isI64_of_wf wa, isI64_of_wf wb⟩
theorem vec_cells {H : Type} {enc : TypeId × Value → H} {W : World} {base : Nat} {sp : Nat → Bool} {held : Bool} {fuel : Nat} {cs : List Value} {x : DataW H × List MemPlace} (h : DataW.trod enc Try.prog W base sp held fuel 73 cs = some x) :
    ∃ a b, cs = [.int .i64 a, .int .i64 b] ∧ IsI64 a ∧ IsI64 b := by
  obtain ⟨xs, m, rfl, rfl, hl, hx, hi⟩ := DataW.trod_array Try.underlying73 h
  have h2 : Try.prog.cellsOf 73 = 2 := by kernel_rfl
  have h1 : Try.prog.cellsOf 3 = 1 := by kernel_rfl
  rw [h2] at hl
  rw [h1] at hi
  match cs, hl with
  | [c0, c1], _ =>
    have i0 := hi 0 (by omega)
    have i1 := hi 1 (by omega)
    rw [List.getElem?_eq_getElem (by omega)] at i0 i1
    obtain ⟨a, ha, _, wa⟩ := DataW.trod_int Try.underlying3 i0
    obtain ⟨b, hb, _, wb⟩ := DataW.trod_int Try.underlying3 i1
    simp at ha hb
    subst ha
    subst hb
    exact ⟨a, b, rfl, isI64_of_wf wa, isI64_of_wf wb⟩
theorem srun_part_int {W : World} (xs : Array Value) (k : Nat) {v : Value} (hv : xs[k]? = some v) : (part 3 xs k).run Try.prog W = .ok v W := by
  have hi : (Try.prog.info? 3).map (fun i => (i.zero, i.size, i.bytes)) = some (some (.int .i64 0), 1, 8) := by kernel_rfl
  obtain ⟨i0, hi, hz0, hz1, hz2⟩ := info_parts hi
  have hag : (isAgg 3).run Try.prog W = .ok false W := by
    unfold isAgg
    rw [Sem.run_bind, run_underlying Try.underlying3 W]
    rfl
  simp [part, hag, sizeOf, typeInfo, hi, hz1, hv, go_sem]
theorem stamp_eqIn (x y x' y' : Int) (W : World) : (Op.equalIn 10000 71 (.agg #[.int .i64 x, .int .i64 y]) (.agg #[.int .i64 x', .int .i64 y'])).run Try.prog W = .ok ((x == x') && (y == y')) W := by
  rw [run_equalIn_struct W 9999 _ _ _ Try.underlying71 (by kernel_rfl)]
  obtain ⟨f0, f1, hf, h0, h1, t0, t1, n0, n1⟩ : ∃ f0 f1, (Try.prog.fieldsOf 71).toList = [f0, f1] ∧ f0.offset = 0 ∧ f1.offset = 1 ∧ f0.type = 3 ∧ f1.type = 3 ∧ f0.name ≠ "_" ∧ f1.name ≠ "_" := ⟨_, _, rfl, rfl, rfl, rfl, rfl, by decide, by decide⟩
  rw [hf]
  have p0 := srun_part_int (W := W) #[.int .i64 x, .int .i64 y] 0 rfl
  have p1 := srun_part_int (W := W) #[.int .i64 x, .int .i64 y] 1 rfl
  have q0 := srun_part_int (W := W) #[.int .i64 x', .int .i64 y'] 0 rfl
  have q1 := srun_part_int (W := W) #[.int .i64 x', .int .i64 y'] 1 rfl
  cases e0 : (x == x') <;> cases e1 : (y == y') <;> simp [Op.eqFields, n0, n1, h0, h1, t0, t1, p0, q0, p1, q1, e0, e1, run_equalIn_int W 9998 3 .i64 .i64 _ _ Try.underlying3, Sem.run_bind, Result.andThen_ok]
theorem stamp_eql (x y : Int) (W : World) : (binOp .eql 71 (.agg #[.int .i64 x, .int .i64 y]) (.agg #[.int .i64 x, .int .i64 y])).run Try.prog W = .ok (.bool true) W := by
  rw [run_eql_struct, stamp_eqIn]; simp
theorem stamp_eqg (op : BinOp) (x y : Operand) (xs ys : Array Value) (W : World) : (eqGuard op 71 x y (.agg xs) (.agg ys)).run Try.prog W = .ok () W := run_eqGuard_agg W op _ x y xs ys (by kernel_rfl)
theorem stamp_eqb (x y x' y' : Int) (b : Bool) (h : ((x == x') && (y == y')) = b) (W : World) : (binOp .eql 71 (.agg #[.int .i64 x, .int .i64 y]) (.agg #[.int .i64 x', .int .i64 y'])).run Try.prog W = .ok (.bool b) W := by
  rw [run_eql_struct, stamp_eqIn, h]; rfl
set_option maxHeartbeats 800000 in
theorem issite_c (s : Int) (w : World) : Calls Try.prog 145 #[.int .i64 s] w (fun e w' => e = .returned (.bool (decide (s = 1 ∨ s = 2))) ∧ w' = w) := by
  by_cases h1 : s = 1
  · subst h1
    go_enter Try.func145, Try.ntmps145
    go_wp2
    go_ret
    exact ⟨rfl, rfl⟩
  · have e1 : (s == 1) = false := by simpa using h1
    by_cases h2 : s = 2
    · subst h2
      go_enter Try.func145, Try.ntmps145
      go_wp2
      go_ret
      exact ⟨rfl, rfl⟩
    · have e2 : (s == 2) = false := by simpa using h2
      have hd : decide (s = 1 ∨ s = 2) = false := by simp [h1, h2]
      rw [hd]
      clear h1 h2 hd
      go_enter Try.func145, Try.ntmps145
      go_wp2
      go_ret
      exact ⟨rfl, rfl⟩
set_option maxHeartbeats 1600000 in
theorem sgood_c (n s : Int) (w : World) : Calls Try.prog 139 #[.agg #[.int .i64 n, .int .i64 s]] w (Tells (.bool (sgood n s)) w) := by
  have hp := Pair.new w 71 n s
  have hb := alloc_below w (.cells #[.int .i64 n, .int .i64 s] 71)
  have h0 := hp.c0
  have h1 := hp.c1
  have HB := Lib.hid hb
  have HS := Lib.hid (issite_c s)
  have hEG := stamp_eqg
  clear hp hb
  by_cases z : n = 0 ∧ s = 0
  · obtain ⟨rfl, rfl⟩ := z
    have hEQ := stamp_eql
    rw [show sgood 0 0 = true by decide]
    go_enter Try.func139, Try.ntmps139
    go_wp2
    go_ret
    exact ⟨rfl, HB.out⟩
  · have hEQ := stamp_eqb n s 0 0 false (by rw [Bool.eq_false_iff]; simp; intro h1 h2; exact z ⟨h1, h2⟩)
    by_cases hs : s = 1 ∨ s = 2
    · rw [decide_eq_true hs] at HS
      by_cases n1 : 1 ≤ n
      · by_cases n2 : n ≤ 281474976710656
        · have hv : sgood n s = true := by unfold sgood; simp; omega
          rw [hv]
          clear hv z hs
          go_enter Try.func139, Try.ntmps139
          go_wp2_with (go_at_call 145; (with_reducible refine (HS.out _).mono ?_); rintro e w1 ⟨rfl, rfl⟩)
          go_ret
          exact ⟨rfl, HB.out⟩
        · have hv : sgood n s = false := by unfold sgood; simp; omega
          rw [hv]
          clear hv z hs
          go_enter Try.func139, Try.ntmps139
          go_wp2_with (go_at_call 145; (with_reducible refine (HS.out _).mono ?_); rintro e w1 ⟨rfl, rfl⟩)
          go_ret
          exact ⟨by simp; omega, HB.out⟩
      · have hv : sgood n s = false := by unfold sgood; simp; omega
        rw [hv]
        clear hv z hs
        go_enter Try.func139, Try.ntmps139
        go_wp2_with (go_at_call 145; (with_reducible refine (HS.out _).mono ?_); rintro e w1 ⟨rfl, rfl⟩)
        go_ret
        exact ⟨rfl, HB.out⟩
    · rw [decide_eq_false hs] at HS
      have hv : sgood n s = false := by unfold sgood; simp; omega
      rw [hv]
      clear hv z hs
      go_enter Try.func139, Try.ntmps139
      go_wp2_with (go_at_call 145; (with_reducible refine (HS.out _).mono ?_); rintro e w1 ⟨rfl, rfl⟩)
      go_ret
      exact ⟨rfl, HB.out⟩
theorem run_part_int {W : World} (xs : Array Value) (k : Nat) {v : Value} (hv : xs[k]? = some v) : (part 3 xs k).run Try.prog W = .ok v W := by
  have hi : (Try.prog.info? 3).map (fun i => (i.zero, i.size, i.bytes)) = some (some (.int .i64 0), 1, 8) := by kernel_rfl
  obtain ⟨i0, hi, hz0, hz1, hz2⟩ := info_parts hi
  have hag : (isAgg 3).run Try.prog W = .ok false W := by
    unfold isAgg
    rw [Sem.run_bind, run_underlying Try.underlying3 W]
    rfl
  simp [part, hag, sizeOf, typeInfo, hi, hz1, hv, go_sem]
theorem vec_eqIn (x y x' y' : Int) (W : World) : (Op.equalIn 10000 73 (.agg #[.int .i64 x, .int .i64 y]) (.agg #[.int .i64 x', .int .i64 y'])).run Try.prog W = .ok ((x == x') && (y == y')) W := by
  have hi : (Try.prog.info? 3).map (fun i => (i.zero, i.size, i.bytes)) = some (some (.int .i64 0), 1, 8) := by kernel_rfl
  obtain ⟨i3, hi3, _, _, _⟩ := info_parts hi
  have hc : Try.prog.cellsOf 3 = 1 := by kernel_rfl
  rw [run_equalIn_array W 9999 _ _ Try.underlying73 hi3, hc]
  have p0 := run_part_int (W := W) #[.int .i64 x, .int .i64 y] 0 rfl
  have p1 := run_part_int (W := W) #[.int .i64 x, .int .i64 y] 1 rfl
  have q0 := run_part_int (W := W) #[.int .i64 x', .int .i64 y'] 0 rfl
  have q1 := run_part_int (W := W) #[.int .i64 x', .int .i64 y'] 1 rfl
  show (Op.eqItems 9999 3 1 _ _ [0, 1]).run Try.prog W = _
  simp only [Op.eqItems, Sem.run_bind, Nat.zero_mul, Nat.one_mul, p0, q0, Result.andThen_ok]
  cases h0 : (x == x') <;> cases h1 : (y == y') <;> simp [p1, q1, h0, h1, run_equalIn_int W 9998 3 .i64 .i64 _ _ Try.underlying3]
theorem vec_eqg (op : BinOp) (x y : Operand) (xs ys : Array Value) (W : World) : (eqGuard op 73 x y (.agg xs) (.agg ys)).run Try.prog W = .ok () W := run_eqGuard_agg W op _ x y xs ys (by kernel_rfl)
/-- One block is other than it was. -/
structure Wrote (g : Nat) (cs : Array Value) (t : TypeId) (w w' : World) : Prop where
  os : w'.os = w.os
  tape : w'.tape = w.tape
  output : w'.output = w.output
  size : w.heap.size ≤ w'.heap.size
  cell : w'.heap[g]? = some (.cells cs t (0, 0))
  rest : ∀ k, k < w.heap.size → k ≠ g → w'.heap[k]? = w.heap[k]?
theorem Wrote.below {g : Nat} {cs : Array Value} {t : TypeId} {w w' : World} (h : Wrote g cs t w w') {B : Nat} (hB : B ≤ g) (hg : g ≤ w.heap.size) : Below B w w' :=
  ⟨h.os, h.tape, h.output, h.size, fun k hk => h.rest k (by omega) (by omega)⟩
theorem Wrote.of_set {g : Nat} {t : TypeId} {w w1 : World} {cs : Array Value} (hb : Below w.heap.size w w1) (hc : w1.heap[g]? = some (.cells cs t (0, 0))) (i : Nat) (v : Value) :
    Wrote g (cs.setIfInBounds i v) t w (w1.setCell ⟨g, i, none⟩ v) := by
  refine ⟨hb.os, hb.tape, hb.output, ?_, heap_setCell_same w1 g i _ t _ hc, fun k hk hkg => ?_⟩
  · exact Nat.le_trans hb.size (Nat.le_of_eq (World.size_setCell _ _ _).symm)
  · rw [heap_setCell_other w1 _ k _ hkg]; exact hb.block k hk
theorem Wrote.trans {g : Nat} {t : TypeId} {w w1 w2 : World} {cs cs' : Array Value} (h : Wrote g cs t w w1) (k : Wrote g cs' t w1 w2) : Wrote g cs' t w w2 :=
  ⟨k.os.trans h.os, k.tape.trans h.tape, k.output.trans h.output, Nat.le_trans h.size k.size, k.cell, fun i hi hg => (k.rest i (Nat.lt_of_lt_of_le hi h.size) hg).trans (h.rest i hi hg)⟩
theorem Wrote.after {g : Nat} {t : TypeId} {w w1 w2 : World} {cs : Array Value} (h : Below w.heap.size w w1) (k : Wrote g cs t w1 w2) : Wrote g cs t w w2 :=
  ⟨k.os.trans h.os, k.tape.trans h.tape, k.output.trans h.output, Nat.le_trans h.size k.size, k.cell, fun i hi hg => (k.rest i (Nat.lt_of_lt_of_le hi h.size) hg).trans (h.block i hi)⟩
theorem Wrote.pair {g g' : Nat} {t t' : TypeId} {w w' : World} {cs : Array Value} {a b : Int} (h : Wrote g cs t w w') (hp : Pair w g' t' a b) (hne : g' ≠ g) : Pair w' g' t' a b :=
  (h.rest g' hp.lt hne).trans hp
/-- Nothing comes back; one block is other than it was. -/
def Sets (g : Nat) (cs : Array Value) (t : TypeId) (w : World) (e : Ending) (w' : World) : Prop := e = .returned (.tuple #[]) ∧ Wrote g cs t w w'
theorem idx_vec (xs : Array Value) (k : Nat) (hk : k < 2) {v : Value} (hv : xs[k]? = some v) (W : World) : (Instr.index 73 (.agg xs) (.int .i64 (k : Int))).run Try.prog W = .ok v W := by
  have hi : (Try.prog.info? 3).map (fun i => (i.zero, i.size, i.bytes)) = some (some (.int .i64 0), 1, 8) := by kernel_rfl
  obtain ⟨i0, hi, hz0, hz1, hz2⟩ := info_parts hi
  simp [Instr.index, run_underlying Try.underlying73, asIntOf, hk, hv, sizeOf, typeInfo, hi, hz1, go_sem]
theorem idx0 (a b : Int) (W : World) : (Instr.index 73 (.agg #[.int .i64 a, .int .i64 b]) (.int .i64 0)).run Try.prog W = .ok (.int .i64 a) W := idx_vec _ 0 (by decide) rfl W
theorem idx1 (a b : Int) (W : World) : (Instr.index 73 (.agg #[.int .i64 a, .int .i64 b]) (.int .i64 1)).run Try.prog W = .ok (.int .i64 b) W := idx_vec _ 1 (by decide) rfl W
theorem step_cov (k : Bool) (a b c d : Int) : (k && decide (c ≤ a) && decide (d ≤ b)) = (k && vcov a b c d) := by unfold vcov; cases k <;> rfl
set_option maxHeartbeats 800000 in
theorem cov1_c (i x y : Int) (c : Bool) (g : Nat) {w : World} (h : w.heap[g]? = some (.cells #[.bool c] 4 (0, 0))) :
    Calls Try.prog 140 #[.int .i64 i, .int .i64 x, .int .i64 y, .pointer (some ⟨g, 0, none⟩)] w (Sets g #[.bool (c && decide (y ≤ x))] 4 w) := by
  have h0 : w.cell? ⟨g, 0, none⟩ = some (.bool c) := by rw [cell_of_row w g 0 _ 4 (0, 0) h]; rfl
  have hz : w.frozen? ⟨g, 0, none⟩ = false := frozen_of_row w g 0 _ 4 h
  have HH := Lib.hid h
  clear h
  cases c <;> by_cases g0 : y ≤ x
  all_goals
    have HD := Lib.hid (show decide (y ≤ x) = _ from rfl)
    simp only [g0, decide_true, decide_false] at HD
    go_enter Try.func140, Try.ntmps140
    go_wp2
    refine bodyPost_ret (results_none rfl _ _ _) rfl ⟨rfl, ?_⟩
    first
      | exact Wrote.of_set (Below.refl _ _) HH.out 0 _
      | (have hd : decide (y ≤ x) = false := by simp; omega
         rw [hd]; exact Wrote.of_set (Below.refl _ _) HH.out 0 _)
      | (have hd : decide (y ≤ x) = true := by simp; omega
         rw [hd]; exact Wrote.of_set (Below.refl _ _) HH.out 0 _)
set_option maxHeartbeats 800000 in
theorem join1_c0 (x y p q : Int) (g : Nat) {w : World} (h : w.heap[g]? = some (.cells #[.int .i64 p, .int .i64 q] 73 (0, 0))) :
    Calls Try.prog 136 #[.int .i64 0, .int .i64 x, .int .i64 y, .pointer (some ⟨g, 0, none⟩)] w (Sets g #[.int .i64 (Max.max x y), .int .i64 q] 73 w) := by
  have h0 := Pair.c0 h
  have hz := Pair.fz h 0
  have HH := Lib.hid h
  clear h
  go_enter Try.func136, Try.ntmps136
  go_wp2
  all_goals
    refine bodyPost_ret (results_none rfl _ _ _) rfl ⟨rfl, ?_⟩
    first
      | exact Wrote.of_set (Below.refl _ _) HH.out 0 _
      | (have hm : Max.max x y = x := by omega
         rw [hm]; exact Wrote.of_set (Below.refl _ _) HH.out 0 _)
      | (have hm : Max.max x y = y := by omega
         rw [hm]; exact Wrote.of_set (Below.refl _ _) HH.out 0 _)
set_option maxHeartbeats 800000 in
theorem join1_c1 (x y p q : Int) (g : Nat) {w : World} (h : w.heap[g]? = some (.cells #[.int .i64 p, .int .i64 q] 73 (0, 0))) :
    Calls Try.prog 136 #[.int .i64 1, .int .i64 x, .int .i64 y, .pointer (some ⟨g, 0, none⟩)] w (Sets g #[.int .i64 p, .int .i64 (Max.max x y)] 73 w) := by
  have h0 := Pair.c1 h
  have hz := Pair.fz h 1
  have HH := Lib.hid h
  clear h
  go_enter Try.func136, Try.ntmps136
  go_wp2
  all_goals
    refine bodyPost_ret (results_none rfl _ _ _) rfl ⟨rfl, ?_⟩
    first
      | exact Wrote.of_set (Below.refl _ _) HH.out 1 _
      | (have hm : Max.max x y = x := by omega
         rw [hm]; exact Wrote.of_set (Below.refl _ _) HH.out 1 _)
      | (have hm : Max.max x y = y := by omega
         rw [hm]; exact Wrote.of_set (Below.refl _ _) HH.out 1 _)
set_option maxHeartbeats 1600000 in
theorem each_cov (a b c d : Int) (k : Bool) (g : Nat) {w : World} (h : w.heap[g]? = some (.cells #[.bool k] 4 (0, 0))) :
    Calls Try.prog 135 #[.agg #[.int .i64 a, .int .i64 b], .agg #[.int .i64 c, .int .i64 d], .func (.func 140) #[] #[.pointer (some ⟨g, 0, none⟩)]] w (Sets g #[.bool (k && decide (c ≤ a) && decide (d ≤ b))] 4 w) := by
  have hg : g < w.heap.size := (Array.getElem?_eq_some_iff.1 h).1
  have hp := (Pair.new w 73 a b).alloc (.cells #[.int .i64 c, .int .i64 d] 73)
  have hq := Pair.second w (.cells #[.int .i64 a, .int .i64 b] 73) 73 c d
  have hb := second_below w (.cells #[.int .i64 a, .int .i64 b] 73) (.cells #[.int .i64 c, .int .i64 d] 73)
  have hW : Wrote g #[.bool k] 4 w ((w.alloc (.cells #[.int .i64 a, .int .i64 b] 73)).alloc (.cells #[.int .i64 c, .int .i64 d] 73)) :=
    ⟨hb.os, hb.tape, hb.output, hb.size, (hb.block g hg).trans h, fun k hk _ => hb.block k hk⟩
  have HA := Lib.hid (fun (W : World) (h : W.heap[g]? = _) => cov1_c 0 a c k g h)
  have HB := Lib.hid (fun (W : World) (h : W.heap[g]? = _) => cov1_c 1 b d (k && decide (c ≤ a)) g h)
  clear h hb
  go_enter Try.func135, Try.ntmps135
  go_upto_region 1 with (fail)
  generalize (w.alloc (.cells #[.int .i64 a, .int .i64 b] 73)).alloc (.cells #[.int .i64 c, .int .i64 d] 73) = W1 at *
  have p0 := hp.c0
  have p1 := hp.c1
  have HP := Lib.hid hp
  have HQ := Lib.hid hq
  have HW := Lib.hid hW
  clear hp hq hW
  go_wp2
  go_loopw [9] (fun i wr => (Pair wr w.heap.size 73 a b ∧ Pair wr (w.heap.size + 1) 73 c d) ∧ ((i = .int .i64 0 ∧ Wrote g #[.bool k] 4 w wr) ∨ (i = .int .i64 1 ∧ Wrote g #[.bool (k && decide (c ≤ a))] 4 w wr) ∨ (i = .int .i64 2 ∧ Wrote g #[.bool (k && decide (c ≤ a) && decide (d ≤ b))] 4 w wr))) (fun i _ => 2 - (intOf i).toNat)
  case atStart => exact ⟨⟨HP.out, HQ.out⟩, .inl ⟨rfl, HW.out⟩⟩
  case round =>
    clear HP HQ HW p0 p1
    obtain ⟨⟨hp, hq⟩, ⟨rfl, hW⟩ | ⟨rfl, hW⟩ | ⟨rfl, hW⟩⟩ := hrel
    · have q0 := hq.c0
      have hix := idx0 a b
      have HP := Lib.hid hp
      have HQ := Lib.hid hq
      have HW := Lib.hid hW
      clear hp hq hW
      go_wp2_with (go_at_call 140; (with_reducible refine (HA.out _ HW.out.cell).mono ?_); rintro e w2 ⟨rfl, hw2⟩)
      have HR := Lib.hid (HW.out.trans hw2)
      have HP2 := Lib.hid (hw2.pair HP.out (by omega))
      have HQ2 := Lib.hid (hw2.pair HQ.out (by omega))
      clear hw2 q0
      go_wp2
      go_roundw
      case rel => exact ⟨⟨HP2.out, HQ2.out⟩, .inr (.inl ⟨rfl, HR.out⟩)⟩
      case measure => simp [intOf]
    · have q1 := hq.c1
      have hix := idx1 a b
      have HP := Lib.hid hp
      have HQ := Lib.hid hq
      have HW := Lib.hid hW
      clear hp hq hW
      go_wp2_with (go_at_call 140; (with_reducible refine (HB.out _ HW.out.cell).mono ?_); rintro e w2 ⟨rfl, hw2⟩)
      have HR := Lib.hid (HW.out.trans hw2)
      have HP2 := Lib.hid (hw2.pair HP.out (by omega))
      have HQ2 := Lib.hid (hw2.pair HQ.out (by omega))
      clear hw2 q1
      go_wp2
      go_roundw
      case rel => exact ⟨⟨HP2.out, HQ2.out⟩, .inr (.inr ⟨rfl, HR.out⟩)⟩
      case measure => simp [intOf]
    · have HW := Lib.hid hW
      clear hp hq hW
      go_wp2
      refine bodyPost_ret (results_none rfl _ _ _) rfl ⟨rfl, HW.out⟩
set_option maxHeartbeats 1600000 in
theorem each_join (a b c d : Int) (p q : Int) (g : Nat) {w : World} (h : w.heap[g]? = some (.cells #[.int .i64 p, .int .i64 q] 73 (0, 0))) :
    Calls Try.prog 135 #[.agg #[.int .i64 a, .int .i64 b], .agg #[.int .i64 c, .int .i64 d], .func (.func 136) #[] #[.pointer (some ⟨g, 0, none⟩)]] w (Sets g #[.int .i64 (Max.max a c), .int .i64 (Max.max b d)] 73 w) := by
  have hg : g < w.heap.size := (Array.getElem?_eq_some_iff.1 h).1
  have hp := (Pair.new w 73 a b).alloc (.cells #[.int .i64 c, .int .i64 d] 73)
  have hq := Pair.second w (.cells #[.int .i64 a, .int .i64 b] 73) 73 c d
  have hb := second_below w (.cells #[.int .i64 a, .int .i64 b] 73) (.cells #[.int .i64 c, .int .i64 d] 73)
  have hW : Wrote g #[.int .i64 p, .int .i64 q] 73 w ((w.alloc (.cells #[.int .i64 a, .int .i64 b] 73)).alloc (.cells #[.int .i64 c, .int .i64 d] 73)) :=
    ⟨hb.os, hb.tape, hb.output, hb.size, (hb.block g hg).trans h, fun k hk _ => hb.block k hk⟩
  have HA := Lib.hid (fun (W : World) (h : W.heap[g]? = _) => join1_c0 a c p q g h)
  have HB := Lib.hid (fun (W : World) (h : W.heap[g]? = _) => join1_c1 b d (Max.max a c) q g h)
  clear h hb
  go_enter Try.func135, Try.ntmps135
  go_upto_region 1 with (fail)
  generalize (w.alloc (.cells #[.int .i64 a, .int .i64 b] 73)).alloc (.cells #[.int .i64 c, .int .i64 d] 73) = W1 at *
  have p0 := hp.c0
  have p1 := hp.c1
  have HP := Lib.hid hp
  have HQ := Lib.hid hq
  have HW := Lib.hid hW
  clear hp hq hW
  go_wp2
  go_loopw [9] (fun i wr => (Pair wr w.heap.size 73 a b ∧ Pair wr (w.heap.size + 1) 73 c d) ∧ ((i = .int .i64 0 ∧ Wrote g #[.int .i64 p, .int .i64 q] 73 w wr) ∨ (i = .int .i64 1 ∧ Wrote g #[.int .i64 (Max.max a c), .int .i64 q] 73 w wr) ∨ (i = .int .i64 2 ∧ Wrote g #[.int .i64 (Max.max a c), .int .i64 (Max.max b d)] 73 w wr))) (fun i _ => 2 - (intOf i).toNat)
  case atStart => exact ⟨⟨HP.out, HQ.out⟩, .inl ⟨rfl, HW.out⟩⟩
  case round =>
    clear HP HQ HW p0 p1
    obtain ⟨⟨hp, hq⟩, ⟨rfl, hW⟩ | ⟨rfl, hW⟩ | ⟨rfl, hW⟩⟩ := hrel
    · have q0 := hq.c0
      have hix := idx0 a b
      have HP := Lib.hid hp
      have HQ := Lib.hid hq
      have HW := Lib.hid hW
      clear hp hq hW
      go_wp2_with (go_at_call 136; (with_reducible refine (HA.out _ HW.out.cell).mono ?_); rintro e w2 ⟨rfl, hw2⟩)
      have HR := Lib.hid (HW.out.trans hw2)
      have HP2 := Lib.hid (hw2.pair HP.out (by omega))
      have HQ2 := Lib.hid (hw2.pair HQ.out (by omega))
      clear hw2 q0
      go_wp2
      go_roundw
      case rel => exact ⟨⟨HP2.out, HQ2.out⟩, .inr (.inl ⟨rfl, HR.out⟩)⟩
      case measure => simp [intOf]
    · have q1 := hq.c1
      have hix := idx1 a b
      have HP := Lib.hid hp
      have HQ := Lib.hid hq
      have HW := Lib.hid hW
      clear hp hq hW
      go_wp2_with (go_at_call 136; (with_reducible refine (HB.out _ HW.out.cell).mono ?_); rintro e w2 ⟨rfl, hw2⟩)
      have HR := Lib.hid (HW.out.trans hw2)
      have HP2 := Lib.hid (hw2.pair HP.out (by omega))
      have HQ2 := Lib.hid (hw2.pair HQ.out (by omega))
      clear hw2 q1
      go_wp2
      go_roundw
      case rel => exact ⟨⟨HP2.out, HQ2.out⟩, .inr (.inr ⟨rfl, HR.out⟩)⟩
      case measure => simp [intOf]
    · have HW := Lib.hid hW
      clear hp hq hW
      go_wp2
      refine bodyPost_ret (results_none rfl _ _ _) rfl ⟨rfl, HW.out⟩
theorem Wrote.flag {g : Nat} {v : Value} {t : TypeId} {w w' : World} (h : Wrote g #[v] t w w') : w'.cell? ⟨g, 0, none⟩ = some v := by
  rw [cell_of_row w' g 0 _ t (0, 0) h.cell]; rfl
theorem flag_new (W : World) (v : Value) (t : TypeId) : (W.alloc (.cells #[v] t)).heap[W.heap.size]? = some (.cells #[v] t (0, 0)) := heap_alloc_new W _
theorem mkf (fn : Fn) (first cap : Array Value) (w : World) : (Instr.makeFunc fn first cap).run Try.prog w = .ok (.func fn first cap) w := rfl
set_option maxHeartbeats 1600000 in
theorem vcov_c (a b c d : Int) (w : World) : Calls Try.prog 129 #[.agg #[.int .i64 a, .int .i64 b], .agg #[.int .i64 c, .int .i64 d]] w (Tells (.bool (vcov a b c d)) w) := by
  have hp := (Pair.new w 73 a b).alloc (.cells #[.int .i64 c, .int .i64 d] 73)
  have hq := Pair.second w (.cells #[.int .i64 a, .int .i64 b] 73) 73 c d
  have hb := second_below w (.cells #[.int .i64 a, .int .i64 b] 73) (.cells #[.int .i64 c, .int .i64 d] 73)
  have hs : ((w.alloc (.cells #[.int .i64 a, .int .i64 b] 73)).alloc (.cells #[.int .i64 c, .int .i64 d] 73)).heap.size = w.heap.size + 1 + 1 := by simp
  have HE := Lib.hid (fun (W : World) (g : Nat) (h : W.heap[g]? = _) => each_cov a b c d true g h)
  have HS := Lib.hid (step_cov true a b c d)
  have hmf := mkf
  go_enter Try.func129, Try.ntmps129
  go_upto_region 1 with (fail)
  generalize (w.alloc (.cells #[.int .i64 a, .int .i64 b] 73)).alloc (.cells #[.int .i64 c, .int .i64 d] 73) = W1 at *
  have HP := Lib.hid hp
  have HQ := Lib.hid hq
  have HB := Lib.hid hb
  have HZ := Lib.hid hs
  clear hp hq hb hs
  go_upto_region 2 with (fail)
  have hp2 := HP.out.alloc (.cells #[.bool true] 4)
  have hq2 := HQ.out.alloc (.cells #[.bool true] 4)
  have hb2 := HB.out.alloc HB.out.size (.cells #[.bool true] 4)
  have hf2 := flag_new W1 (.bool true) 4
  obtain ⟨g, hg⟩ : ∃ g, W1.heap.size = g := ⟨_, rfl⟩
  have hs2 : g ≤ (W1.alloc (.cells #[.bool true] 4)).heap.size := by simp [World.size_alloc]; omega
  have hwg : w.heap.size ≤ g := by rw [← hg]; exact HB.out.size
  rw [hg] at hf2 ⊢
  generalize W1.alloc (.cells #[.bool true] 4) = W2 at *
  have p0 := hp2.c0
  have p1 := hp2.c1
  have q0 := hq2.c0
  have q1 := hq2.c1
  have HF := Lib.hid hf2
  have HB2 := Lib.hid hb2
  have HS2 := Lib.hid hs2
  clear hp2 hq2 hf2 hb2 hs2 HP HQ HB HZ hg
  go_upto_region 3 with (go_at_call 135; (with_reducible refine (HE.out _ g HF.out).mono ?_); rintro e w3 ⟨rfl, hw3⟩)
  have hv := hw3.flag
  rw [HS.out] at hv
  have HW := Lib.hid (HB2.out.trans (hw3.below hwg HS2.out))
  clear hw3 p0 p1 q0 q1
  go_wp2
  go_ret
  exact ⟨by simp, HW.out⟩
theorem vgood_cov (a b : Int) : vgood a b = (vcov a b 0 0 && vcov 1099511627776 1099511627776 a b) := by
  unfold vgood vcov
  rw [Bool.eq_iff_iff]
  simp only [Bool.and_eq_true, decide_eq_true_eq]
  omega
set_option maxHeartbeats 1600000 in
theorem vgood_c (a b : Int) (w : World) : Calls Try.prog 127 #[.agg #[.int .i64 a, .int .i64 b]] w (Tells (.bool (vgood a b)) w) := by
  have hp := Pair.new w 73 a b
  have hb := alloc_below w (.cells #[.int .i64 a, .int .i64 b] 73)
  have HV := Lib.hid (vgood_cov a b)
  have H1 := Lib.hid (vcov_c a b 0 0)
  have H2 := Lib.hid (vcov_c 1099511627776 1099511627776 a b)
  have HP := Lib.hid hp
  have HB := Lib.hid hb
  have p0 := hp.c0
  have p1 := hp.c1
  clear hp hb
  cases e1 : vcov a b 0 0 <;> cases e2 : vcov 1099511627776 1099511627776 a b
  all_goals
    rw [e1, e2] at HV
    rw [e1] at H1
    rw [e2] at H2
    clear e1 e2
    go_enter Try.func127, Try.ntmps127
    go_wp2_with (first
      | (go_at_call 129; (with_reducible refine (H2.out w1).mono ?_); rintro e w2 ⟨rfl, hb2⟩; have hs2 := HB.out.trans ((hb1.trans (hb2.mono hb1.size)).mono HB.out.size))
      | (go_at_call 129; (with_reducible refine (H1.out _).mono ?_); rintro e w1 ⟨rfl, hb1⟩; have hs1 := HB.out.trans (hb1.mono HB.out.size); have q0 := (HP.out.kept hb1).c0; have q1 := (HP.out.kept hb1).c1))
    go_ret
    refine ⟨by rw [HV.out]; rfl, ?_⟩
    first
      | exact hs2
      | exact hs1
set_option maxHeartbeats 1600000 in
theorem vjoin_c {w : World} {a : Option Addr} {n cap : Nat} {l : List (Int × Int)} (hl : Prs w a n cap l) : Calls Try.prog 125 #[.slice a n cap] w (Tells (.agg #[.int .i64 (joinS l).1, .int .i64 (joinS l).2]) w) := by
  have hln := hl.len
  have hnle := hl.le
  have hnm := hl.max
  have ho := (Pair.new w 73 0 0).alloc (.cells #[.int .i64 0, .int .i64 0] 73)
  have hq := Pair.second w (.cells #[.int .i64 0, .int .i64 0] 73) 73 0 0
  have hb := second_below w (.cells #[.int .i64 0, .int .i64 0] 73) (.cells #[.int .i64 0, .int .i64 0] 73)
  have hmf := mkf
  have HL := Lib.hid hl
  clear hl
  go_enter Try.func125, Try.ntmps125
  go_upto_region 2 with (fail)
  generalize (w.alloc (.cells #[.int .i64 0, .int .i64 0] 73)).alloc (.cells #[.int .i64 0, .int .i64 0] 73) = W1 at *
  have HQ := Lib.hid hq
  have HO := Lib.hid ho
  have HB := Lib.hid hb
  clear hq ho hb
  go_wp2
  go_loopw [8] (fun i wr => ∃ k : Nat, k ≤ n ∧ i = .int .i64 k ∧ Pair wr (w.heap.size + 1) 73 (joinS (l.take k)).1 (joinS (l.take k)).2 ∧ Pair wr w.heap.size 73 0 0 ∧ Below w.heap.size w wr) (fun i _ => n - (intOf i).toNat)
  case atStart => exact ⟨0, by omega, rfl, HQ.out, HO.out, HB.out⟩
  case round =>
    clear HQ HO HB
    obtain ⟨k, hk, rfl, hq, ho, hB⟩ := hrel
    by_cases hlt : k < n
    · have hki : (k : Int) < (n : Int) := by omega
      have hki2 : (k : Int) < (cap : Int) := by omega
      obtain ⟨b, off, rfl, hcell⟩ : ∃ b off, a = some ⟨b, off, none⟩ ∧ ∀ i, i < n → w.cell? ⟨b, off + i * 2, none⟩ = some (.int .i64 (l.getD i (0, 0)).1) ∧ w.cell? ⟨b, off + i * 2 + 1, none⟩ = some (.int .i64 (l.getD i (0, 0)).2) := by
        rcases HL.out.adr with h0 | h
        · omega
        · exact h
      have HCW := Lib.hid (fun W (h : Below w.heap.size w W) => (show W.cell? ⟨b, off + k * 2, none⟩ = some (.int .i64 (l.getD k (0, 0)).1) ∧ W.cell? ⟨b, off + k * 2 + 1, none⟩ = some (.int .i64 (l.getD k (0, 0)).2) from
        ⟨(h.cell (World.block_lt_of_cell? w _ (hcell k hlt).1)).trans (hcell k hlt).1, (h.cell (World.block_lt_of_cell? w _ (hcell k hlt).2)).trans (hcell k hlt).2⟩))
      have HJ := Lib.hid (joinS_take l k (by omega))
      obtain ⟨x, hx⟩ : ∃ x, l.getD k (0, 0) = x := ⟨_, rfl⟩
      obtain ⟨j, hj⟩ : ∃ j, joinS (l.take k) = j := ⟨_, rfl⟩
      simp only [hx] at HCW
      rw [hx] at HJ
      rw [hj] at hq HJ
      obtain ⟨x0, x1⟩ := x
      obtain ⟨j0, j1⟩ := j
      simp only at HCW HJ hq
      obtain ⟨p0, p1⟩ := HCW.out wr hB
      have HE := Lib.hid (fun (W : World) (h : W.heap[w.heap.size + 1]? = _) => each_join j0 j1 x0 x1 j0 j1 (w.heap.size + 1) h)
      have HQ := Lib.hid hq
      have HO := Lib.hid ho
      have HB := Lib.hid hB
      clear hcell hx hj hq ho hB
      go_upto_region 5 with (fail)
      have hq2 := HQ.out.alloc (.cells #[.int .i64 x0, .int .i64 x1] 73)
      have hx2 := Pair.new wr 73 x0 x1
      have HO2 := Lib.hid (HO.out.alloc (.cells #[.int .i64 x0, .int .i64 x1] 73))
      have HB2 := Lib.hid (HB.out.alloc HB.out.size (.cells #[.int .i64 x0, .int .i64 x1] 73))
      have HS2 := Lib.hid (show w.heap.size + 1 ≤ (wr.alloc (.cells #[.int .i64 x0, .int .i64 x1] 73)).heap.size from Nat.le_of_lt hq2.lt)
      obtain ⟨gx, hgx⟩ : ∃ g, wr.heap.size = g := ⟨_, rfl⟩
      rw [hgx] at hx2 ⊢
      generalize wr.alloc (.cells #[.int .i64 x0, .int .i64 x1] 73) = W2 at *
      have q0 := hq2.c0
      have q1 := hq2.c1
      have v0 := hx2.c0
      have v1 := hx2.c1
      have HF := Lib.hid (show W2.heap[w.heap.size + 1]? = some (.cells #[.int .i64 j0, .int .i64 j1] 73 (0, 0)) from hq2)
      clear hq2 hx2 p0 p1 HQ HO HB hgx
      go_wp2_with (go_at_call 135; (with_reducible refine (HE.out _ HF.out).mono ?_); rintro e w3 ⟨rfl, hw3⟩)
      have HV := Lib.hid (show Pair w3 (w.heap.size + 1) 73 (Max.max j0 x0) (Max.max j1 x1) from hw3.cell)
      have HO3 := Lib.hid (hw3.pair HO2.out (by omega))
      have HB3 := Lib.hid (HB2.out.trans (hw3.below (by omega) HS2.out))
      clear hw3
      go_wp2
      go_roundw
      case rel => exact ⟨k + 1, by omega, rfl, by rw [HJ.out]; exact HV.out, HO3.out, HB3.out⟩
      case measure => simp [intOf]; omega
    · obtain rfl : k = n := by omega
      rw [List.take_of_length_le (by omega)] at hq
      have q0 := hq.c0
      have q1 := hq.c1
      have o0 := ho.c0
      have o1 := ho.c1
      have z0 := ho.fz 0
      have z1 := ho.fz 1
      have HO := Lib.hid ho
      have HB := Lib.hid hB
      clear hq ho hB
      go_wp2
      refine bodyPost_ret (results_cell_row rfl _ _ w.heap.size 73 _ (0, 0) _ rfl ((HO.out.set0 _).set1 _) Try.underlying73 rfl (size2 _ _)) rfl ⟨rfl, (HB.out.setCell (Nat.le_refl _) _).setCell (Nat.le_refl _) _⟩
end Go.Proofs.Ytidbjmkfmfojdaa
end

section
namespace Go.Proofs.Ytidbjmkfmfojdaa
open Go.RowKit Go Go.Sort
set_option linter.unusedVariables false
set_option maxRecDepth 20000

/-- A cell that lies at a block's head. -/
def Cel (W : World) (q : Nat) (n s a b : Int) (g : Bool) (t : List UInt8) (d e : Int) : Prop := W.heap[q]? = some (.cells #[.int .i64 n, .int .i64 s, .int .i64 a, .int .i64 b, .bool g, .string (text t), .int .i64 d, .int .i64 e] 75 (0, 0))
theorem Cel.lt {W : World} {q : Nat} {n s a b d e : Int} {g : Bool} {t : List UInt8} (h : Cel W q n s a b g t d e) : q < W.heap.size := (Array.getElem?_eq_some_iff.1 h).1
theorem Cel.kept {W W' : World} {q : Nat} {n s a b d e : Int} {g : Bool} {t : List UInt8} (h : Cel W q n s a b g t d e) (hb : Below W.heap.size W W') : Cel W' q n s a b g t d e := (hb.block q h.lt).trans h
theorem Cel.new (W : World) (n s a b : Int) (g : Bool) (t : List UInt8) (d e : Int) : Cel (W.alloc (.cells #[.int .i64 n, .int .i64 s, .int .i64 a, .int .i64 b, .bool g, .string (text t), .int .i64 d, .int .i64 e] 75)) W.heap.size n s a b g t d e := heap_alloc_new W _
theorem Cel.cs {W : World} {q : Nat} {n s a b d e : Int} {g : Bool} {t : List UInt8} (h : Cel W q n s a b g t d e) :
    W.cell? ⟨q, 0, none⟩ = some (.int .i64 n) ∧ W.cell? ⟨q, 1, none⟩ = some (.int .i64 s) ∧ W.cell? ⟨q, 2, none⟩ = some (.int .i64 a) ∧ W.cell? ⟨q, 3, none⟩ = some (.int .i64 b) ∧
    W.cell? ⟨q, 4, none⟩ = some (.bool g) ∧ W.cell? ⟨q, 5, none⟩ = some (.string (text t)) ∧ W.cell? ⟨q, 6, none⟩ = some (.int .i64 d) ∧ W.cell? ⟨q, 7, none⟩ = some (.int .i64 e) := by
  refine ⟨?_,?_,?_,?_,?_,?_,?_,?_⟩ <;> (rw [cell_of_row W q _ _ _ (0, 0) h]; rfl)
theorem Cel.fz {W : World} {q : Nat} {n s a b d e : Int} {g : Bool} {t : List UInt8} (h : Cel W q n s a b g t d e) (i : Nat) : W.frozen? ⟨q, i, none⟩ = false := frozen_of_row W q i _ _ h
theorem Cel.alloc {W : World} {q : Nat} {n s a b d e : Int} {g : Bool} {t : List UInt8} (h : Cel W q n s a b g t d e) (o : Obj) : Cel (W.alloc o) q n s a b g t d e := (Below.heap_alloc W o q h.lt).trans h

def zeroS (d e : Int) : Bool := decide (d = 0) && decide (e = 0)
set_option maxHeartbeats 1600000 in
theorem rzero_c (a b : Int) (w : World) : Calls Try.prog 112 #[.agg #[.int .i64 a, .int .i64 b]] w (Tells (.bool (zeroS a b)) w) := by
  have hp := Pair.new w 73 a b
  have hb := alloc_below w (.cells #[.int .i64 a, .int .i64 b] 73)
  have h0 := hp.c0
  have h1 := hp.c1
  have HB := Lib.hid hb
  have HV := Lib.hid (show zeroS a b = (decide (a = 0) && decide (b = 0)) from rfl)
  clear hp hb
  by_cases g0 : a = 0
  · by_cases g1 : b = 0
    · have k0 : (a == 0) = true := by simpa using g0
      have k1 : (b == 0) = true := by simpa using g1
      have HR := Lib.hid (show zeroS a b = true by rw [HV.out]; simp [g0, g1])
      clear g0 g1 HV
      go_enter Try.func112, Try.ntmps112
      go_wp2
      go_ret
      exact ⟨by rw [HR.out]; rfl, HB.out⟩
    · have k0 : (a == 0) = true := by simpa using g0
      have k1 : (b == 0) = false := by simpa using g1
      have HR := Lib.hid (show zeroS a b = false by rw [HV.out]; simp [g1])
      clear g0 g1 HV
      go_enter Try.func112, Try.ntmps112
      go_wp2
      go_ret
      exact ⟨by rw [HR.out]; rfl, HB.out⟩
  · have k0 : (a == 0) = false := by simpa using g0
    have HR := Lib.hid (show zeroS a b = false by rw [HV.out]; simp [g0])
    clear g0 HV
    go_enter Try.func112, Try.ntmps112
    go_wp2
    go_ret
    exact ⟨by rw [HR.out]; rfl, HB.out⟩

def wroteS (n s a b : Int) (g : Bool) (t : List UInt8) : Bool := n != 0 || (s != 0 || (a != 0 || (b != 0 || (g || t != []))))
set_option maxHeartbeats 1600000 in
theorem rwritten_c (n s a b : Int) (g : Bool) (t : List UInt8) (d e : Int) (w : World) : Calls Try.prog 114 #[.agg #[.int .i64 n, .int .i64 s, .int .i64 a, .int .i64 b, .bool g, .string (text t), .int .i64 d, .int .i64 e]] w (Tells (.bool (wroteS n s a b g t)) w) := by
  have hp := Cel.new w n s a b g t d e
  have hb := alloc_below w (.cells #[.int .i64 n, .int .i64 s, .int .i64 a, .int .i64 b, .bool g, .string (text t), .int .i64 d, .int .i64 e] 75)
  obtain ⟨c0, c1, c2, c3, c4, c5, c6, c7⟩ := hp.cs
  have hts : ((text t).toList == []) = (t == []) := by rw [text_toList]
  have HB := Lib.hid hb
  have HV := Lib.hid (show wroteS n s a b g t = (n != 0 || (s != 0 || (a != 0 || (b != 0 || (g || t != []))))) from rfl)
  obtain ⟨r, hr⟩ : ∃ r, wroteS n s a b g t = r := ⟨_, rfl⟩
  rw [hr] at HV ⊢
  clear hp hb hr
  cases k0 : n != 0 with
  | true =>
    rw [k0] at HV
    go_enter Try.func114, Try.ntmps114
    go_wp2
    go_ret
    exact ⟨by rw [HV.out]; rfl, HB.out⟩
  | false =>
  cases k1 : s != 0 with
  | true =>
    rw [k0, k1] at HV
    go_enter Try.func114, Try.ntmps114
    go_wp2
    go_ret
    exact ⟨by rw [HV.out]; rfl, HB.out⟩
  | false =>
  cases k2 : a != 0 with
  | true =>
    rw [k0, k1, k2] at HV
    go_enter Try.func114, Try.ntmps114
    go_wp2
    go_ret
    exact ⟨by rw [HV.out]; rfl, HB.out⟩
  | false =>
  cases k3 : b != 0 with
  | true =>
    rw [k0, k1, k2, k3] at HV
    go_enter Try.func114, Try.ntmps114
    go_wp2
    go_ret
    exact ⟨by rw [HV.out]; rfl, HB.out⟩
  | false =>
  cases g with
  | true =>
    rw [k0, k1, k2, k3] at HV
    go_enter Try.func114, Try.ntmps114
    go_wp2
    go_ret
    exact ⟨by rw [HV.out]; rfl, HB.out⟩
  | false =>
    have k5 : (t != []) = !(t == []) := rfl
    rw [k0, k1, k2, k3, k5] at HV
    cases k4 : t == [] with
    | true =>
      rw [k4] at HV hts
      clear k4 k5
      go_enter Try.func114, Try.ntmps114
      go_wp2
      go_ret
      exact ⟨by rw [HV.out]; rfl, HB.out⟩
    | false =>
      rw [k4] at HV hts
      clear k4 k5
      go_enter Try.func114, Try.ntmps114
      go_wp2
      go_ret
      exact ⟨by rw [HV.out]; rfl, HB.out⟩
end Go.Proofs.Ytidbjmkfmfojdaa
end

section
namespace Go.Proofs.Ytidbjmkfmfojdaa
open Go.RowKit Go Go.Sort
set_option linter.unusedVariables false
set_option maxRecDepth 20000

def cgoodS (p n s a b : Int) (g : Bool) (t : List UInt8) (d e : Int) : Bool :=
  ((p == 1 && zeroS d e) || (p == 2 && (!g && vgood d e))) && (!wroteS n s a b g t || (sgood n s && (decide (0 < n) && (vgood a b && (decide (t.length ≤ 64) && (!g || t == []))))))

set_option maxHeartbeats 12800000 in
theorem rcgood_c (p n s a b : Int) (g : Bool) (t : List UInt8) (d e : Int) (hmax : t.length ≤ 9223372036854775807) (w : World) :
    Calls Try.prog 89 #[.int .i64 p, .agg #[.int .i64 n, .int .i64 s, .int .i64 a, .int .i64 b, .bool g, .string (text t), .int .i64 d, .int .i64 e]] w (Tells (.bool (cgoodS p n s a b g t d e)) w) := by
  have hp := Cel.new w n s a b g t d e
  have hb := alloc_below w (.cells #[.int .i64 n, .int .i64 s, .int .i64 a, .int .i64 b, .bool g, .string (text t), .int .i64 d, .int .i64 e] 75)
  have hts : ((text t).toList == []) = (t == []) := by rw [text_toList]
  have hsz : ((text t).size : Int) = (t.length : Int) := by rw [text_size]
  have HB := Lib.hid hb
  have HV := (show cgoodS p n s a b g t d e = (((p == 1 && zeroS d e) || (p == 2 && (!g && vgood d e))) && (!wroteS n s a b g t || (sgood n s && (decide (0 < n) && (vgood a b && (decide (t.length ≤ 64) && (!g || t == []))))))) from rfl)
  obtain ⟨r, hr⟩ : ∃ r, cgoodS p n s a b g t d e = r := ⟨_, rfl⟩
  rw [hr] at HV ⊢
  have HZ := fun W => rzero_c d e W
  have HD := fun W => rvgood_c d e W
  have HVV := fun W => rvgood_c a b W
  have HS := fun W => rsgood_c n s W
  have HW := fun W => rwritten_c n s a b g t d e W
  clear hb hr
  go_enter Try.func89, Try.ntmps89
  go_upto_region 1 with (fail)
  have HC := Lib.hid (fun W (h : Below (w.alloc (.cells #[.int .i64 n, .int .i64 s, .int .i64 a, .int .i64 b, .bool g, .string (text t), .int .i64 d, .int .i64 e] 75)).heap.size (w.alloc (.cells #[.int .i64 n, .int .i64 s, .int .i64 a, .int .i64 b, .bool g, .string (text t), .int .i64 d, .int .i64 e] 75)) W) => (hp.kept h).cs)
  generalize w.alloc (.cells #[.int .i64 n, .int .i64 s, .int .i64 a, .int .i64 b, .bool g, .string (text t), .int .i64 d, .int .i64 e] 75) = W1 at *
  clear hp
  have hcur := Below.refl W1.heap.size W1
  obtain ⟨c0, c1, c2, c3, c4, c5, c6, c7⟩ := HC.out _ hcur
  by_cases p1 : p = 1
  · subst p1
    cases hz : zeroS d e with
    | false =>
      rw [hz] at HZ
      rw [hz] at HV
      clear hz
      replace HZ := Lib.hid HZ
      replace HV := Lib.hid HV
      clear HD HVV HS HW
      go_wp2_with (first
        | (go_at_call 112; (with_reducible refine (HZ.out _).mono ?_); rintro e9 w9 ⟨rfl, hb9⟩; (replace hcur := hcur.trans (hb9.mono hcur.size)); clear hb9; obtain ⟨c0, c1, c2, c3, c4, c5, c6, c7⟩ := HC.out _ hcur))
      go_ret
      exact ⟨by rw [HV.out]; rfl, HB.out.trans (hcur.mono HB.out.size)⟩
    | true =>
      rw [hz] at HZ
      rw [hz] at HV
      clear hz
      cases hw : wroteS n s a b g t with
      | false =>
        rw [hw] at HW
        rw [hw] at HV
        clear hw
        replace HZ := Lib.hid HZ
        replace HW := Lib.hid HW
        replace HV := Lib.hid HV
        clear HD HVV HS
        go_wp2_with (first
          | (go_at_call 112; (with_reducible refine (HZ.out _).mono ?_); rintro e9 w9 ⟨rfl, hb9⟩; (replace hcur := hcur.trans (hb9.mono hcur.size)); clear hb9; obtain ⟨c0, c1, c2, c3, c4, c5, c6, c7⟩ := HC.out _ hcur)
          | (go_at_call 114; (with_reducible refine (HW.out _).mono ?_); rintro e9 w9 ⟨rfl, hb9⟩; (replace hcur := hcur.trans (hb9.mono hcur.size)); clear hb9; obtain ⟨c0, c1, c2, c3, c4, c5, c6, c7⟩ := HC.out _ hcur))
        go_ret
        exact ⟨by rw [HV.out]; rfl, HB.out.trans (hcur.mono HB.out.size)⟩
      | true =>
        rw [hw] at HW
        rw [hw] at HV
        clear hw
        cases hs : sgood n s with
        | false =>
          rw [hs] at HS
          rw [hs] at HV
          clear hs
          replace HZ := Lib.hid HZ
          replace HW := Lib.hid HW
          replace HS := Lib.hid HS
          replace HV := Lib.hid HV
          clear HD HVV
          go_wp2_with (first
            | (go_at_call 112; (with_reducible refine (HZ.out _).mono ?_); rintro e9 w9 ⟨rfl, hb9⟩; (replace hcur := hcur.trans (hb9.mono hcur.size)); clear hb9; obtain ⟨c0, c1, c2, c3, c4, c5, c6, c7⟩ := HC.out _ hcur)
            | (go_at_call 114; (with_reducible refine (HW.out _).mono ?_); rintro e9 w9 ⟨rfl, hb9⟩; (replace hcur := hcur.trans (hb9.mono hcur.size)); clear hb9; obtain ⟨c0, c1, c2, c3, c4, c5, c6, c7⟩ := HC.out _ hcur)
            | (go_at_call 115; (with_reducible refine (HS.out _).mono ?_); rintro e9 w9 ⟨rfl, hb9⟩; (replace hcur := hcur.trans (hb9.mono hcur.size)); clear hb9; obtain ⟨c0, c1, c2, c3, c4, c5, c6, c7⟩ := HC.out _ hcur))
          go_ret
          exact ⟨by rw [HV.out]; rfl, HB.out.trans (hcur.mono HB.out.size)⟩
        | true =>
          rw [hs] at HS
          rw [hs] at HV
          clear hs
          by_cases hn : (0 : Int) < n
          · rw [decide_eq_true hn] at HV
            cases hv : vgood a b with
            | false =>
              rw [hv] at HVV
              rw [hv] at HV
              clear hv
              replace HZ := Lib.hid HZ
              replace HW := Lib.hid HW
              replace HS := Lib.hid HS
              replace HVV := Lib.hid HVV
              replace HV := Lib.hid HV
              clear HD
              go_wp2_with (first
                | (go_at_call 112; (with_reducible refine (HZ.out _).mono ?_); rintro e9 w9 ⟨rfl, hb9⟩; (replace hcur := hcur.trans (hb9.mono hcur.size)); clear hb9; obtain ⟨c0, c1, c2, c3, c4, c5, c6, c7⟩ := HC.out _ hcur)
                | (go_at_call 114; (with_reducible refine (HW.out _).mono ?_); rintro e9 w9 ⟨rfl, hb9⟩; (replace hcur := hcur.trans (hb9.mono hcur.size)); clear hb9; obtain ⟨c0, c1, c2, c3, c4, c5, c6, c7⟩ := HC.out _ hcur)
                | (go_at_call 115; (with_reducible refine (HS.out _).mono ?_); rintro e9 w9 ⟨rfl, hb9⟩; (replace hcur := hcur.trans (hb9.mono hcur.size)); clear hb9; obtain ⟨c0, c1, c2, c3, c4, c5, c6, c7⟩ := HC.out _ hcur)
                | (go_at_call 113; (with_reducible refine (HVV.out _).mono ?_); rintro e9 w9 ⟨rfl, hb9⟩; (replace hcur := hcur.trans (hb9.mono hcur.size)); clear hb9; obtain ⟨c0, c1, c2, c3, c4, c5, c6, c7⟩ := HC.out _ hcur))
              go_ret
              exact ⟨by rw [HV.out]; rfl, HB.out.trans (hcur.mono HB.out.size)⟩
            | true =>
              rw [hv] at HVV
              rw [hv] at HV
              clear hv
              by_cases hl : t.length ≤ 64
              · have hli : (t.length : Int) ≤ 64 := by omega
                rw [decide_eq_true hl] at HV
                cases g with
                | false =>
                  replace HZ := Lib.hid HZ
                  replace HW := Lib.hid HW
                  replace HS := Lib.hid HS
                  replace HVV := Lib.hid HVV
                  replace HV := Lib.hid HV
                  clear HD
                  go_wp2_with (first
                    | (go_at_call 112; (with_reducible refine (HZ.out _).mono ?_); rintro e9 w9 ⟨rfl, hb9⟩; (replace hcur := hcur.trans (hb9.mono hcur.size)); clear hb9; obtain ⟨c0, c1, c2, c3, c4, c5, c6, c7⟩ := HC.out _ hcur)
                    | (go_at_call 114; (with_reducible refine (HW.out _).mono ?_); rintro e9 w9 ⟨rfl, hb9⟩; (replace hcur := hcur.trans (hb9.mono hcur.size)); clear hb9; obtain ⟨c0, c1, c2, c3, c4, c5, c6, c7⟩ := HC.out _ hcur)
                    | (go_at_call 115; (with_reducible refine (HS.out _).mono ?_); rintro e9 w9 ⟨rfl, hb9⟩; (replace hcur := hcur.trans (hb9.mono hcur.size)); clear hb9; obtain ⟨c0, c1, c2, c3, c4, c5, c6, c7⟩ := HC.out _ hcur)
                    | (go_at_call 113; (with_reducible refine (HVV.out _).mono ?_); rintro e9 w9 ⟨rfl, hb9⟩; (replace hcur := hcur.trans (hb9.mono hcur.size)); clear hb9; obtain ⟨c0, c1, c2, c3, c4, c5, c6, c7⟩ := HC.out _ hcur))
                  go_ret
                  exact ⟨by rw [HV.out]; rfl, HB.out.trans (hcur.mono HB.out.size)⟩
                | true =>
                  cases ht : t == [] with
                  | false =>
                    rw [ht] at HV hts
                    clear ht
                    replace HZ := Lib.hid HZ
                    replace HW := Lib.hid HW
                    replace HS := Lib.hid HS
                    replace HVV := Lib.hid HVV
                    replace HV := Lib.hid HV
                    clear HD
                    go_wp2_with (first
                      | (go_at_call 112; (with_reducible refine (HZ.out _).mono ?_); rintro e9 w9 ⟨rfl, hb9⟩; (replace hcur := hcur.trans (hb9.mono hcur.size)); clear hb9; obtain ⟨c0, c1, c2, c3, c4, c5, c6, c7⟩ := HC.out _ hcur)
                      | (go_at_call 114; (with_reducible refine (HW.out _).mono ?_); rintro e9 w9 ⟨rfl, hb9⟩; (replace hcur := hcur.trans (hb9.mono hcur.size)); clear hb9; obtain ⟨c0, c1, c2, c3, c4, c5, c6, c7⟩ := HC.out _ hcur)
                      | (go_at_call 115; (with_reducible refine (HS.out _).mono ?_); rintro e9 w9 ⟨rfl, hb9⟩; (replace hcur := hcur.trans (hb9.mono hcur.size)); clear hb9; obtain ⟨c0, c1, c2, c3, c4, c5, c6, c7⟩ := HC.out _ hcur)
                      | (go_at_call 113; (with_reducible refine (HVV.out _).mono ?_); rintro e9 w9 ⟨rfl, hb9⟩; (replace hcur := hcur.trans (hb9.mono hcur.size)); clear hb9; obtain ⟨c0, c1, c2, c3, c4, c5, c6, c7⟩ := HC.out _ hcur))
                    go_ret
                    exact ⟨by rw [HV.out]; rfl, HB.out.trans (hcur.mono HB.out.size)⟩
                  | true =>
                    rw [ht] at HV hts
                    clear ht
                    replace HZ := Lib.hid HZ
                    replace HW := Lib.hid HW
                    replace HS := Lib.hid HS
                    replace HVV := Lib.hid HVV
                    replace HV := Lib.hid HV
                    clear HD
                    go_wp2_with (first
                      | (go_at_call 112; (with_reducible refine (HZ.out _).mono ?_); rintro e9 w9 ⟨rfl, hb9⟩; (replace hcur := hcur.trans (hb9.mono hcur.size)); clear hb9; obtain ⟨c0, c1, c2, c3, c4, c5, c6, c7⟩ := HC.out _ hcur)
                      | (go_at_call 114; (with_reducible refine (HW.out _).mono ?_); rintro e9 w9 ⟨rfl, hb9⟩; (replace hcur := hcur.trans (hb9.mono hcur.size)); clear hb9; obtain ⟨c0, c1, c2, c3, c4, c5, c6, c7⟩ := HC.out _ hcur)
                      | (go_at_call 115; (with_reducible refine (HS.out _).mono ?_); rintro e9 w9 ⟨rfl, hb9⟩; (replace hcur := hcur.trans (hb9.mono hcur.size)); clear hb9; obtain ⟨c0, c1, c2, c3, c4, c5, c6, c7⟩ := HC.out _ hcur)
                      | (go_at_call 113; (with_reducible refine (HVV.out _).mono ?_); rintro e9 w9 ⟨rfl, hb9⟩; (replace hcur := hcur.trans (hb9.mono hcur.size)); clear hb9; obtain ⟨c0, c1, c2, c3, c4, c5, c6, c7⟩ := HC.out _ hcur))
                    go_ret
                    exact ⟨by rw [HV.out]; rfl, HB.out.trans (hcur.mono HB.out.size)⟩
              · have hli : ¬ (t.length : Int) ≤ 64 := by omega
                rw [decide_eq_false hl] at HV
                replace HZ := Lib.hid HZ
                replace HW := Lib.hid HW
                replace HS := Lib.hid HS
                replace HVV := Lib.hid HVV
                replace HV := Lib.hid HV
                clear HD
                go_wp2_with (first
                  | (go_at_call 112; (with_reducible refine (HZ.out _).mono ?_); rintro e9 w9 ⟨rfl, hb9⟩; (replace hcur := hcur.trans (hb9.mono hcur.size)); clear hb9; obtain ⟨c0, c1, c2, c3, c4, c5, c6, c7⟩ := HC.out _ hcur)
                  | (go_at_call 114; (with_reducible refine (HW.out _).mono ?_); rintro e9 w9 ⟨rfl, hb9⟩; (replace hcur := hcur.trans (hb9.mono hcur.size)); clear hb9; obtain ⟨c0, c1, c2, c3, c4, c5, c6, c7⟩ := HC.out _ hcur)
                  | (go_at_call 115; (with_reducible refine (HS.out _).mono ?_); rintro e9 w9 ⟨rfl, hb9⟩; (replace hcur := hcur.trans (hb9.mono hcur.size)); clear hb9; obtain ⟨c0, c1, c2, c3, c4, c5, c6, c7⟩ := HC.out _ hcur)
                  | (go_at_call 113; (with_reducible refine (HVV.out _).mono ?_); rintro e9 w9 ⟨rfl, hb9⟩; (replace hcur := hcur.trans (hb9.mono hcur.size)); clear hb9; obtain ⟨c0, c1, c2, c3, c4, c5, c6, c7⟩ := HC.out _ hcur))
                go_ret
                exact ⟨by rw [HV.out]; rfl, HB.out.trans (hcur.mono HB.out.size)⟩
          · rw [decide_eq_false hn] at HV
            replace HZ := Lib.hid HZ
            replace HW := Lib.hid HW
            replace HS := Lib.hid HS
            replace HV := Lib.hid HV
            clear HD HVV
            go_wp2_with (first
              | (go_at_call 112; (with_reducible refine (HZ.out _).mono ?_); rintro e9 w9 ⟨rfl, hb9⟩; (replace hcur := hcur.trans (hb9.mono hcur.size)); clear hb9; obtain ⟨c0, c1, c2, c3, c4, c5, c6, c7⟩ := HC.out _ hcur)
              | (go_at_call 114; (with_reducible refine (HW.out _).mono ?_); rintro e9 w9 ⟨rfl, hb9⟩; (replace hcur := hcur.trans (hb9.mono hcur.size)); clear hb9; obtain ⟨c0, c1, c2, c3, c4, c5, c6, c7⟩ := HC.out _ hcur)
              | (go_at_call 115; (with_reducible refine (HS.out _).mono ?_); rintro e9 w9 ⟨rfl, hb9⟩; (replace hcur := hcur.trans (hb9.mono hcur.size)); clear hb9; obtain ⟨c0, c1, c2, c3, c4, c5, c6, c7⟩ := HC.out _ hcur))
            go_ret
            exact ⟨by rw [HV.out]; rfl, HB.out.trans (hcur.mono HB.out.size)⟩
  · have k1 : (p == 1) = false := by simpa using p1
    have k1n : (p != 1) = true := by simpa using p1
    rw [k1] at HV
    by_cases p2 : p = 2
    · subst p2
      clear p1
      cases g with
      | true =>
        replace HV := Lib.hid HV
        clear HZ HD HVV HS HW
        go_wp2
        go_ret
        exact ⟨by rw [HV.out]; rfl, HB.out.trans (hcur.mono HB.out.size)⟩
      | false =>
        cases hd : vgood d e with
        | false =>
          rw [hd] at HD
          rw [hd] at HV
          clear hd
          replace HD := Lib.hid HD
          replace HV := Lib.hid HV
          clear HZ HVV HS HW
          go_wp2_with (first
            | (go_at_call 113; (with_reducible refine (HD.out _).mono ?_); rintro e9 w9 ⟨rfl, hb9⟩; (replace hcur := hcur.trans (hb9.mono hcur.size)); clear hb9; obtain ⟨c0, c1, c2, c3, c4, c5, c6, c7⟩ := HC.out _ hcur))
          go_ret
          exact ⟨by rw [HV.out]; rfl, HB.out.trans (hcur.mono HB.out.size)⟩
        | true =>
          rw [hd] at HD
          rw [hd] at HV
          clear hd
          cases hw : wroteS n s a b false t with
          | false =>
            rw [hw] at HW
            rw [hw] at HV
            clear hw
            replace HD := Lib.hid HD
            replace HW := Lib.hid HW
            replace HV := Lib.hid HV
            clear HZ HVV HS
            go_wp2_with (first
              | (go_at_call 113; (with_reducible refine (HD.out _).mono ?_); rintro e9 w9 ⟨rfl, hb9⟩; (replace hcur := hcur.trans (hb9.mono hcur.size)); clear hb9; obtain ⟨c0, c1, c2, c3, c4, c5, c6, c7⟩ := HC.out _ hcur)
              | (go_at_call 114; (with_reducible refine (HW.out _).mono ?_); rintro e9 w9 ⟨rfl, hb9⟩; (replace hcur := hcur.trans (hb9.mono hcur.size)); clear hb9; obtain ⟨c0, c1, c2, c3, c4, c5, c6, c7⟩ := HC.out _ hcur))
            go_ret
            exact ⟨by rw [HV.out]; rfl, HB.out.trans (hcur.mono HB.out.size)⟩
          | true =>
            rw [hw] at HW
            rw [hw] at HV
            clear hw
            cases hs : sgood n s with
            | false =>
              rw [hs] at HS
              rw [hs] at HV
              clear hs
              replace HD := Lib.hid HD
              replace HW := Lib.hid HW
              replace HS := Lib.hid HS
              replace HV := Lib.hid HV
              clear HZ HVV
              go_wp2_with (first
                | (go_at_call 113; (with_reducible refine (HD.out _).mono ?_); rintro e9 w9 ⟨rfl, hb9⟩; (replace hcur := hcur.trans (hb9.mono hcur.size)); clear hb9; obtain ⟨c0, c1, c2, c3, c4, c5, c6, c7⟩ := HC.out _ hcur)
                | (go_at_call 114; (with_reducible refine (HW.out _).mono ?_); rintro e9 w9 ⟨rfl, hb9⟩; (replace hcur := hcur.trans (hb9.mono hcur.size)); clear hb9; obtain ⟨c0, c1, c2, c3, c4, c5, c6, c7⟩ := HC.out _ hcur)
                | (go_at_call 115; (with_reducible refine (HS.out _).mono ?_); rintro e9 w9 ⟨rfl, hb9⟩; (replace hcur := hcur.trans (hb9.mono hcur.size)); clear hb9; obtain ⟨c0, c1, c2, c3, c4, c5, c6, c7⟩ := HC.out _ hcur))
              go_ret
              exact ⟨by rw [HV.out]; rfl, HB.out.trans (hcur.mono HB.out.size)⟩
            | true =>
              rw [hs] at HS
              rw [hs] at HV
              clear hs
              by_cases hn : (0 : Int) < n
              · rw [decide_eq_true hn] at HV
                cases hv : vgood a b with
                | false =>
                  rw [hv] at HVV
                  rw [hv] at HV
                  clear hv
                  replace HD := Lib.hid HD
                  replace HW := Lib.hid HW
                  replace HS := Lib.hid HS
                  replace HVV := Lib.hid HVV
                  replace HV := Lib.hid HV
                  clear HZ
                  go_wp2_with (first
                    | (go_at_call 113; (with_reducible refine (HD.out _).mono ?_); rintro e9 w9 ⟨rfl, hb9⟩; (replace hcur := hcur.trans (hb9.mono hcur.size)); clear hb9; obtain ⟨c0, c1, c2, c3, c4, c5, c6, c7⟩ := HC.out _ hcur)
                    | (go_at_call 114; (with_reducible refine (HW.out _).mono ?_); rintro e9 w9 ⟨rfl, hb9⟩; (replace hcur := hcur.trans (hb9.mono hcur.size)); clear hb9; obtain ⟨c0, c1, c2, c3, c4, c5, c6, c7⟩ := HC.out _ hcur)
                    | (go_at_call 115; (with_reducible refine (HS.out _).mono ?_); rintro e9 w9 ⟨rfl, hb9⟩; (replace hcur := hcur.trans (hb9.mono hcur.size)); clear hb9; obtain ⟨c0, c1, c2, c3, c4, c5, c6, c7⟩ := HC.out _ hcur)
                    | (go_at_call 113; (with_reducible refine (HVV.out _).mono ?_); rintro e9 w9 ⟨rfl, hb9⟩; (replace hcur := hcur.trans (hb9.mono hcur.size)); clear hb9; obtain ⟨c0, c1, c2, c3, c4, c5, c6, c7⟩ := HC.out _ hcur))
                  go_ret
                  exact ⟨by rw [HV.out]; rfl, HB.out.trans (hcur.mono HB.out.size)⟩
                | true =>
                  rw [hv] at HVV
                  rw [hv] at HV
                  clear hv
                  by_cases hl : t.length ≤ 64
                  · have hli : (t.length : Int) ≤ 64 := by omega
                    rw [decide_eq_true hl] at HV
                    replace HD := Lib.hid HD
                    replace HW := Lib.hid HW
                    replace HS := Lib.hid HS
                    replace HVV := Lib.hid HVV
                    replace HV := Lib.hid HV
                    clear HZ
                    go_wp2_with (first
                      | (go_at_call 113; (with_reducible refine (HD.out _).mono ?_); rintro e9 w9 ⟨rfl, hb9⟩; (replace hcur := hcur.trans (hb9.mono hcur.size)); clear hb9; obtain ⟨c0, c1, c2, c3, c4, c5, c6, c7⟩ := HC.out _ hcur)
                      | (go_at_call 114; (with_reducible refine (HW.out _).mono ?_); rintro e9 w9 ⟨rfl, hb9⟩; (replace hcur := hcur.trans (hb9.mono hcur.size)); clear hb9; obtain ⟨c0, c1, c2, c3, c4, c5, c6, c7⟩ := HC.out _ hcur)
                      | (go_at_call 115; (with_reducible refine (HS.out _).mono ?_); rintro e9 w9 ⟨rfl, hb9⟩; (replace hcur := hcur.trans (hb9.mono hcur.size)); clear hb9; obtain ⟨c0, c1, c2, c3, c4, c5, c6, c7⟩ := HC.out _ hcur)
                      | (go_at_call 113; (with_reducible refine (HVV.out _).mono ?_); rintro e9 w9 ⟨rfl, hb9⟩; (replace hcur := hcur.trans (hb9.mono hcur.size)); clear hb9; obtain ⟨c0, c1, c2, c3, c4, c5, c6, c7⟩ := HC.out _ hcur))
                    go_ret
                    exact ⟨by rw [HV.out]; rfl, HB.out.trans (hcur.mono HB.out.size)⟩
                  · have hli : ¬ (t.length : Int) ≤ 64 := by omega
                    rw [decide_eq_false hl] at HV
                    replace HD := Lib.hid HD
                    replace HW := Lib.hid HW
                    replace HS := Lib.hid HS
                    replace HVV := Lib.hid HVV
                    replace HV := Lib.hid HV
                    clear HZ
                    go_wp2_with (first
                      | (go_at_call 113; (with_reducible refine (HD.out _).mono ?_); rintro e9 w9 ⟨rfl, hb9⟩; (replace hcur := hcur.trans (hb9.mono hcur.size)); clear hb9; obtain ⟨c0, c1, c2, c3, c4, c5, c6, c7⟩ := HC.out _ hcur)
                      | (go_at_call 114; (with_reducible refine (HW.out _).mono ?_); rintro e9 w9 ⟨rfl, hb9⟩; (replace hcur := hcur.trans (hb9.mono hcur.size)); clear hb9; obtain ⟨c0, c1, c2, c3, c4, c5, c6, c7⟩ := HC.out _ hcur)
                      | (go_at_call 115; (with_reducible refine (HS.out _).mono ?_); rintro e9 w9 ⟨rfl, hb9⟩; (replace hcur := hcur.trans (hb9.mono hcur.size)); clear hb9; obtain ⟨c0, c1, c2, c3, c4, c5, c6, c7⟩ := HC.out _ hcur)
                      | (go_at_call 113; (with_reducible refine (HVV.out _).mono ?_); rintro e9 w9 ⟨rfl, hb9⟩; (replace hcur := hcur.trans (hb9.mono hcur.size)); clear hb9; obtain ⟨c0, c1, c2, c3, c4, c5, c6, c7⟩ := HC.out _ hcur))
                    go_ret
                    exact ⟨by rw [HV.out]; rfl, HB.out.trans (hcur.mono HB.out.size)⟩
              · rw [decide_eq_false hn] at HV
                replace HD := Lib.hid HD
                replace HW := Lib.hid HW
                replace HS := Lib.hid HS
                replace HV := Lib.hid HV
                clear HZ HVV
                go_wp2_with (first
                  | (go_at_call 113; (with_reducible refine (HD.out _).mono ?_); rintro e9 w9 ⟨rfl, hb9⟩; (replace hcur := hcur.trans (hb9.mono hcur.size)); clear hb9; obtain ⟨c0, c1, c2, c3, c4, c5, c6, c7⟩ := HC.out _ hcur)
                  | (go_at_call 114; (with_reducible refine (HW.out _).mono ?_); rintro e9 w9 ⟨rfl, hb9⟩; (replace hcur := hcur.trans (hb9.mono hcur.size)); clear hb9; obtain ⟨c0, c1, c2, c3, c4, c5, c6, c7⟩ := HC.out _ hcur)
                  | (go_at_call 115; (with_reducible refine (HS.out _).mono ?_); rintro e9 w9 ⟨rfl, hb9⟩; (replace hcur := hcur.trans (hb9.mono hcur.size)); clear hb9; obtain ⟨c0, c1, c2, c3, c4, c5, c6, c7⟩ := HC.out _ hcur))
                go_ret
                exact ⟨by rw [HV.out]; rfl, HB.out.trans (hcur.mono HB.out.size)⟩
    · have k2 : (p == 2) = false := by simpa using p2
      have k2n : (p != 2) = true := by simpa using p2
      rw [k2] at HV
      clear p1 p2
      replace HV := Lib.hid HV
      clear HZ HD HVV HS HW
      go_wp2
      go_ret
      exact ⟨by rw [HV.out]; rfl, HB.out.trans (hcur.mono HB.out.size)⟩
end Go.Proofs.Ytidbjmkfmfojdaa
end

section
namespace Go.Proofs.Ytidbjmkfmfojdaa
open Go.RowKit Go Go.Sort
set_option linter.unusedVariables false
set_option maxRecDepth 20000

def cseenS (p n s a b : Int) (g : Bool) (t : List UInt8) (d e : Int) : List UInt8 × Bool :=
  if (cgoodS p n s a b g t d e && (wroteS n s a b g t && (!g && vcov a b d e))) = true then (t, true) else ([], false)

end Go.Proofs.Ytidbjmkfmfojdaa
end

section
namespace Go.Proofs.Ytidbjmkfmfojdaa
open Go.RowKit Go Go.Sort
set_option linter.unusedVariables false
set_option maxRecDepth 20000

theorem stamp_eqInD (k : Nat) (x y x' y' : Int) (W : World) : (Op.equalIn (k + 2) 71 (.agg #[.int .i64 x, .int .i64 y]) (.agg #[.int .i64 x', .int .i64 y'])).run Try.prog W = .ok ((x == x') && (y == y')) W := by
  rw [run_equalIn_struct W (k + 1) _ _ _ Try.underlying71 (by kernel_rfl)]
  obtain ⟨f0, f1, hf, h0, h1, t0, t1, n0, n1⟩ : ∃ f0 f1, (Try.prog.fieldsOf 71).toList = [f0, f1] ∧ f0.offset = 0 ∧ f1.offset = 1 ∧ f0.type = 3 ∧ f1.type = 3 ∧ f0.name ≠ "_" ∧ f1.name ≠ "_" := ⟨_, _, rfl, rfl, rfl, rfl, rfl, by decide, by decide⟩
  rw [hf]
  have p0 := run_part_int (W := W) #[.int .i64 x, .int .i64 y] 0 rfl
  have p1 := run_part_int (W := W) #[.int .i64 x, .int .i64 y] 1 rfl
  have q0 := run_part_int (W := W) #[.int .i64 x', .int .i64 y'] 0 rfl
  have q1 := run_part_int (W := W) #[.int .i64 x', .int .i64 y'] 1 rfl
  cases e0 : (x == x') <;> cases e1 : (y == y') <;> simp [Op.eqFields, n0, n1, h0, h1, t0, t1, p0, q0, p1, q1, e0, e1, run_equalIn_int W k 3 .i64 .i64 _ _ Try.underlying3, Sem.run_bind, Result.andThen_ok]
theorem vec_eqInD (k : Nat) (x y x' y' : Int) (W : World) : (Op.equalIn (k + 2) 73 (.agg #[.int .i64 x, .int .i64 y]) (.agg #[.int .i64 x', .int .i64 y'])).run Try.prog W = .ok ((x == x') && (y == y')) W := by
  have hi : (Try.prog.info? 3).map (fun i => (i.zero, i.size, i.bytes)) = some (some (.int .i64 0), 1, 8) := by kernel_rfl
  obtain ⟨i3, hi3, _, _, _⟩ := info_parts hi
  have hc : Try.prog.cellsOf 3 = 1 := by kernel_rfl
  rw [run_equalIn_array W (k + 1) _ _ Try.underlying73 hi3, hc]
  have p0 := run_part_int (W := W) #[.int .i64 x, .int .i64 y] 0 rfl
  have p1 := run_part_int (W := W) #[.int .i64 x, .int .i64 y] 1 rfl
  have q0 := run_part_int (W := W) #[.int .i64 x', .int .i64 y'] 0 rfl
  have q1 := run_part_int (W := W) #[.int .i64 x', .int .i64 y'] 1 rfl
  show (Op.eqItems (k + 1) 3 1 _ _ [0, 1]).run Try.prog W = _
  simp only [Op.eqItems, Sem.run_bind, Nat.zero_mul, Nat.one_mul, p0, q0, Result.andThen_ok]
  cases h0 : (x == x') <;> cases h1 : (y == y') <;> simp [p1, q1, h0, h1, run_equalIn_int W k 3 .i64 .i64 _ _ Try.underlying3]
theorem vec_eqb (x y x' y' : Int) (r : Bool) (h : ((x == x') && (y == y')) = r) (W : World) : (binOp .eql 73 (.agg #[.int .i64 x, .int .i64 y]) (.agg #[.int .i64 x', .int .i64 y'])).run Try.prog W = .ok (.bool r) W := by
  rw [run_eql_struct, vec_eqIn, h]; rfl
theorem stamp_neb (x y x' y' : Int) (r : Bool) (h : ((x == x') && (y == y')) = r) (W : World) : (binOp .neq 71 (.agg #[.int .i64 x, .int .i64 y]) (.agg #[.int .i64 x', .int .i64 y'])).run Try.prog W = .ok (.bool (!r)) W := by
  rw [run_neq_struct, stamp_eqIn, h]; rfl

theorem part_s0 (xs : Array Value) (W : World) : (part 71 xs 0).run Try.prog W = .ok (.agg (xs.extract 0 2)) W := by kernel_rfl
theorem part_v2 (xs : Array Value) (W : World) : (part 73 xs 2).run Try.prog W = .ok (.agg (xs.extract 2 4)) W := by kernel_rfl
theorem part_v6 (xs : Array Value) (W : World) : (part 73 xs 6).run Try.prog W = .ok (.agg (xs.extract 6 8)) W := by kernel_rfl
def cellEq (n s a b : Int) (g : Bool) (t : List UInt8) (d e : Int) (n' s' a' b' : Int) (g' : Bool) (t' : List UInt8) (d' e' : Int) : Bool :=
  ((n == n') && (s == s')) && (((a == a') && (b == b')) && ((g == g') && (decide (t = t') && ((d == d') && (e == e')))))
theorem cell_eqIn (n s a b : Int) (g : Bool) (t : List UInt8) (d e : Int) (n' s' a' b' : Int) (g' : Bool) (t' : List UInt8) (d' e' : Int) (W : World) :
    (Op.equalIn 10000 75 (.agg #[.int .i64 n, .int .i64 s, .int .i64 a, .int .i64 b, .bool g, .string (text t), .int .i64 d, .int .i64 e]) (.agg #[.int .i64 n', .int .i64 s', .int .i64 a', .int .i64 b', .bool g', .string (text t'), .int .i64 d', .int .i64 e'])).run Try.prog W = .ok (cellEq n s a b g t d e n' s' a' b' g' t' d' e') W := by
  rw [run_equalIn_struct W 9999 _ _ _ Try.underlying75 (by kernel_rfl)]
  obtain ⟨f0, f1, f2, f3, f4, hf, h0, h1, h2, h3, h4, t0, t1, t2, t3, t4, n0, n1, n2, n3, n4⟩ : ∃ f0 f1 f2 f3 f4, (Try.prog.fieldsOf 75).toList = [f0, f1, f2, f3, f4] ∧ f0.offset = 0 ∧ f1.offset = 2 ∧ f2.offset = 4 ∧ f3.offset = 5 ∧ f4.offset = 6 ∧
    f0.type = 71 ∧ f1.type = 73 ∧ f2.type = 4 ∧ f3.type = 9 ∧ f4.type = 73 ∧ f0.name ≠ "_" ∧ f1.name ≠ "_" ∧ f2.name ≠ "_" ∧ f3.name ≠ "_" ∧ f4.name ≠ "_" := ⟨_, _, _, _, _, rfl, rfl, rfl, rfl, rfl, rfl, rfl, rfl, rfl, rfl, rfl, by decide, by decide, by decide, by decide, by decide⟩
  rw [hf]
  obtain ⟨xs, hxs⟩ : ∃ xs : Array Value, #[.int .i64 n, .int .i64 s, .int .i64 a, .int .i64 b, .bool g, .string (text t), .int .i64 d, .int .i64 e] = xs := ⟨_, rfl⟩
  obtain ⟨ys, hys⟩ : ∃ ys : Array Value, #[.int .i64 n', .int .i64 s', .int .i64 a', .int .i64 b', .bool g', .string (text t'), .int .i64 d', .int .i64 e'] = ys := ⟨_, rfl⟩
  have p0 : (part 71 xs 0).run Try.prog W = .ok (.agg #[.int .i64 n, .int .i64 s]) W := by rw [part_s0, ← hxs]; rfl
  have p1 : (part 73 xs 2).run Try.prog W = .ok (.agg #[.int .i64 a, .int .i64 b]) W := by rw [part_v2, ← hxs]; rfl
  have p2 := run_part_plain (P := Try.prog) (e := 4) W (by kernel_rfl) (xs := xs) (off := 4) (v := .bool g) (by rw [← hxs]; rfl)
  have p3 := run_part_plain (P := Try.prog) (e := 9) W (by kernel_rfl) (xs := xs) (off := 5) (v := .string (text t)) (by rw [← hxs]; rfl)
  have p4 : (part 73 xs 6).run Try.prog W = .ok (.agg #[.int .i64 d, .int .i64 e]) W := by rw [part_v6, ← hxs]; rfl
  have q0 : (part 71 ys 0).run Try.prog W = .ok (.agg #[.int .i64 n', .int .i64 s']) W := by rw [part_s0, ← hys]; rfl
  have q1 : (part 73 ys 2).run Try.prog W = .ok (.agg #[.int .i64 a', .int .i64 b']) W := by rw [part_v2, ← hys]; rfl
  have q2 := run_part_plain (P := Try.prog) (e := 4) W (by kernel_rfl) (xs := ys) (off := 4) (v := .bool g') (by rw [← hys]; rfl)
  have q3 := run_part_plain (P := Try.prog) (e := 9) W (by kernel_rfl) (xs := ys) (off := 5) (v := .string (text t')) (by rw [← hys]; rfl)
  have q4 : (part 73 ys 6).run Try.prog W = .ok (.agg #[.int .i64 d', .int .i64 e']) W := by rw [part_v6, ← hys]; rfl
  have he : ((text t).toList == (text t').toList) = decide (t = t') := by rw [text_toList, text_toList, Bool.eq_iff_iff]; simp
  have e0 := stamp_eqInD 9997 n s n' s' W
  have e1 := vec_eqInD 9997 a b a' b' W
  have e2 := run_equalIn_bool' W 9998 4 g g' Try.underlying4
  have e3 := run_equalIn_string W 9998 9 (text t) (text t') Try.underlying9
  have e4 := vec_eqInD 9997 d e d' e' W
  rw [he] at e3
  simp only [Nat.reduceAdd] at e0 e1 e2 e3 e4
  rw [hxs, hys]
  unfold cellEq
  clear hxs hys he hf
  generalize ((n == n') && (s == s')) = r0 at *
  generalize ((a == a') && (b == b')) = r1 at *
  generalize (g == g') = r2 at *
  generalize decide (t = t') = r3 at *
  generalize ((d == d') && (e == e')) = r4 at *
  cases r0 <;> cases r1 <;> cases r2 <;> cases r3 <;> cases r4 <;> simp [Op.eqFields, n0, n1, n2, n3, n4, h0, h1, h2, h3, h4, t0, t1, t2, t3, t4, p0, q0, p1, q1, p2, q2, p3, q3, p4, q4, e0, e1, e2, e3, e4, Sem.run_bind, Result.andThen_ok]
theorem cell_neb (n s a b : Int) (g : Bool) (t : List UInt8) (d e : Int) (n' s' a' b' : Int) (g' : Bool) (t' : List UInt8) (d' e' : Int) (r : Bool) (h : cellEq n s a b g t d e n' s' a' b' g' t' d' e' = r) (W : World) :
    (binOp .neq 75 (.agg #[.int .i64 n, .int .i64 s, .int .i64 a, .int .i64 b, .bool g, .string (text t), .int .i64 d, .int .i64 e]) (.agg #[.int .i64 n', .int .i64 s', .int .i64 a', .int .i64 b', .bool g', .string (text t'), .int .i64 d', .int .i64 e'])).run Try.prog W = .ok (.bool (!r)) W := by
  rw [run_neq_struct, cell_eqIn, h]; rfl
theorem cell_eqg (op : BinOp) (x y : Operand) (xs ys : Array Value) (W : World) : (eqGuard op 75 x y (.agg xs) (.agg ys)).run Try.prog W = .ok () W := run_eqGuard_agg W op _ x y xs ys (by kernel_rfl)
theorem cellEq_zero (n s a b : Int) (g : Bool) (t : List UInt8) : cellEq n s a b g t 0 0 0 0 0 0 false [] 0 0 = !wroteS n s a b g t := by
  unfold cellEq wroteS
  rw [Bool.eq_iff_iff]
  cases g <;> simp [and_assoc]

theorem ispolicy_c (p : Int) (w : World) : Calls Try.prog 108 #[.int .i64 p] w (fun e w' => e = .returned (.bool (p == 1 || p == 2)) ∧ w' = w) := by
  cases k1 : (p == 1) with
  | true =>
    go_enter Try.func108, Try.ntmps108
    go_wp2
    go_ret
    exact ⟨rfl, rfl⟩
  | false =>
    cases k2 : (p == 2) with
    | true =>
      go_enter Try.func108, Try.ntmps108
      go_wp2
      go_ret
      exact ⟨rfl, rfl⟩
    | false =>
      go_enter Try.func108, Try.ntmps108
      go_wp2
      go_ret
      exact ⟨rfl, rfl⟩

def deadS (p : Int) (g : Bool) (d e : Int) : Bool := if p = 2 then vgood d e && !g else ((d == 0) && (e == 0))
set_option maxHeartbeats 1600000 in
theorem gooddead_c (p n s a b : Int) (g : Bool) (t : List UInt8) (d e : Int) (w : World) :
    Calls Try.prog 109 #[.int .i64 p, .agg #[.int .i64 n, .int .i64 s, .int .i64 a, .int .i64 b, .bool g, .string (text t), .int .i64 d, .int .i64 e]] w (Tells (.bool (deadS p g d e)) w) := by
  have hp := Cel.new w n s a b g t d e
  have hb := alloc_below w (.cells #[.int .i64 n, .int .i64 s, .int .i64 a, .int .i64 b, .bool g, .string (text t), .int .i64 d, .int .i64 e] 75)
  have HB := Lib.hid hb
  have hEG := vec_eqg
  have hEQ := vec_eqb d e 0 0 ((d == 0) && (e == 0)) rfl
  have HV := (show deadS p g d e = if p = 2 then vgood d e && !g else ((d == 0) && (e == 0)) from rfl)
  obtain ⟨z, hz⟩ : ∃ z, ((d == 0) && (e == 0)) = z := ⟨_, rfl⟩
  rw [hz] at hEQ HV
  have G := fun W => vgood_c d e W
  obtain ⟨v, hv⟩ : ∃ v, vgood d e = v := ⟨_, rfl⟩
  rw [hv] at G HV
  have HG := Lib.hid G
  have HVH := Lib.hid HV
  clear hb hz hv G HV
  have HC := Lib.hid (fun W (h : Below (w.alloc (.cells #[.int .i64 n, .int .i64 s, .int .i64 a, .int .i64 b, .bool g, .string (text t), .int .i64 d, .int .i64 e] 75)).heap.size (w.alloc (.cells #[.int .i64 n, .int .i64 s, .int .i64 a, .int .i64 b, .bool g, .string (text t), .int .i64 d, .int .i64 e] 75)) W) => (hp.kept h).cs)
  by_cases p2 : p = 2
  · subst p2
    rw [if_pos rfl] at HVH
    cases v with
    | false =>
      go_enter Try.func109, Try.ntmps109
      go_upto_region 1 with (fail)
      generalize w.alloc (.cells #[.int .i64 n, .int .i64 s, .int .i64 a, .int .i64 b, .bool g, .string (text t), .int .i64 d, .int .i64 e] 75) = W1 at *
      clear hp
      obtain ⟨c0, c1, c2, c3, c4, c5, c6, c7⟩ := HC.out _ (Below.refl _ _)
      go_wp2_with (go_at_call 127; (with_reducible refine (HG.out _).mono ?_); rintro e9 w9 ⟨rfl, hb9⟩)
      go_ret
      exact ⟨by rw [HVH.out]; rfl, HB.out.trans (hb9.mono HB.out.size)⟩
    | true =>
      go_enter Try.func109, Try.ntmps109
      go_upto_region 1 with (fail)
      generalize w.alloc (.cells #[.int .i64 n, .int .i64 s, .int .i64 a, .int .i64 b, .bool g, .string (text t), .int .i64 d, .int .i64 e] 75) = W1 at *
      clear hp
      obtain ⟨c0, c1, c2, c3, c4, c5, c6, c7⟩ := HC.out _ (Below.refl _ _)
      go_wp2_with (go_at_call 127; (with_reducible refine (HG.out _).mono ?_); rintro e9 w9 ⟨rfl, hb9⟩; obtain ⟨c0, c1, c2, c3, c4, c5, c6, c7⟩ := HC.out _ hb9)
      go_ret
      exact ⟨by rw [HVH.out]; rfl, HB.out.trans (hb9.mono HB.out.size)⟩
  · rw [if_neg p2] at HVH
    have k2 : (p == 2) = false := by simpa using p2
    clear p2
    go_enter Try.func109, Try.ntmps109
    go_upto_region 1 with (fail)
    generalize w.alloc (.cells #[.int .i64 n, .int .i64 s, .int .i64 a, .int .i64 b, .bool g, .string (text t), .int .i64 d, .int .i64 e] 75) = W1 at *
    clear hp
    obtain ⟨c0, c1, c2, c3, c4, c5, c6, c7⟩ := HC.out _ (Below.refl _ _)
    go_wp2
    go_ret
    exact ⟨by rw [HVH.out]; rfl, HB.out⟩

set_option maxHeartbeats 1600000 in
theorem written_c (n s a b : Int) (g : Bool) (t : List UInt8) (d e : Int) (w : World) :
    Calls Try.prog 110 #[.agg #[.int .i64 n, .int .i64 s, .int .i64 a, .int .i64 b, .bool g, .string (text t), .int .i64 d, .int .i64 e]] w (Tells (.bool (wroteS n s a b g t)) w) := by
  have hb := alloc_below w (.cells #[.int .i64 n, .int .i64 s, .int .i64 a, .int .i64 b, .bool g, .string (text t), .int .i64 0, .int .i64 0] 75)
  have HB := Lib.hid hb
  have hp := Cel.new w n s a b g t 0 0
  obtain ⟨c0, c1, c2, c3, c4, c5, c6, c7⟩ := hp.cs
  have hEG := cell_eqg
  have hEQ := cell_neb n s a b g t 0 0 0 0 0 0 false [] 0 0 (!wroteS n s a b g t) (cellEq_zero n s a b g t)
  rw [Bool.not_not] at hEQ
  have hnil : text ([] : List UInt8) = ⟨#[]⟩ := rfl
  rw [hnil] at hEQ
  obtain ⟨r, hr⟩ : ∃ r, wroteS n s a b g t = r := ⟨_, rfl⟩
  rw [hr] at hEQ ⊢
  clear hb hnil hr hp
  go_enter Try.func110, Try.ntmps110
  go_wp2
  go_ret
  exact ⟨rfl, HB.out⟩

def whenS (n s : Int) : Bool := sgood n s && decide (0 < n)
theorem whenS_eq (n s : Int) : whenS n s = (sgood n s && !((n == 0) && (s == 0))) := by
  unfold whenS
  cases h : sgood n s with
  | false => rfl
  | true =>
    have hg : (n = 0 ∧ s = 0) ∨ (1 ≤ n ∧ n ≤ 281474976710656 ∧ (s = 1 ∨ s = 2)) := by simpa [sgood] using h
    rw [Bool.true_and, Bool.true_and, Bool.eq_iff_iff]
    simp
    omega
set_option maxHeartbeats 1600000 in
theorem iswhen_c (n s : Int) (w : World) : Calls Try.prog 128 #[.agg #[.int .i64 n, .int .i64 s]] w (Tells (.bool (whenS n s)) w) := by
  have hp := Pair.new w 71 n s
  have hb := alloc_below w (.cells #[.int .i64 n, .int .i64 s] 71)
  have HB := Lib.hid hb
  have hEG := stamp_eqg
  have hEQ := stamp_neb n s 0 0 ((n == 0) && (s == 0)) rfl
  have HV := Lib.hid (whenS_eq n s)
  obtain ⟨z, hz⟩ : ∃ z, ((n == 0) && (s == 0)) = z := ⟨_, rfl⟩
  rw [hz] at hEQ HV
  have G := fun W => sgood_c n s W
  obtain ⟨v, hv⟩ : ∃ v, sgood n s = v := ⟨_, rfl⟩
  rw [hv] at G HV
  have HG := Lib.hid G
  clear hb hz hv G
  cases v with
  | false =>
    go_enter Try.func128, Try.ntmps128
    go_upto_region 1 with (fail)
    generalize w.alloc (.cells #[.int .i64 n, .int .i64 s] 71) = W1 at *
    have p0 := hp.c0
    have p1 := hp.c1
    clear hp
    go_wp2_with (go_at_call 139; (with_reducible refine (HG.out _).mono ?_); rintro e9 w9 ⟨rfl, hb9⟩)
    go_ret
    exact ⟨by rw [HV.out]; rfl, HB.out.trans (hb9.mono HB.out.size)⟩
  | true =>
    go_enter Try.func128, Try.ntmps128
    go_upto_region 1 with (fail)
    generalize w.alloc (.cells #[.int .i64 n, .int .i64 s] 71) = W1 at *
    have p0 := hp.c0
    have p1 := hp.c1
    have HP := Lib.hid hp
    clear hp
    go_wp2_with (go_at_call 139; (with_reducible refine (HG.out _).mono ?_); rintro e9 w9 ⟨rfl, hb9⟩; have q0 := (HP.out.kept hb9).c0; have q1 := (HP.out.kept hb9).c1)
    go_ret
    exact ⟨by rw [HV.out]; simp, HB.out.trans (hb9.mono HB.out.size)⟩

def writeS (n s a b : Int) (g : Bool) (t : List UInt8) : Bool := whenS n s && (vgood a b && (decide (t.length ≤ 64) && !(g && !(t == []))))
set_option maxHeartbeats 6400000 in
theorem goodwrite_c (n s a b : Int) (g : Bool) (t : List UInt8) (d e : Int) (hmax : t.length ≤ 9223372036854775807) (w : World) :
    Calls Try.prog 111 #[.agg #[.int .i64 n, .int .i64 s, .int .i64 a, .int .i64 b, .bool g, .string (text t), .int .i64 d, .int .i64 e]] w (Tells (.bool (writeS n s a b g t)) w) := by
  have hp := Cel.new w n s a b g t d e
  have hb := alloc_below w (.cells #[.int .i64 n, .int .i64 s, .int .i64 a, .int .i64 b, .bool g, .string (text t), .int .i64 d, .int .i64 e] 75)
  have HB := Lib.hid hb
  have hts : ((text t).toList == []) = (t == []) := by rw [text_toList]
  have hsz : ((text t).size : Int) = (t.length : Int) := by rw [text_size]
  have HV := (show writeS n s a b g t = (whenS n s && (vgood a b && (decide (t.length ≤ 64) && !(g && !(t == []))))) from rfl)
  have HS := Lib.hid (fun W => iswhen_c n s W)
  have HVV := Lib.hid (fun W => vgood_c a b W)
  have HC := Lib.hid (fun W (h : Below (w.alloc (.cells #[.int .i64 n, .int .i64 s, .int .i64 a, .int .i64 b, .bool g, .string (text t), .int .i64 d, .int .i64 e] 75)).heap.size (w.alloc (.cells #[.int .i64 n, .int .i64 s, .int .i64 a, .int .i64 b, .bool g, .string (text t), .int .i64 d, .int .i64 e] 75)) W) => (hp.kept h).cs)
  obtain ⟨z, hz⟩ : ∃ z, (t == []) = z := ⟨_, rfl⟩
  rw [hz] at hts HV
  obtain ⟨L, hL⟩ : ∃ L, t.length = L := ⟨_, rfl⟩
  rw [hL] at hsz HV hmax
  have HVH := Lib.hid HV
  clear hb hz hL HV hp
  go_enter Try.func111, Try.ntmps111
  go_upto_region 1 with (fail)
  generalize w.alloc (.cells #[.int .i64 n, .int .i64 s, .int .i64 a, .int .i64 b, .bool g, .string (text t), .int .i64 d, .int .i64 e] 75) = W1 at *
  have hcur := Below.refl W1.heap.size W1
  obtain ⟨c0, c1, c2, c3, c4, c5, c6, c7⟩ := HC.out _ hcur
  cases hw : whenS n s with
  | false =>
    rw [hw] at HS HVH
    clear hw HVV
    go_wp2_with (first
      | (go_at_call 128; (with_reducible refine (HS.out _).mono ?_); rintro e9 w9 ⟨rfl, hb9⟩; (replace hcur := hcur.trans (hb9.mono hcur.size)); clear hb9; obtain ⟨c0, c1, c2, c3, c4, c5, c6, c7⟩ := HC.out _ hcur))
    go_ret
    exact ⟨by rw [HVH.out]; rfl, HB.out.trans (hcur.mono HB.out.size)⟩
  | true =>
    rw [hw] at HS HVH
    clear hw
    cases hv : vgood a b with
    | false =>
      rw [hv] at HVV HVH
      clear hv
      go_wp2_with (first
        | (go_at_call 128; (with_reducible refine (HS.out _).mono ?_); rintro e9 w9 ⟨rfl, hb9⟩; (replace hcur := hcur.trans (hb9.mono hcur.size)); clear hb9; obtain ⟨c0, c1, c2, c3, c4, c5, c6, c7⟩ := HC.out _ hcur)
        | (go_at_call 127; (with_reducible refine (HVV.out _).mono ?_); rintro e9 w9 ⟨rfl, hb9⟩; (replace hcur := hcur.trans (hb9.mono hcur.size)); clear hb9; obtain ⟨c0, c1, c2, c3, c4, c5, c6, c7⟩ := HC.out _ hcur))
      go_ret
      exact ⟨by rw [HVH.out]; rfl, HB.out.trans (hcur.mono HB.out.size)⟩
    | true =>
      rw [hv] at HVV HVH
      clear hv
      by_cases hl : L ≤ 64
      · have hli : (L : Int) ≤ 64 := by omega
        rw [decide_eq_true hl] at HVH
        cases g with
        | false =>
          go_wp2_with (first
            | (go_at_call 128; (with_reducible refine (HS.out _).mono ?_); rintro e9 w9 ⟨rfl, hb9⟩; (replace hcur := hcur.trans (hb9.mono hcur.size)); clear hb9; obtain ⟨c0, c1, c2, c3, c4, c5, c6, c7⟩ := HC.out _ hcur)
            | (go_at_call 127; (with_reducible refine (HVV.out _).mono ?_); rintro e9 w9 ⟨rfl, hb9⟩; (replace hcur := hcur.trans (hb9.mono hcur.size)); clear hb9; obtain ⟨c0, c1, c2, c3, c4, c5, c6, c7⟩ := HC.out _ hcur))
          go_ret
          exact ⟨by rw [HVH.out]; rfl, HB.out.trans (hcur.mono HB.out.size)⟩
        | true =>
          cases z with
          | false =>
            go_wp2_with (first
              | (go_at_call 128; (with_reducible refine (HS.out _).mono ?_); rintro e9 w9 ⟨rfl, hb9⟩; (replace hcur := hcur.trans (hb9.mono hcur.size)); clear hb9; obtain ⟨c0, c1, c2, c3, c4, c5, c6, c7⟩ := HC.out _ hcur)
              | (go_at_call 127; (with_reducible refine (HVV.out _).mono ?_); rintro e9 w9 ⟨rfl, hb9⟩; (replace hcur := hcur.trans (hb9.mono hcur.size)); clear hb9; obtain ⟨c0, c1, c2, c3, c4, c5, c6, c7⟩ := HC.out _ hcur))
            go_ret
            exact ⟨by rw [HVH.out]; rfl, HB.out.trans (hcur.mono HB.out.size)⟩
          | true =>
            go_wp2_with (first
              | (go_at_call 128; (with_reducible refine (HS.out _).mono ?_); rintro e9 w9 ⟨rfl, hb9⟩; (replace hcur := hcur.trans (hb9.mono hcur.size)); clear hb9; obtain ⟨c0, c1, c2, c3, c4, c5, c6, c7⟩ := HC.out _ hcur)
              | (go_at_call 127; (with_reducible refine (HVV.out _).mono ?_); rintro e9 w9 ⟨rfl, hb9⟩; (replace hcur := hcur.trans (hb9.mono hcur.size)); clear hb9; obtain ⟨c0, c1, c2, c3, c4, c5, c6, c7⟩ := HC.out _ hcur))
            go_ret
            exact ⟨by rw [HVH.out]; rfl, HB.out.trans (hcur.mono HB.out.size)⟩
      · have hli : ¬ (L : Int) ≤ 64 := by omega
        rw [decide_eq_false hl] at HVH
        go_wp2_with (first
          | (go_at_call 128; (with_reducible refine (HS.out _).mono ?_); rintro e9 w9 ⟨rfl, hb9⟩; (replace hcur := hcur.trans (hb9.mono hcur.size)); clear hb9; obtain ⟨c0, c1, c2, c3, c4, c5, c6, c7⟩ := HC.out _ hcur)
          | (go_at_call 127; (with_reducible refine (HVV.out _).mono ?_); rintro e9 w9 ⟨rfl, hb9⟩; (replace hcur := hcur.trans (hb9.mono hcur.size)); clear hb9; obtain ⟨c0, c1, c2, c3, c4, c5, c6, c7⟩ := HC.out _ hcur))
        go_ret
        exact ⟨by rw [HVH.out]; rfl, HB.out.trans (hcur.mono HB.out.size)⟩

theorem cgood_eq (p n s a b : Int) (g : Bool) (t : List UInt8) (d e : Int) : cgoodS p n s a b g t d e = ((p == 1 || p == 2) && (deadS p g d e && (!wroteS n s a b g t || writeS n s a b g t))) := by
  unfold cgoodS deadS writeS whenS zeroS
  by_cases p1 : p = 1
  · subst p1
    have h : (decide (d = 0) && decide (e = 0)) = ((d == 0) && (e == 0)) := by rw [Bool.eq_iff_iff]; simp
    rw [h]
    generalize ((d == 0) && (e == 0)) = z
    generalize (t == []) = y
    cases z <;> cases g <;> cases y <;> simp [Bool.and_assoc]
  · by_cases p2 : p = 2
    · subst p2
      generalize (t == []) = y
      cases g <;> cases y <;> simp [Bool.and_assoc]
    · have k1 : (p == 1) = false := by simpa using p1
      have k2 : (p == 2) = false := by simpa using p2
      rw [k1, k2]
      rfl
set_option maxHeartbeats 6400000 in
theorem cgood_c (p n s a b : Int) (g : Bool) (t : List UInt8) (d e : Int) (hmax : t.length ≤ 9223372036854775807) (w : World) :
    Calls Try.prog 86 #[.int .i64 p, .agg #[.int .i64 n, .int .i64 s, .int .i64 a, .int .i64 b, .bool g, .string (text t), .int .i64 d, .int .i64 e]] w (Tells (.bool (cgoodS p n s a b g t d e)) w) := by
  have hp := Cel.new w n s a b g t d e
  have hb := alloc_below w (.cells #[.int .i64 n, .int .i64 s, .int .i64 a, .int .i64 b, .bool g, .string (text t), .int .i64 d, .int .i64 e] 75)
  have HB := Lib.hid hb
  have HVH := Lib.hid (cgood_eq p n s a b g t d e)
  have HI := Lib.hid (fun W => ispolicy_c p W)
  have HD := Lib.hid (fun W => gooddead_c p n s a b g t d e W)
  have HW := Lib.hid (fun W => written_c n s a b g t d e W)
  have HR := Lib.hid (fun W => goodwrite_c n s a b g t d e hmax W)
  have HC := Lib.hid (fun W (h : Below (w.alloc (.cells #[.int .i64 n, .int .i64 s, .int .i64 a, .int .i64 b, .bool g, .string (text t), .int .i64 d, .int .i64 e] 75)).heap.size (w.alloc (.cells #[.int .i64 n, .int .i64 s, .int .i64 a, .int .i64 b, .bool g, .string (text t), .int .i64 d, .int .i64 e] 75)) W) => (hp.kept h).cs)
  obtain ⟨r, hr⟩ : ∃ r, cgoodS p n s a b g t d e = r := ⟨_, rfl⟩
  obtain ⟨q, hq⟩ : ∃ q, (p == 1 || p == 2) = q := ⟨_, rfl⟩
  obtain ⟨x, hx⟩ : ∃ x, deadS p g d e = x := ⟨_, rfl⟩
  obtain ⟨y, hy⟩ : ∃ y, wroteS n s a b g t = y := ⟨_, rfl⟩
  obtain ⟨z, hz⟩ : ∃ z, writeS n s a b g t = z := ⟨_, rfl⟩
  rw [hr, hq, hx, hy, hz] at HVH
  rw [hr]
  rw [hq] at HI
  rw [hx] at HD
  rw [hy] at HW
  rw [hz] at HR
  clear hb hp hr hq hx hy hz hmax
  go_enter Try.func86, Try.ntmps86
  go_upto_region 1 with (fail)
  generalize w.alloc (.cells #[.int .i64 n, .int .i64 s, .int .i64 a, .int .i64 b, .bool g, .string (text t), .int .i64 d, .int .i64 e] 75) = W1 at *
  have hcur := Below.refl W1.heap.size W1
  obtain ⟨c0, c1, c2, c3, c4, c5, c6, c7⟩ := HC.out _ hcur
  cases q with
  | false =>
    go_wp2_with (first
      | (go_at_call 108; (with_reducible refine (HI.out _).mono ?_); rintro e9 w9 ⟨rfl, rfl⟩))
    go_ret
    exact ⟨by rw [HVH.out]; rfl, HB.out.trans (hcur.mono HB.out.size)⟩
  | true =>
    cases x with
    | false =>
      go_wp2_with (first
        | (go_at_call 108; (with_reducible refine (HI.out _).mono ?_); rintro e9 w9 ⟨rfl, rfl⟩)
        | (go_at_call 109; (with_reducible refine (HD.out _).mono ?_); rintro e9 w9 ⟨rfl, hb9⟩; (replace hcur := hcur.trans (hb9.mono hcur.size)); clear hb9; obtain ⟨c0, c1, c2, c3, c4, c5, c6, c7⟩ := HC.out _ hcur))
      go_ret
      exact ⟨by rw [HVH.out]; rfl, HB.out.trans (hcur.mono HB.out.size)⟩
    | true =>
      cases y with
      | false =>
        go_wp2_with (first
          | (go_at_call 108; (with_reducible refine (HI.out _).mono ?_); rintro e9 w9 ⟨rfl, rfl⟩)
          | (go_at_call 109; (with_reducible refine (HD.out _).mono ?_); rintro e9 w9 ⟨rfl, hb9⟩; (replace hcur := hcur.trans (hb9.mono hcur.size)); clear hb9; obtain ⟨c0, c1, c2, c3, c4, c5, c6, c7⟩ := HC.out _ hcur)
          | (go_at_call 110; (with_reducible refine (HW.out _).mono ?_); rintro e9 w9 ⟨rfl, hb9⟩; (replace hcur := hcur.trans (hb9.mono hcur.size)); clear hb9; obtain ⟨c0, c1, c2, c3, c4, c5, c6, c7⟩ := HC.out _ hcur))
        go_ret
        exact ⟨by rw [HVH.out]; rfl, HB.out.trans (hcur.mono HB.out.size)⟩
      | true =>
        cases z with
        | false =>
          go_wp2_with (first
            | (go_at_call 108; (with_reducible refine (HI.out _).mono ?_); rintro e9 w9 ⟨rfl, rfl⟩)
            | (go_at_call 109; (with_reducible refine (HD.out _).mono ?_); rintro e9 w9 ⟨rfl, hb9⟩; (replace hcur := hcur.trans (hb9.mono hcur.size)); clear hb9; obtain ⟨c0, c1, c2, c3, c4, c5, c6, c7⟩ := HC.out _ hcur)
            | (go_at_call 110; (with_reducible refine (HW.out _).mono ?_); rintro e9 w9 ⟨rfl, hb9⟩; (replace hcur := hcur.trans (hb9.mono hcur.size)); clear hb9; obtain ⟨c0, c1, c2, c3, c4, c5, c6, c7⟩ := HC.out _ hcur)
            | (go_at_call 111; (with_reducible refine (HR.out _).mono ?_); rintro e9 w9 ⟨rfl, hb9⟩; (replace hcur := hcur.trans (hb9.mono hcur.size)); clear hb9; obtain ⟨c0, c1, c2, c3, c4, c5, c6, c7⟩ := HC.out _ hcur))
          go_ret
          exact ⟨by rw [HVH.out]; rfl, HB.out.trans (hcur.mono HB.out.size)⟩
        | true =>
          go_wp2_with (first
            | (go_at_call 108; (with_reducible refine (HI.out _).mono ?_); rintro e9 w9 ⟨rfl, rfl⟩)
            | (go_at_call 109; (with_reducible refine (HD.out _).mono ?_); rintro e9 w9 ⟨rfl, hb9⟩; (replace hcur := hcur.trans (hb9.mono hcur.size)); clear hb9; obtain ⟨c0, c1, c2, c3, c4, c5, c6, c7⟩ := HC.out _ hcur)
            | (go_at_call 110; (with_reducible refine (HW.out _).mono ?_); rintro e9 w9 ⟨rfl, hb9⟩; (replace hcur := hcur.trans (hb9.mono hcur.size)); clear hb9; obtain ⟨c0, c1, c2, c3, c4, c5, c6, c7⟩ := HC.out _ hcur)
            | (go_at_call 111; (with_reducible refine (HR.out _).mono ?_); rintro e9 w9 ⟨rfl, hb9⟩; (replace hcur := hcur.trans (hb9.mono hcur.size)); clear hb9; obtain ⟨c0, c1, c2, c3, c4, c5, c6, c7⟩ := HC.out _ hcur))
          go_ret
          exact ⟨by rw [HVH.out]; rfl, HB.out.trans (hcur.mono HB.out.size)⟩
end Go.Proofs.Ytidbjmkfmfojdaa
end

section
namespace Go.Proofs.Ytidbjmkfmfojdaa
open Go.RowKit
set_option linter.unusedVariables false
set_option maxRecDepth 20000

def RetT (t : List UInt8 × Int × Int) (w : World) (e : Ending) (w' : World) : Prop := e = .returned (.tuple #[.string (text t.1), .int .i64 t.2.1, .int .i64 t.2.2]) ∧ w = w'
theorem RetT.mk {s : ByteArray} {x y : Int} {t : List UInt8 × Int × Int} {z : List UInt8} {w : World} (hs : s = text z) (h : t = (z, x, y)) : RetT t w (.returned (.tuple #[.string s, .int .i64 x, .int .i64 y])) w := by
  subst h; subst hs; exact ⟨rfl, rfl⟩

end Go.Proofs.Ytidbjmkfmfojdaa
end

section
namespace Go.Proofs.Ytidbjmkfmfojdaa
open Go.RowKit Go Go.Sort
set_option linter.unusedVariables false
set_option maxRecDepth 20000

/-- A cell. -/
structure Cl where
  n : Int
  s : Int
  a : Int
  b : Int
  g : Bool
  t : List UInt8
  d : Int
  e : Int
def Cl.zero : Cl := ⟨0, 0, 0, 0, false, [], 0, 0⟩
def Cl.arr (c : Cl) : Array Value := #[.int .i64 c.n, .int .i64 c.s, .int .i64 c.a, .int .i64 c.b, .bool c.g, .string (text c.t), .int .i64 c.d, .int .i64 c.e]
def Cl.good (p : Int) (c : Cl) : Bool := cgoodS p c.n c.s c.a c.b c.g c.t c.d c.e
def Cl.wrote (c : Cl) : Bool := wroteS c.n c.s c.a c.b c.g c.t

/-- Whether a write may be. -/
def argS (p n s a b : Int) (g : Bool) (t : List UInt8) : Bool := (p == 1 || p == 2) && (whenS n s && (vgood a b && !(g && !(t == []))))
def cofS (p n s a b : Int) (g : Bool) (t : List UInt8) : Cl × Int :=
  if argS p n s a b g t = true then (if 64 < t.length then (Cl.zero, 3) else if ((p == 2) && g) = true then (⟨0, 0, 0, 0, false, [], a, b⟩, 0) else (⟨n, s, a, b, g, t, 0, 0⟩, 0)) else (Cl.zero, 2)

/-- The first number of a cell's bytes. -/
def sumS (w g z : Bool) : Int := (if w then 1 else 0) + (if g then 2 else 0) + (if z then 0 else 4)
def Cl.sum (c : Cl) : Int := sumS c.wrote c.g (zeroS c.d c.e)
def Cl.gone (g : Bool) : Cl := ⟨0, 0, 0, 0, g, [], 0, 0⟩
end Go.Proofs.Ytidbjmkfmfojdaa
end

section
namespace Go.Proofs.Ytidbjmkfmfojdaa
open Go.RowKit Go Go.Sort
set_option linter.unusedVariables false
set_option maxRecDepth 20000

/-- A whole cell is stored. -/
theorem Cel.put {W : World} {q : Nat} {n s a b d e : Int} {g : Bool} {t : List UInt8} (h : Cel W q n s a b g t d e) (n' s' a' b' : Int) (g' : Bool) (t' : List UInt8) (d' e' : Int) :
    Cel ((((((((W.setCell ⟨q, 0, none⟩ (.int .i64 n')).setCell ⟨q, 1, none⟩ (.int .i64 s')).setCell ⟨q, 2, none⟩ (.int .i64 a')).setCell ⟨q, 3, none⟩ (.int .i64 b')).setCell ⟨q, 4, none⟩ (.bool g')).setCell ⟨q, 5, none⟩ (.string (text t'))).setCell ⟨q, 6, none⟩ (.int .i64 d')).setCell ⟨q, 7, none⟩ (.int .i64 e')) q n' s' a' b' g' t' d' e' := by
  have h0 : (W.setCell ⟨q, 0, none⟩ (.int .i64 n')).heap[q]? = some (.cells #[.int .i64 n', .int .i64 s, .int .i64 a, .int .i64 b, .bool g, .string (text t), .int .i64 d, .int .i64 e] 75 (0, 0)) := (heap_setCell_same _ q 0 _ _ _ h).trans rfl
  have h1 : ((W.setCell ⟨q, 0, none⟩ (.int .i64 n')).setCell ⟨q, 1, none⟩ (.int .i64 s')).heap[q]? = some (.cells #[.int .i64 n', .int .i64 s', .int .i64 a, .int .i64 b, .bool g, .string (text t), .int .i64 d, .int .i64 e] 75 (0, 0)) := (heap_setCell_same _ q 1 _ _ _ h0).trans rfl
  have h2 : (((W.setCell ⟨q, 0, none⟩ (.int .i64 n')).setCell ⟨q, 1, none⟩ (.int .i64 s')).setCell ⟨q, 2, none⟩ (.int .i64 a')).heap[q]? = some (.cells #[.int .i64 n', .int .i64 s', .int .i64 a', .int .i64 b, .bool g, .string (text t), .int .i64 d, .int .i64 e] 75 (0, 0)) := (heap_setCell_same _ q 2 _ _ _ h1).trans rfl
  have h3 : ((((W.setCell ⟨q, 0, none⟩ (.int .i64 n')).setCell ⟨q, 1, none⟩ (.int .i64 s')).setCell ⟨q, 2, none⟩ (.int .i64 a')).setCell ⟨q, 3, none⟩ (.int .i64 b')).heap[q]? = some (.cells #[.int .i64 n', .int .i64 s', .int .i64 a', .int .i64 b', .bool g, .string (text t), .int .i64 d, .int .i64 e] 75 (0, 0)) := (heap_setCell_same _ q 3 _ _ _ h2).trans rfl
  have h4 : (((((W.setCell ⟨q, 0, none⟩ (.int .i64 n')).setCell ⟨q, 1, none⟩ (.int .i64 s')).setCell ⟨q, 2, none⟩ (.int .i64 a')).setCell ⟨q, 3, none⟩ (.int .i64 b')).setCell ⟨q, 4, none⟩ (.bool g')).heap[q]? = some (.cells #[.int .i64 n', .int .i64 s', .int .i64 a', .int .i64 b', .bool g', .string (text t), .int .i64 d, .int .i64 e] 75 (0, 0)) := (heap_setCell_same _ q 4 _ _ _ h3).trans rfl
  have h5 : ((((((W.setCell ⟨q, 0, none⟩ (.int .i64 n')).setCell ⟨q, 1, none⟩ (.int .i64 s')).setCell ⟨q, 2, none⟩ (.int .i64 a')).setCell ⟨q, 3, none⟩ (.int .i64 b')).setCell ⟨q, 4, none⟩ (.bool g')).setCell ⟨q, 5, none⟩ (.string (text t'))).heap[q]? = some (.cells #[.int .i64 n', .int .i64 s', .int .i64 a', .int .i64 b', .bool g', .string (text t'), .int .i64 d, .int .i64 e] 75 (0, 0)) := (heap_setCell_same _ q 5 _ _ _ h4).trans rfl
  have h6 : (((((((W.setCell ⟨q, 0, none⟩ (.int .i64 n')).setCell ⟨q, 1, none⟩ (.int .i64 s')).setCell ⟨q, 2, none⟩ (.int .i64 a')).setCell ⟨q, 3, none⟩ (.int .i64 b')).setCell ⟨q, 4, none⟩ (.bool g')).setCell ⟨q, 5, none⟩ (.string (text t'))).setCell ⟨q, 6, none⟩ (.int .i64 d')).heap[q]? = some (.cells #[.int .i64 n', .int .i64 s', .int .i64 a', .int .i64 b', .bool g', .string (text t'), .int .i64 d', .int .i64 e] 75 (0, 0)) := (heap_setCell_same _ q 6 _ _ _ h5).trans rfl
  have h7 : ((((((((W.setCell ⟨q, 0, none⟩ (.int .i64 n')).setCell ⟨q, 1, none⟩ (.int .i64 s')).setCell ⟨q, 2, none⟩ (.int .i64 a')).setCell ⟨q, 3, none⟩ (.int .i64 b')).setCell ⟨q, 4, none⟩ (.bool g')).setCell ⟨q, 5, none⟩ (.string (text t'))).setCell ⟨q, 6, none⟩ (.int .i64 d')).setCell ⟨q, 7, none⟩ (.int .i64 e')).heap[q]? = some (.cells #[.int .i64 n', .int .i64 s', .int .i64 a', .int .i64 b', .bool g', .string (text t'), .int .i64 d', .int .i64 e'] 75 (0, 0)) := (heap_setCell_same _ q 7 _ _ _ h6).trans rfl
  exact h7
theorem put_below {B : Nat} {w W : World} (h : Below B w W) {q : Nat} (hq : B ≤ q) (n' s' a' b' : Int) (g' : Bool) (t' : List UInt8) (d' e' : Int) : Below B w ((((((((W.setCell ⟨q, 0, none⟩ (.int .i64 n')).setCell ⟨q, 1, none⟩ (.int .i64 s')).setCell ⟨q, 2, none⟩ (.int .i64 a')).setCell ⟨q, 3, none⟩ (.int .i64 b')).setCell ⟨q, 4, none⟩ (.bool g')).setCell ⟨q, 5, none⟩ (.string (text t'))).setCell ⟨q, 6, none⟩ (.int .i64 d')).setCell ⟨q, 7, none⟩ (.int .i64 e')) :=
  (((((((h.setCell (p := ⟨q, 0, none⟩) hq _).setCell (p := ⟨q, 1, none⟩) hq _).setCell (p := ⟨q, 2, none⟩) hq _).setCell (p := ⟨q, 3, none⟩) hq _).setCell (p := ⟨q, 4, none⟩) hq _).setCell (p := ⟨q, 5, none⟩) hq _).setCell (p := ⟨q, 6, none⟩) hq _).setCell (p := ⟨q, 7, none⟩) hq _
theorem sizeC (n s a b : Int) (g : Bool) (t : List UInt8) (d e : Int) : (Try.prog.info? 75).map (·.size) = some (#[.int .i64 n, .int .i64 s, .int .i64 a, .int .i64 b, .bool g, .string (text t), .int .i64 d, .int .i64 e] : Array Value).size := by kernel_rfl
theorem Cel.third (W : World) (o1 o2 : Obj) (n s a b : Int) (g : Bool) (t : List UInt8) (d e : Int) : Cel (((W.alloc o1).alloc o2).alloc (.cells #[.int .i64 n, .int .i64 s, .int .i64 a, .int .i64 b, .bool g, .string (text t), .int .i64 d, .int .i64 e] 75)) (W.heap.size + 1 + 1) n s a b g t d e := by
  have h := Cel.new ((W.alloc o1).alloc o2) n s a b g t d e
  rwa [World.size_alloc, World.size_alloc] at h

/-- A cell, and an error. -/
def OfPost (r : Cl × Int) (w : World) (e : Ending) (w' : World) : Prop := Tells (.tuple #[.agg r.1.arr, .int .i64 r.2]) w e w'

set_option maxHeartbeats 6400000 in
theorem cof_c (p n s a b : Int) (g : Bool) (t : List UInt8) (hmax : t.length ≤ 9223372036854775807) (w : World) :
    Calls Try.prog 120 #[.int .i64 p, .agg #[.int .i64 n, .int .i64 s], .agg #[.int .i64 a, .int .i64 b], .bool g, .string (text t)] w (OfPost (cofS p n s a b g t) w) := by
  have hp := ((Pair.new w 71 n s).alloc (.cells #[.int .i64 a, .int .i64 b] 73)).alloc (.cells #[.int .i64 0, .int .i64 0, .int .i64 0, .int .i64 0, .bool false, .string (text []), .int .i64 0, .int .i64 0] 75)
  have hq := (Pair.second w (.cells #[.int .i64 n, .int .i64 s] 71) 73 a b).alloc (.cells #[.int .i64 0, .int .i64 0, .int .i64 0, .int .i64 0, .bool false, .string (text []), .int .i64 0, .int .i64 0] 75)
  have ho := Cel.third w (.cells #[.int .i64 n, .int .i64 s] 71) (.cells #[.int .i64 a, .int .i64 b] 73) 0 0 0 0 false [] 0 0
  have hb := third_below w (.cells #[.int .i64 n, .int .i64 s] 71) (.cells #[.int .i64 a, .int .i64 b] 73) (.cells #[.int .i64 0, .int .i64 0, .int .i64 0, .int .i64 0, .bool false, .string (text []), .int .i64 0, .int .i64 0] 75)
  have hts : ((text t).toList == []) = (t == []) := by rw [text_toList]
  have hsz : ((text t).size : Int) = (t.length : Int) := by rw [text_size]
  have hnil : text ([] : List UInt8) = ⟨#[]⟩ := rfl
  rw [hnil] at hp hq ho hb
  have HB := Lib.hid hb
  have HV := (show cofS p n s a b g t = if argS p n s a b g t = true then (if 64 < t.length then (Cl.zero, 3) else if ((p == 2) && g) = true then (⟨0, 0, 0, 0, false, [], a, b⟩, 0) else (⟨n, s, a, b, g, t, 0, 0⟩, 0)) else (Cl.zero, 2) from rfl)
  have HA := (show argS p n s a b g t = ((p == 1 || p == 2) && (whenS n s && (vgood a b && !(g && !(t == []))))) from rfl)
  have HI := Lib.hid (fun W => ispolicy_c p W)
  have hG := fun W => iswhen_c n s W
  have hK := fun W => vgood_c a b W
  obtain ⟨z, hz⟩ : ∃ z, (t == []) = z := ⟨_, rfl⟩
  rw [hz] at hts HA
  obtain ⟨L, hL⟩ : ∃ L, t.length = L := ⟨_, rfl⟩
  rw [hL] at hsz HV hmax
  obtain ⟨v, hv⟩ : ∃ v, vgood a b = v := ⟨_, rfl⟩
  rw [hv] at HA hK
  have HK := Lib.hid hK
  obtain ⟨R, hR⟩ : ∃ R, cofS p n s a b g t = R := ⟨_, rfl⟩
  rw [hR] at HV ⊢
  obtain ⟨A, hA⟩ : ∃ A, argS p n s a b g t = A := ⟨_, rfl⟩
  rw [hA] at HV HA
  clear hb hnil hz hL hv hR hA hK
  go_enter Try.func120, Try.ntmps120
  go_upto_region 1 with (fail)
  generalize ((w.alloc (.cells #[.int .i64 n, .int .i64 s] 71)).alloc (.cells #[.int .i64 a, .int .i64 b] 73)).alloc (.cells #[.int .i64 0, .int .i64 0, .int .i64 0, .int .i64 0, .bool false, .string ⟨#[]⟩, .int .i64 0, .int .i64 0] 75) = W1 at *
  have HP := Lib.hid (fun W (h : Below W1.heap.size W1 W) => (And.intro (hp.kept h).c0 (And.intro (hp.kept h).c1 (And.intro (hq.kept h).c0 (hq.kept h).c1))))
  have HO := Lib.hid (fun W (h : Below W1.heap.size W1 W) => ho.kept h)
  have hcur := Below.refl W1.heap.size W1
  obtain ⟨p0, p1, q0, q1⟩ := HP.out _ hcur
  obtain ⟨c0, c1, c2, c3, c4, c5, c6, c7⟩ := (HO.out _ hcur).cs
  have hfz := (HO.out _ hcur).fz
  clear hp hq ho
  by_cases p1 : p = 1
  · subst p1
    cases hs : whenS n s with
    | false =>
      rw [hs] at HA hG
      have HG := Lib.hid hG
      clear hs hG
      have HR := Lib.hid (show R = (Cl.zero, 2) by rw [HV, HA]; rfl)
      clear HV HA
      go_wp2_with (first
        | (go_at_call 108; (with_reducible refine (HI.out _).mono ?_); rintro e9 w9 ⟨rfl, rfl⟩)
        | (go_at_call 128; (with_reducible refine (HG.out _).mono ?_); rintro e9 w9 ⟨rfl, hb9⟩; (replace hcur := hcur.trans (hb9.mono hcur.size)); clear hb9; obtain ⟨p0, p1, q0, q1⟩ := HP.out _ hcur; obtain ⟨c0, c1, c2, c3, c4, c5, c6, c7⟩ := (HO.out _ hcur).cs; have hfz := (HO.out _ hcur).fz))
      refine bodyPost_ret (res_cell_tmp rfl _ _ (w.heap.size + 1 + 1) 75 _ (0, 0) _ (.int .i64 2) rfl rfl ((HO.out _ hcur).put 0 0 0 0 false [] 0 0) Try.underlying75 rfl (sizeC _ _ _ _ _ _ _ _)) rfl ⟨by rw [HR.out]; rfl, put_below (HB.out.trans (hcur.mono HB.out.size)) (by omega) _ _ _ _ _ _ _ _⟩
    | true =>
      rw [hs] at HA hG
      have HG := Lib.hid hG
      clear hs hG
      cases v with
      | false =>
        have HR := Lib.hid (show R = (Cl.zero, 2) by rw [HV, HA]; rfl)
        clear HV HA
        go_wp2_with (first
          | (go_at_call 108; (with_reducible refine (HI.out _).mono ?_); rintro e9 w9 ⟨rfl, rfl⟩)
          | (go_at_call 128; (with_reducible refine (HG.out _).mono ?_); rintro e9 w9 ⟨rfl, hb9⟩; (replace hcur := hcur.trans (hb9.mono hcur.size)); clear hb9; obtain ⟨p0, p1, q0, q1⟩ := HP.out _ hcur; obtain ⟨c0, c1, c2, c3, c4, c5, c6, c7⟩ := (HO.out _ hcur).cs; have hfz := (HO.out _ hcur).fz)
          | (go_at_call 127; (with_reducible refine (HK.out _).mono ?_); rintro e9 w9 ⟨rfl, hb9⟩; (replace hcur := hcur.trans (hb9.mono hcur.size)); clear hb9; obtain ⟨p0, p1, q0, q1⟩ := HP.out _ hcur; obtain ⟨c0, c1, c2, c3, c4, c5, c6, c7⟩ := (HO.out _ hcur).cs; have hfz := (HO.out _ hcur).fz))
        refine bodyPost_ret (res_cell_tmp rfl _ _ (w.heap.size + 1 + 1) 75 _ (0, 0) _ (.int .i64 2) rfl rfl ((HO.out _ hcur).put 0 0 0 0 false [] 0 0) Try.underlying75 rfl (sizeC _ _ _ _ _ _ _ _)) rfl ⟨by rw [HR.out]; rfl, put_below (HB.out.trans (hcur.mono HB.out.size)) (by omega) _ _ _ _ _ _ _ _⟩
      | true =>
        cases g with
        | false =>
          have HAt : A = true := by rw [HA]; rfl
          by_cases hl : 64 < L
          · have hli : (64 : Int) < (L : Int) := by omega
            have HR := Lib.hid (show R = (Cl.zero, 3) by rw [HV, if_pos HAt, if_pos hl])
            clear HV HA
            go_wp2_with (first
              | (go_at_call 108; (with_reducible refine (HI.out _).mono ?_); rintro e9 w9 ⟨rfl, rfl⟩)
              | (go_at_call 128; (with_reducible refine (HG.out _).mono ?_); rintro e9 w9 ⟨rfl, hb9⟩; (replace hcur := hcur.trans (hb9.mono hcur.size)); clear hb9; obtain ⟨p0, p1, q0, q1⟩ := HP.out _ hcur; obtain ⟨c0, c1, c2, c3, c4, c5, c6, c7⟩ := (HO.out _ hcur).cs; have hfz := (HO.out _ hcur).fz)
              | (go_at_call 127; (with_reducible refine (HK.out _).mono ?_); rintro e9 w9 ⟨rfl, hb9⟩; (replace hcur := hcur.trans (hb9.mono hcur.size)); clear hb9; obtain ⟨p0, p1, q0, q1⟩ := HP.out _ hcur; obtain ⟨c0, c1, c2, c3, c4, c5, c6, c7⟩ := (HO.out _ hcur).cs; have hfz := (HO.out _ hcur).fz))
            refine bodyPost_ret (res_cell_tmp rfl _ _ (w.heap.size + 1 + 1) 75 _ (0, 0) _ (.int .i64 3) rfl rfl ((HO.out _ hcur).put 0 0 0 0 false [] 0 0) Try.underlying75 rfl (sizeC _ _ _ _ _ _ _ _)) rfl ⟨by rw [HR.out]; rfl, put_below (HB.out.trans (hcur.mono HB.out.size)) (by omega) _ _ _ _ _ _ _ _⟩
          · have hli : ¬ (64 : Int) < (L : Int) := by omega
            have HR := Lib.hid (show R = (⟨n, s, a, b, false, t, 0, 0⟩, 0) by rw [HV, if_pos HAt, if_neg hl]; rfl)
            clear HV HA
            go_wp2_with (first
              | (go_at_call 108; (with_reducible refine (HI.out _).mono ?_); rintro e9 w9 ⟨rfl, rfl⟩)
              | (go_at_call 128; (with_reducible refine (HG.out _).mono ?_); rintro e9 w9 ⟨rfl, hb9⟩; (replace hcur := hcur.trans (hb9.mono hcur.size)); clear hb9; obtain ⟨p0, p1, q0, q1⟩ := HP.out _ hcur; obtain ⟨c0, c1, c2, c3, c4, c5, c6, c7⟩ := (HO.out _ hcur).cs; have hfz := (HO.out _ hcur).fz)
              | (go_at_call 127; (with_reducible refine (HK.out _).mono ?_); rintro e9 w9 ⟨rfl, hb9⟩; (replace hcur := hcur.trans (hb9.mono hcur.size)); clear hb9; obtain ⟨p0, p1, q0, q1⟩ := HP.out _ hcur; obtain ⟨c0, c1, c2, c3, c4, c5, c6, c7⟩ := (HO.out _ hcur).cs; have hfz := (HO.out _ hcur).fz))
            refine bodyPost_ret (res_cell_tmp rfl _ _ (w.heap.size + 1 + 1) 75 _ (0, 0) _ (.int .i64 0) rfl rfl ((HO.out _ hcur).put n s a b false t 0 0) Try.underlying75 rfl (sizeC _ _ _ _ _ _ _ _)) rfl ⟨by rw [HR.out]; rfl, put_below (HB.out.trans (hcur.mono HB.out.size)) (by omega) _ _ _ _ _ _ _ _⟩
        | true =>
          cases z with
          | false =>
            have HR := Lib.hid (show R = (Cl.zero, 2) by rw [HV, HA]; rfl)
            clear HV HA
            go_wp2_with (first
              | (go_at_call 108; (with_reducible refine (HI.out _).mono ?_); rintro e9 w9 ⟨rfl, rfl⟩)
              | (go_at_call 128; (with_reducible refine (HG.out _).mono ?_); rintro e9 w9 ⟨rfl, hb9⟩; (replace hcur := hcur.trans (hb9.mono hcur.size)); clear hb9; obtain ⟨p0, p1, q0, q1⟩ := HP.out _ hcur; obtain ⟨c0, c1, c2, c3, c4, c5, c6, c7⟩ := (HO.out _ hcur).cs; have hfz := (HO.out _ hcur).fz)
              | (go_at_call 127; (with_reducible refine (HK.out _).mono ?_); rintro e9 w9 ⟨rfl, hb9⟩; (replace hcur := hcur.trans (hb9.mono hcur.size)); clear hb9; obtain ⟨p0, p1, q0, q1⟩ := HP.out _ hcur; obtain ⟨c0, c1, c2, c3, c4, c5, c6, c7⟩ := (HO.out _ hcur).cs; have hfz := (HO.out _ hcur).fz))
            refine bodyPost_ret (res_cell_tmp rfl _ _ (w.heap.size + 1 + 1) 75 _ (0, 0) _ (.int .i64 2) rfl rfl ((HO.out _ hcur).put 0 0 0 0 false [] 0 0) Try.underlying75 rfl (sizeC _ _ _ _ _ _ _ _)) rfl ⟨by rw [HR.out]; rfl, put_below (HB.out.trans (hcur.mono HB.out.size)) (by omega) _ _ _ _ _ _ _ _⟩
          | true =>
            have HAt : A = true := by rw [HA]; rfl
            by_cases hl : 64 < L
            · have hli : (64 : Int) < (L : Int) := by omega
              have HR := Lib.hid (show R = (Cl.zero, 3) by rw [HV, if_pos HAt, if_pos hl])
              clear HV HA
              go_wp2_with (first
                | (go_at_call 108; (with_reducible refine (HI.out _).mono ?_); rintro e9 w9 ⟨rfl, rfl⟩)
                | (go_at_call 128; (with_reducible refine (HG.out _).mono ?_); rintro e9 w9 ⟨rfl, hb9⟩; (replace hcur := hcur.trans (hb9.mono hcur.size)); clear hb9; obtain ⟨p0, p1, q0, q1⟩ := HP.out _ hcur; obtain ⟨c0, c1, c2, c3, c4, c5, c6, c7⟩ := (HO.out _ hcur).cs; have hfz := (HO.out _ hcur).fz)
                | (go_at_call 127; (with_reducible refine (HK.out _).mono ?_); rintro e9 w9 ⟨rfl, hb9⟩; (replace hcur := hcur.trans (hb9.mono hcur.size)); clear hb9; obtain ⟨p0, p1, q0, q1⟩ := HP.out _ hcur; obtain ⟨c0, c1, c2, c3, c4, c5, c6, c7⟩ := (HO.out _ hcur).cs; have hfz := (HO.out _ hcur).fz))
              refine bodyPost_ret (res_cell_tmp rfl _ _ (w.heap.size + 1 + 1) 75 _ (0, 0) _ (.int .i64 3) rfl rfl ((HO.out _ hcur).put 0 0 0 0 false [] 0 0) Try.underlying75 rfl (sizeC _ _ _ _ _ _ _ _)) rfl ⟨by rw [HR.out]; rfl, put_below (HB.out.trans (hcur.mono HB.out.size)) (by omega) _ _ _ _ _ _ _ _⟩
            · have hli : ¬ (64 : Int) < (L : Int) := by omega
              have HR := Lib.hid (show R = (⟨n, s, a, b, true, t, 0, 0⟩, 0) by rw [HV, if_pos HAt, if_neg hl]; rfl)
              clear HV HA
              go_wp2_with (first
                | (go_at_call 108; (with_reducible refine (HI.out _).mono ?_); rintro e9 w9 ⟨rfl, rfl⟩)
                | (go_at_call 128; (with_reducible refine (HG.out _).mono ?_); rintro e9 w9 ⟨rfl, hb9⟩; (replace hcur := hcur.trans (hb9.mono hcur.size)); clear hb9; obtain ⟨p0, p1, q0, q1⟩ := HP.out _ hcur; obtain ⟨c0, c1, c2, c3, c4, c5, c6, c7⟩ := (HO.out _ hcur).cs; have hfz := (HO.out _ hcur).fz)
                | (go_at_call 127; (with_reducible refine (HK.out _).mono ?_); rintro e9 w9 ⟨rfl, hb9⟩; (replace hcur := hcur.trans (hb9.mono hcur.size)); clear hb9; obtain ⟨p0, p1, q0, q1⟩ := HP.out _ hcur; obtain ⟨c0, c1, c2, c3, c4, c5, c6, c7⟩ := (HO.out _ hcur).cs; have hfz := (HO.out _ hcur).fz))
              refine bodyPost_ret (res_cell_tmp rfl _ _ (w.heap.size + 1 + 1) 75 _ (0, 0) _ (.int .i64 0) rfl rfl ((HO.out _ hcur).put n s a b true t 0 0) Try.underlying75 rfl (sizeC _ _ _ _ _ _ _ _)) rfl ⟨by rw [HR.out]; rfl, put_below (HB.out.trans (hcur.mono HB.out.size)) (by omega) _ _ _ _ _ _ _ _⟩
  · have k1 : (p == 1) = false := by simpa using p1
    have k1n : (p != 1) = true := by simpa using p1
    by_cases p2 : p = 2
    · subst p2
      clear p1 k1 k1n
      cases hs : whenS n s with
      | false =>
        rw [hs] at HA hG
        have HG := Lib.hid hG
        clear hs hG
        have HR := Lib.hid (show R = (Cl.zero, 2) by rw [HV, HA]; rfl)
        clear HV HA
        go_wp2_with (first
          | (go_at_call 108; (with_reducible refine (HI.out _).mono ?_); rintro e9 w9 ⟨rfl, rfl⟩)
          | (go_at_call 128; (with_reducible refine (HG.out _).mono ?_); rintro e9 w9 ⟨rfl, hb9⟩; (replace hcur := hcur.trans (hb9.mono hcur.size)); clear hb9; obtain ⟨p0, p1, q0, q1⟩ := HP.out _ hcur; obtain ⟨c0, c1, c2, c3, c4, c5, c6, c7⟩ := (HO.out _ hcur).cs; have hfz := (HO.out _ hcur).fz))
        refine bodyPost_ret (res_cell_tmp rfl _ _ (w.heap.size + 1 + 1) 75 _ (0, 0) _ (.int .i64 2) rfl rfl ((HO.out _ hcur).put 0 0 0 0 false [] 0 0) Try.underlying75 rfl (sizeC _ _ _ _ _ _ _ _)) rfl ⟨by rw [HR.out]; rfl, put_below (HB.out.trans (hcur.mono HB.out.size)) (by omega) _ _ _ _ _ _ _ _⟩
      | true =>
        rw [hs] at HA hG
        have HG := Lib.hid hG
        clear hs hG
        cases v with
        | false =>
          have HR := Lib.hid (show R = (Cl.zero, 2) by rw [HV, HA]; rfl)
          clear HV HA
          go_wp2_with (first
            | (go_at_call 108; (with_reducible refine (HI.out _).mono ?_); rintro e9 w9 ⟨rfl, rfl⟩)
            | (go_at_call 128; (with_reducible refine (HG.out _).mono ?_); rintro e9 w9 ⟨rfl, hb9⟩; (replace hcur := hcur.trans (hb9.mono hcur.size)); clear hb9; obtain ⟨p0, p1, q0, q1⟩ := HP.out _ hcur; obtain ⟨c0, c1, c2, c3, c4, c5, c6, c7⟩ := (HO.out _ hcur).cs; have hfz := (HO.out _ hcur).fz)
            | (go_at_call 127; (with_reducible refine (HK.out _).mono ?_); rintro e9 w9 ⟨rfl, hb9⟩; (replace hcur := hcur.trans (hb9.mono hcur.size)); clear hb9; obtain ⟨p0, p1, q0, q1⟩ := HP.out _ hcur; obtain ⟨c0, c1, c2, c3, c4, c5, c6, c7⟩ := (HO.out _ hcur).cs; have hfz := (HO.out _ hcur).fz))
          refine bodyPost_ret (res_cell_tmp rfl _ _ (w.heap.size + 1 + 1) 75 _ (0, 0) _ (.int .i64 2) rfl rfl ((HO.out _ hcur).put 0 0 0 0 false [] 0 0) Try.underlying75 rfl (sizeC _ _ _ _ _ _ _ _)) rfl ⟨by rw [HR.out]; rfl, put_below (HB.out.trans (hcur.mono HB.out.size)) (by omega) _ _ _ _ _ _ _ _⟩
        | true =>
          cases g with
          | false =>
            have HAt : A = true := by rw [HA]; rfl
            by_cases hl : 64 < L
            · have hli : (64 : Int) < (L : Int) := by omega
              have HR := Lib.hid (show R = (Cl.zero, 3) by rw [HV, if_pos HAt, if_pos hl])
              clear HV HA
              go_wp2_with (first
                | (go_at_call 108; (with_reducible refine (HI.out _).mono ?_); rintro e9 w9 ⟨rfl, rfl⟩)
                | (go_at_call 128; (with_reducible refine (HG.out _).mono ?_); rintro e9 w9 ⟨rfl, hb9⟩; (replace hcur := hcur.trans (hb9.mono hcur.size)); clear hb9; obtain ⟨p0, p1, q0, q1⟩ := HP.out _ hcur; obtain ⟨c0, c1, c2, c3, c4, c5, c6, c7⟩ := (HO.out _ hcur).cs; have hfz := (HO.out _ hcur).fz)
                | (go_at_call 127; (with_reducible refine (HK.out _).mono ?_); rintro e9 w9 ⟨rfl, hb9⟩; (replace hcur := hcur.trans (hb9.mono hcur.size)); clear hb9; obtain ⟨p0, p1, q0, q1⟩ := HP.out _ hcur; obtain ⟨c0, c1, c2, c3, c4, c5, c6, c7⟩ := (HO.out _ hcur).cs; have hfz := (HO.out _ hcur).fz))
              refine bodyPost_ret (res_cell_tmp rfl _ _ (w.heap.size + 1 + 1) 75 _ (0, 0) _ (.int .i64 3) rfl rfl ((HO.out _ hcur).put 0 0 0 0 false [] 0 0) Try.underlying75 rfl (sizeC _ _ _ _ _ _ _ _)) rfl ⟨by rw [HR.out]; rfl, put_below (HB.out.trans (hcur.mono HB.out.size)) (by omega) _ _ _ _ _ _ _ _⟩
            · have hli : ¬ (64 : Int) < (L : Int) := by omega
              have HR := Lib.hid (show R = (⟨n, s, a, b, false, t, 0, 0⟩, 0) by rw [HV, if_pos HAt, if_neg hl]; rfl)
              clear HV HA
              go_wp2_with (first
                | (go_at_call 108; (with_reducible refine (HI.out _).mono ?_); rintro e9 w9 ⟨rfl, rfl⟩)
                | (go_at_call 128; (with_reducible refine (HG.out _).mono ?_); rintro e9 w9 ⟨rfl, hb9⟩; (replace hcur := hcur.trans (hb9.mono hcur.size)); clear hb9; obtain ⟨p0, p1, q0, q1⟩ := HP.out _ hcur; obtain ⟨c0, c1, c2, c3, c4, c5, c6, c7⟩ := (HO.out _ hcur).cs; have hfz := (HO.out _ hcur).fz)
                | (go_at_call 127; (with_reducible refine (HK.out _).mono ?_); rintro e9 w9 ⟨rfl, hb9⟩; (replace hcur := hcur.trans (hb9.mono hcur.size)); clear hb9; obtain ⟨p0, p1, q0, q1⟩ := HP.out _ hcur; obtain ⟨c0, c1, c2, c3, c4, c5, c6, c7⟩ := (HO.out _ hcur).cs; have hfz := (HO.out _ hcur).fz))
              refine bodyPost_ret (res_cell_tmp rfl _ _ (w.heap.size + 1 + 1) 75 _ (0, 0) _ (.int .i64 0) rfl rfl ((HO.out _ hcur).put n s a b false t 0 0) Try.underlying75 rfl (sizeC _ _ _ _ _ _ _ _)) rfl ⟨by rw [HR.out]; rfl, put_below (HB.out.trans (hcur.mono HB.out.size)) (by omega) _ _ _ _ _ _ _ _⟩
          | true =>
            cases z with
            | false =>
              have HR := Lib.hid (show R = (Cl.zero, 2) by rw [HV, HA]; rfl)
              clear HV HA
              go_wp2_with (first
                | (go_at_call 108; (with_reducible refine (HI.out _).mono ?_); rintro e9 w9 ⟨rfl, rfl⟩)
                | (go_at_call 128; (with_reducible refine (HG.out _).mono ?_); rintro e9 w9 ⟨rfl, hb9⟩; (replace hcur := hcur.trans (hb9.mono hcur.size)); clear hb9; obtain ⟨p0, p1, q0, q1⟩ := HP.out _ hcur; obtain ⟨c0, c1, c2, c3, c4, c5, c6, c7⟩ := (HO.out _ hcur).cs; have hfz := (HO.out _ hcur).fz)
                | (go_at_call 127; (with_reducible refine (HK.out _).mono ?_); rintro e9 w9 ⟨rfl, hb9⟩; (replace hcur := hcur.trans (hb9.mono hcur.size)); clear hb9; obtain ⟨p0, p1, q0, q1⟩ := HP.out _ hcur; obtain ⟨c0, c1, c2, c3, c4, c5, c6, c7⟩ := (HO.out _ hcur).cs; have hfz := (HO.out _ hcur).fz))
              refine bodyPost_ret (res_cell_tmp rfl _ _ (w.heap.size + 1 + 1) 75 _ (0, 0) _ (.int .i64 2) rfl rfl ((HO.out _ hcur).put 0 0 0 0 false [] 0 0) Try.underlying75 rfl (sizeC _ _ _ _ _ _ _ _)) rfl ⟨by rw [HR.out]; rfl, put_below (HB.out.trans (hcur.mono HB.out.size)) (by omega) _ _ _ _ _ _ _ _⟩
            | true =>
              have HAt : A = true := by rw [HA]; rfl
              by_cases hl : 64 < L
              · have hli : (64 : Int) < (L : Int) := by omega
                have HR := Lib.hid (show R = (Cl.zero, 3) by rw [HV, if_pos HAt, if_pos hl])
                clear HV HA
                go_wp2_with (first
                  | (go_at_call 108; (with_reducible refine (HI.out _).mono ?_); rintro e9 w9 ⟨rfl, rfl⟩)
                  | (go_at_call 128; (with_reducible refine (HG.out _).mono ?_); rintro e9 w9 ⟨rfl, hb9⟩; (replace hcur := hcur.trans (hb9.mono hcur.size)); clear hb9; obtain ⟨p0, p1, q0, q1⟩ := HP.out _ hcur; obtain ⟨c0, c1, c2, c3, c4, c5, c6, c7⟩ := (HO.out _ hcur).cs; have hfz := (HO.out _ hcur).fz)
                  | (go_at_call 127; (with_reducible refine (HK.out _).mono ?_); rintro e9 w9 ⟨rfl, hb9⟩; (replace hcur := hcur.trans (hb9.mono hcur.size)); clear hb9; obtain ⟨p0, p1, q0, q1⟩ := HP.out _ hcur; obtain ⟨c0, c1, c2, c3, c4, c5, c6, c7⟩ := (HO.out _ hcur).cs; have hfz := (HO.out _ hcur).fz))
                refine bodyPost_ret (res_cell_tmp rfl _ _ (w.heap.size + 1 + 1) 75 _ (0, 0) _ (.int .i64 3) rfl rfl ((HO.out _ hcur).put 0 0 0 0 false [] 0 0) Try.underlying75 rfl (sizeC _ _ _ _ _ _ _ _)) rfl ⟨by rw [HR.out]; rfl, put_below (HB.out.trans (hcur.mono HB.out.size)) (by omega) _ _ _ _ _ _ _ _⟩
              · have hli : ¬ (64 : Int) < (L : Int) := by omega
                have HR := Lib.hid (show R = (⟨0, 0, 0, 0, false, [], a, b⟩, 0) by rw [HV, if_pos HAt, if_neg hl]; rfl)
                clear HV HA
                go_wp2_with (first
                  | (go_at_call 108; (with_reducible refine (HI.out _).mono ?_); rintro e9 w9 ⟨rfl, rfl⟩)
                  | (go_at_call 128; (with_reducible refine (HG.out _).mono ?_); rintro e9 w9 ⟨rfl, hb9⟩; (replace hcur := hcur.trans (hb9.mono hcur.size)); clear hb9; obtain ⟨p0, p1, q0, q1⟩ := HP.out _ hcur; obtain ⟨c0, c1, c2, c3, c4, c5, c6, c7⟩ := (HO.out _ hcur).cs; have hfz := (HO.out _ hcur).fz)
                  | (go_at_call 127; (with_reducible refine (HK.out _).mono ?_); rintro e9 w9 ⟨rfl, hb9⟩; (replace hcur := hcur.trans (hb9.mono hcur.size)); clear hb9; obtain ⟨p0, p1, q0, q1⟩ := HP.out _ hcur; obtain ⟨c0, c1, c2, c3, c4, c5, c6, c7⟩ := (HO.out _ hcur).cs; have hfz := (HO.out _ hcur).fz))
                refine bodyPost_ret (res_cell_tmp rfl _ _ (w.heap.size + 1 + 1) 75 _ (0, 0) _ (.int .i64 0) rfl rfl ((HO.out _ hcur).put 0 0 0 0 false [] a b) Try.underlying75 rfl (sizeC _ _ _ _ _ _ _ _)) rfl ⟨by rw [HR.out]; rfl, put_below (HB.out.trans (hcur.mono HB.out.size)) (by omega) _ _ _ _ _ _ _ _⟩
    · have k2 : (p == 2) = false := by simpa using p2
      have k2n : (p != 2) = true := by simpa using p2
      rw [k1, k2] at HA
      rw [k1, k2] at HI
      clear p1 p2
      have HR := Lib.hid (show R = (Cl.zero, 2) by rw [HV, HA]; rfl)
      clear HV HA
      go_wp2_with (first
        | (go_at_call 108; (with_reducible refine (HI.out _).mono ?_); rintro e9 w9 ⟨rfl, rfl⟩))
      refine bodyPost_ret (res_cell_tmp rfl _ _ (w.heap.size + 1 + 1) 75 _ (0, 0) _ (.int .i64 2) rfl rfl ((HO.out _ hcur).put 0 0 0 0 false [] 0 0) Try.underlying75 rfl (sizeC _ _ _ _ _ _ _ _)) rfl ⟨by rw [HR.out]; rfl, put_below (HB.out.trans (hcur.mono HB.out.size)) (by omega) _ _ _ _ _ _ _ _⟩
end Go.Proofs.Ytidbjmkfmfojdaa
end

section
namespace Go.Proofs.Ytidbjmkfmfojdaa
open Go.RowKit Go Go.Sort
set_option linter.unusedVariables false
set_option maxRecDepth 20000

theorem Cel.head {W : World} {q : Nat} {n s a b d e : Int} {g : Bool} {t : List UInt8} (h : Cel W q n s a b g t d e) (n' : Int) (s' : Int) (a' : Int) (b' : Int) (g' : Bool) : Cel (((((W.setCell ⟨q, 0, none⟩ (.int .i64 n')).setCell ⟨q, 1, none⟩ (.int .i64 s')).setCell ⟨q, 2, none⟩ (.int .i64 a')).setCell ⟨q, 3, none⟩ (.int .i64 b')).setCell ⟨q, 4, none⟩ (.bool g')) q n' s' a' b' g' t d e := by
  have h0 : (W.setCell ⟨q, 0, none⟩ (.int .i64 n')).heap[q]? = some (.cells #[.int .i64 n', .int .i64 s, .int .i64 a, .int .i64 b, .bool g, .string (text t), .int .i64 d, .int .i64 e] 75 (0, 0)) := (heap_setCell_same _ q 0 _ _ _ h).trans rfl
  have h1 : ((W.setCell ⟨q, 0, none⟩ (.int .i64 n')).setCell ⟨q, 1, none⟩ (.int .i64 s')).heap[q]? = some (.cells #[.int .i64 n', .int .i64 s', .int .i64 a, .int .i64 b, .bool g, .string (text t), .int .i64 d, .int .i64 e] 75 (0, 0)) := (heap_setCell_same _ q 1 _ _ _ h0).trans rfl
  have h2 : (((W.setCell ⟨q, 0, none⟩ (.int .i64 n')).setCell ⟨q, 1, none⟩ (.int .i64 s')).setCell ⟨q, 2, none⟩ (.int .i64 a')).heap[q]? = some (.cells #[.int .i64 n', .int .i64 s', .int .i64 a', .int .i64 b, .bool g, .string (text t), .int .i64 d, .int .i64 e] 75 (0, 0)) := (heap_setCell_same _ q 2 _ _ _ h1).trans rfl
  have h3 : ((((W.setCell ⟨q, 0, none⟩ (.int .i64 n')).setCell ⟨q, 1, none⟩ (.int .i64 s')).setCell ⟨q, 2, none⟩ (.int .i64 a')).setCell ⟨q, 3, none⟩ (.int .i64 b')).heap[q]? = some (.cells #[.int .i64 n', .int .i64 s', .int .i64 a', .int .i64 b', .bool g, .string (text t), .int .i64 d, .int .i64 e] 75 (0, 0)) := (heap_setCell_same _ q 3 _ _ _ h2).trans rfl
  have h4 : (((((W.setCell ⟨q, 0, none⟩ (.int .i64 n')).setCell ⟨q, 1, none⟩ (.int .i64 s')).setCell ⟨q, 2, none⟩ (.int .i64 a')).setCell ⟨q, 3, none⟩ (.int .i64 b')).setCell ⟨q, 4, none⟩ (.bool g')).heap[q]? = some (.cells #[.int .i64 n', .int .i64 s', .int .i64 a', .int .i64 b', .bool g', .string (text t), .int .i64 d, .int .i64 e] 75 (0, 0)) := (heap_setCell_same _ q 4 _ _ _ h3).trans rfl
  exact h4
theorem Cel.dead {W : World} {q : Nat} {n s a b d e : Int} {g : Bool} {t : List UInt8} (h : Cel W q n s a b g t d e) (d' : Int) (e' : Int) : Cel ((W.setCell ⟨q, 6, none⟩ (.int .i64 d')).setCell ⟨q, 7, none⟩ (.int .i64 e')) q n s a b g t d' e' := by
  have h0 : (W.setCell ⟨q, 6, none⟩ (.int .i64 d')).heap[q]? = some (.cells #[.int .i64 n, .int .i64 s, .int .i64 a, .int .i64 b, .bool g, .string (text t), .int .i64 d', .int .i64 e] 75 (0, 0)) := (heap_setCell_same _ q 6 _ _ _ h).trans rfl
  have h1 : ((W.setCell ⟨q, 6, none⟩ (.int .i64 d')).setCell ⟨q, 7, none⟩ (.int .i64 e')).heap[q]? = some (.cells #[.int .i64 n, .int .i64 s, .int .i64 a, .int .i64 b, .bool g, .string (text t), .int .i64 d', .int .i64 e'] 75 (0, 0)) := (heap_setCell_same _ q 7 _ _ _ h0).trans rfl
  exact h1
theorem dead_below {B : Nat} {w W : World} (h : Below B w W) {q : Nat} (hq : B ≤ q) (d' : Int) (e' : Int) : Below B w ((W.setCell ⟨q, 6, none⟩ (.int .i64 d')).setCell ⟨q, 7, none⟩ (.int .i64 e')) :=
  ((h.setCell (p := ⟨q, 6, none⟩) hq _).setCell (p := ⟨q, 7, none⟩) hq _)
theorem Cel.gn {W : World} {q : Nat} {n s a b d e : Int} {g : Bool} {t : List UInt8} (h : Cel W q n s a b g t d e) (g' : Bool) : Cel (W.setCell ⟨q, 4, none⟩ (.bool g')) q n s a b g' t d e := by
  have h0 : (W.setCell ⟨q, 4, none⟩ (.bool g')).heap[q]? = some (.cells #[.int .i64 n, .int .i64 s, .int .i64 a, .int .i64 b, .bool g', .string (text t), .int .i64 d, .int .i64 e] 75 (0, 0)) := (heap_setCell_same _ q 4 _ _ _ h).trans rfl
  exact h0
end Go.Proofs.Ytidbjmkfmfojdaa
end

section
namespace Go.Proofs.Ytidbjmkfmfojdaa
open Go.RowKit Go Go.Sort
set_option linter.unusedVariables false
set_option maxRecDepth 20000

/-- One block alone is other than it was, and there may be more. -/
structure Only (q : Nat) (w w' : World) : Prop where
  os : w'.os = w.os
  tape : w'.tape = w.tape
  output : w'.output = w.output
  size : w.heap.size ≤ w'.heap.size
  rest : ∀ k, k < w.heap.size → k ≠ q → w'.heap[k]? = w.heap[k]?
theorem Only.set (W : World) (p : Addr) (v : Value) : Only p.block W (W.setCell p v) := by
  have h := (Below.refl p.block W).setCell (p := p) (Nat.le_refl _) v
  exact ⟨h.os, h.tape, h.output, h.size, fun k _ hk => heap_setCell_other W p k v hk⟩
theorem Only.trans {q : Nat} {a b c : World} (h : Only q a b) (k : Only q b c) : Only q a c :=
  ⟨k.os.trans h.os, k.tape.trans h.tape, k.output.trans h.output, Nat.le_trans h.size k.size, fun i hi hne => (k.rest i (Nat.lt_of_lt_of_le hi h.size) hne).trans (h.rest i hi hne)⟩
theorem Only.below {q B : Nat} {w w' : World} (h : Only q w w') (hB : B ≤ q) (hs : B ≤ w.heap.size) : Below B w w' := ⟨h.os, h.tape, h.output, h.size, fun k hk => h.rest k (by omega) (by omega)⟩
theorem Only.of_below {q : Nat} {w w' : World} (h : Below w.heap.size w w') : Only q w w' := ⟨h.os, h.tape, h.output, h.size, fun k hk _ => h.block k hk⟩

end Go.Proofs.Ytidbjmkfmfojdaa
end

section
namespace Go.Proofs.Ytidbjmkfmfojdaa
open Go.RowKit Go Go.Sort
set_option linter.unusedVariables false
set_option maxRecDepth 20000

set_option maxHeartbeats 6400000 in
theorem cseen_c (p n s a b : Int) (g : Bool) (t : List UInt8) (d e : Int) (hmax : t.length ≤ 9223372036854775807) (w : World) :
    Calls Try.prog 116 #[.int .i64 p, .agg #[.int .i64 n, .int .i64 s, .int .i64 a, .int .i64 b, .bool g, .string (text t), .int .i64 d, .int .i64 e]] w (Tells (.tuple #[.string (text (cseenS p n s a b g t d e).1), .bool (cseenS p n s a b g t d e).2]) w) := by
  have hp := Cel.new w n s a b g t d e
  have hb := alloc_below w (.cells #[.int .i64 n, .int .i64 s, .int .i64 a, .int .i64 b, .bool g, .string (text t), .int .i64 d, .int .i64 e] 75)
  have HB := Lib.hid hb
  have HV := (show cseenS p n s a b g t d e = if (cgoodS p n s a b g t d e && (wroteS n s a b g t && (!g && vcov a b d e))) = true then (t, true) else ([], false) from rfl)
  obtain ⟨r, hr⟩ : ∃ r, cseenS p n s a b g t d e = r := ⟨_, rfl⟩
  rw [hr] at HV ⊢
  have HG := fun W => cgood_c p n s a b g t d e hmax W
  have HW := fun W => written_c n s a b g t d e W
  have HK := fun W => vcov_c a b d e W
  clear hb hr hmax
  go_enter Try.func116, Try.ntmps116
  go_upto_region 1 with (fail)
  have HC := Lib.hid (fun W (h : Below (w.alloc (.cells #[.int .i64 n, .int .i64 s, .int .i64 a, .int .i64 b, .bool g, .string (text t), .int .i64 d, .int .i64 e] 75)).heap.size (w.alloc (.cells #[.int .i64 n, .int .i64 s, .int .i64 a, .int .i64 b, .bool g, .string (text t), .int .i64 d, .int .i64 e] 75)) W) => (hp.kept h).cs)
  generalize w.alloc (.cells #[.int .i64 n, .int .i64 s, .int .i64 a, .int .i64 b, .bool g, .string (text t), .int .i64 d, .int .i64 e] 75) = W1 at *
  clear hp
  have hcur := Below.refl W1.heap.size W1
  obtain ⟨c0, c1, c2, c3, c4, c5, c6, c7⟩ := HC.out _ hcur
  cases hg : cgoodS p n s a b g t d e with
  | false =>
    rw [hg] at HG
    rw [hg] at HV
    clear hg
    replace HG := Lib.hid HG
    replace HV := Lib.hid HV
    clear HW HK
    go_wp2_with (first
      | (go_at_call 86; (with_reducible refine (HG.out _).mono ?_); rintro e9 w9 ⟨rfl, hb9⟩; (replace hcur := hcur.trans (hb9.mono hcur.size)); clear hb9; obtain ⟨c0, c1, c2, c3, c4, c5, c6, c7⟩ := HC.out _ hcur))
    go_ret2
    exact ⟨by rw [HV.out]; rfl, HB.out.trans (hcur.mono HB.out.size)⟩
  | true =>
    rw [hg] at HG
    rw [hg] at HV
    clear hg
    cases hw : wroteS n s a b g t with
    | false =>
      rw [hw] at HW
      rw [hw] at HV
      clear hw
      replace HG := Lib.hid HG
      replace HW := Lib.hid HW
      replace HV := Lib.hid HV
      clear HK
      go_wp2_with (first
        | (go_at_call 86; (with_reducible refine (HG.out _).mono ?_); rintro e9 w9 ⟨rfl, hb9⟩; (replace hcur := hcur.trans (hb9.mono hcur.size)); clear hb9; obtain ⟨c0, c1, c2, c3, c4, c5, c6, c7⟩ := HC.out _ hcur)
        | (go_at_call 110; (with_reducible refine (HW.out _).mono ?_); rintro e9 w9 ⟨rfl, hb9⟩; (replace hcur := hcur.trans (hb9.mono hcur.size)); clear hb9; obtain ⟨c0, c1, c2, c3, c4, c5, c6, c7⟩ := HC.out _ hcur))
      go_ret2
      exact ⟨by rw [HV.out]; rfl, HB.out.trans (hcur.mono HB.out.size)⟩
    | true =>
      rw [hw] at HW
      rw [hw] at HV
      clear hw
      cases g with
      | true =>
        replace HG := Lib.hid HG
        replace HW := Lib.hid HW
        replace HV := Lib.hid HV
        clear HK
        go_wp2_with (first
          | (go_at_call 86; (with_reducible refine (HG.out _).mono ?_); rintro e9 w9 ⟨rfl, hb9⟩; (replace hcur := hcur.trans (hb9.mono hcur.size)); clear hb9; obtain ⟨c0, c1, c2, c3, c4, c5, c6, c7⟩ := HC.out _ hcur)
          | (go_at_call 110; (with_reducible refine (HW.out _).mono ?_); rintro e9 w9 ⟨rfl, hb9⟩; (replace hcur := hcur.trans (hb9.mono hcur.size)); clear hb9; obtain ⟨c0, c1, c2, c3, c4, c5, c6, c7⟩ := HC.out _ hcur))
        go_ret2
        exact ⟨by rw [HV.out]; rfl, HB.out.trans (hcur.mono HB.out.size)⟩
      | false =>
        cases hk : vcov a b d e with
        | false =>
          rw [hk] at HK
          rw [hk] at HV
          clear hk
          replace HG := Lib.hid HG
          replace HW := Lib.hid HW
          replace HK := Lib.hid HK
          replace HV := Lib.hid HV
          go_wp2_with (first
            | (go_at_call 86; (with_reducible refine (HG.out _).mono ?_); rintro e9 w9 ⟨rfl, hb9⟩; (replace hcur := hcur.trans (hb9.mono hcur.size)); clear hb9; obtain ⟨c0, c1, c2, c3, c4, c5, c6, c7⟩ := HC.out _ hcur)
            | (go_at_call 110; (with_reducible refine (HW.out _).mono ?_); rintro e9 w9 ⟨rfl, hb9⟩; (replace hcur := hcur.trans (hb9.mono hcur.size)); clear hb9; obtain ⟨c0, c1, c2, c3, c4, c5, c6, c7⟩ := HC.out _ hcur)
            | (go_at_call 129; (with_reducible refine (HK.out _).mono ?_); rintro e9 w9 ⟨rfl, hb9⟩; (replace hcur := hcur.trans (hb9.mono hcur.size)); clear hb9; obtain ⟨c0, c1, c2, c3, c4, c5, c6, c7⟩ := HC.out _ hcur))
          go_ret2
          exact ⟨by rw [HV.out]; rfl, HB.out.trans (hcur.mono HB.out.size)⟩
        | true =>
          rw [hk] at HK
          rw [hk] at HV
          clear hk
          replace HG := Lib.hid HG
          replace HW := Lib.hid HW
          replace HK := Lib.hid HK
          replace HV := Lib.hid HV
          go_wp2_with (first
            | (go_at_call 86; (with_reducible refine (HG.out _).mono ?_); rintro e9 w9 ⟨rfl, hb9⟩; (replace hcur := hcur.trans (hb9.mono hcur.size)); clear hb9; obtain ⟨c0, c1, c2, c3, c4, c5, c6, c7⟩ := HC.out _ hcur)
            | (go_at_call 110; (with_reducible refine (HW.out _).mono ?_); rintro e9 w9 ⟨rfl, hb9⟩; (replace hcur := hcur.trans (hb9.mono hcur.size)); clear hb9; obtain ⟨c0, c1, c2, c3, c4, c5, c6, c7⟩ := HC.out _ hcur)
            | (go_at_call 129; (with_reducible refine (HK.out _).mono ?_); rintro e9 w9 ⟨rfl, hb9⟩; (replace hcur := hcur.trans (hb9.mono hcur.size)); clear hb9; obtain ⟨c0, c1, c2, c3, c4, c5, c6, c7⟩ := HC.out _ hcur))
          go_ret2
          exact ⟨by rw [HV.out]; rfl, HB.out.trans (hcur.mono HB.out.size)⟩

end Go.Proofs.Ytidbjmkfmfojdaa
end

section
namespace Go.Proofs.Ytidbjmkfmfojdaa
open Go.RowKit Go Go.Sort
set_option linter.unusedVariables false

abbrev Grp := List UInt8 × Int
def nameS (s : List UInt8) : Bool := s.all (fun c => decide (97 ≤ c.toNat ∧ c.toNat ≤ 122)) && decide (1 ≤ s.length ∧ s.length ≤ 12)
def goodFrom (ahead : List Grp) : List Grp → Int
  | [] => 0
  | g :: r => if ¬ (nameS g.1 = true ∧ (g.2 = 1 ∨ g.2 = 2)) then 2 else if ahead.any (fun h => h.1 == g.1) then 70 else goodFrom (ahead ++ [g]) r
def pgoodS (l : List Grp) : Int := if l.length = 0 then 2 else if 4 < l.length then 3 else goodFrom [] l
/-- A list of groups that lies in memory. -/
structure Grs (w : World) (a : Option Addr) (n cap : Nat) (l : List Grp) : Prop where
  len : l.length = n
  le : n ≤ cap
  max : cap ≤ 9223372036854775807
  adr : cap = 0 ∨ ∃ b off, a = some ⟨b, off, none⟩ ∧ ∀ i, i < n → w.cell? ⟨b, off + i * 2, none⟩ = some (.string (text (l.getD i ([], 0)).1)) ∧ w.cell? ⟨b, off + i * 2 + 1, none⟩ = some (.int .i64 (l.getD i ([], 0)).2)
theorem Grs.below {w w' : World} {a : Option Addr} {n cap : Nat} {l : List Grp} (h : Grs w a n cap l) (hb : Below w.heap.size w w') : Grs w' a n cap l := by
  refine ⟨h.len, h.le, h.max, ?_⟩
  rcases h.adr with h4 | ⟨b, off, rfl, hc⟩
  · exact .inl h4
  · refine .inr ⟨b, off, rfl, fun i hi => ?_⟩
    obtain ⟨h1, h2⟩ := hc i hi
    exact ⟨by rw [hb.cell (World.block_lt_of_cell? w _ h1)]; exact h1, by rw [hb.cell (World.block_lt_of_cell? w _ h2)]; exact h2⟩
/-- What a group's place holds, in every world in which nothing of the old is turned. -/
theorem Grs.at {w : World} {a : Option Addr} {n cap : Nat} {l : List Grp} (h : Grs w a n cap l) {k : Nat} (hk : k < n) :
    ∃ b off, a = some ⟨b, off, none⟩ ∧ ∀ W, Below w.heap.size w W → W.cell? ⟨b, off + k * 2, none⟩ = some (.string (text (l.getD k ([], 0)).1)) ∧ W.cell? ⟨b, off + k * 2 + 1, none⟩ = some (.int .i64 (l.getD k ([], 0)).2) := by
  have := h.le
  rcases h.adr with h4 | ⟨b, off, rfl, hc⟩
  · omega
  · exact ⟨b, off, rfl, fun W hb => ⟨by rw [hb.cell (World.block_lt_of_cell? w _ (hc k hk).1)]; exact (hc k hk).1, by rw [hb.cell (World.block_lt_of_cell? w _ (hc k hk).2)]; exact (hc k hk).2⟩⟩
end Go.Proofs.Ytidbjmkfmfojdaa
end

section
namespace Go.Proofs.Ytidbjmkfmfojdaa
open Go.RowKit Go Go.Sort
set_option linter.unusedVariables false
set_option maxRecDepth 20000

theorem index_str (l : List UInt8) (k : Nat) (h : k < l.length) (W : World) : (Instr.index 9 (.string (text l)) (.int .i64 (k : Int))).run Try.prog W = .ok (.int .u8 (by8 l k)) W := by
  have hs : (text l).size = l.length := by show l.toArray.size = _; simp
  rw [run_index_string W 9 (text l) .i64 k Try.underlying9, dif_pos ⟨by omega, by rw [hs]; omega⟩]
  have e : ((k : Int)).toNat = k := by omega
  simp only [e]
  have hg : (text l)[k]'(by rw [hs]; exact h) = l[k] := rfl
  rw [hg, by8, List.getD_eq_getElem?_getD, List.getElem?_eq_getElem h]
  rfl
theorem text_list (l : List UInt8) : (text l).toList = l := by unfold text; simp
theorem text_len (l : List UInt8) : (text l).size = l.length := by show l.toArray.size = _; simp
theorem text_same (l m : List UInt8) : ((text l).toList == (text m).toList) = decide (l = m) := by
  rw [text_list, text_list, Bool.eq_iff_iff]; simp

def lowB (c : UInt8) : Bool := decide (97 ≤ c.toNat ∧ c.toNat ≤ 122)
theorem name_all (s : List UInt8) (k : Nat) (h : k < s.length) (hall : (s.take k).all lowB = true) :
    (97 ≤ by8 s k ∧ by8 s k ≤ 122 ∧ (s.take (k + 1)).all lowB = true) ∨ ((by8 s k < 97 ∨ 122 < by8 s k) ∧ s.all lowB = false) := by
  have hb : by8 s k = ((s[k]).toNat : Int) := by unfold by8; rw [List.getD_eq_getElem?_getD, List.getElem?_eq_getElem h]; rfl
  by_cases hd : 97 ≤ (s[k]).toNat ∧ (s[k]).toNat ≤ 122
  · left
    refine ⟨by omega, by omega, ?_⟩
    rw [List.take_succ_eq_append_getElem h, List.all_append, hall]
    simp [lowB, hd]
  · right
    refine ⟨by omega, ?_⟩
    rw [Bool.eq_false_iff]
    intro ha
    rw [List.all_eq_true] at ha
    have := ha s[k] (List.getElem_mem h)
    simp [lowB] at this
    omega
theorem nameS_low (s : List UInt8) : nameS s = (s.all lowB && decide (1 ≤ s.length ∧ s.length ≤ 12)) := rfl

attribute [-go_sem] run_index_string
set_option maxHeartbeats 1600000 in
theorem rname_c (s : List UInt8) (hmax : s.length ≤ 9223372036854775807) (w : World) : Calls Try.prog 87 #[.string (text s)] w (fun e w' => e = .returned (.bool (nameS s)) ∧ w' = w) := by
  have hsz : ((text s).size : Int) = s.length := by rw [text_len]
  have HX := Lib.hid (fun k h => index_str s k h)
  have HN := Lib.hid (nameS_low s)
  obtain ⟨S, hS⟩ : ∃ S, text s = S := ⟨_, rfl⟩
  rw [hS] at hsz HX ⊢
  obtain ⟨L, hL⟩ : ∃ L, s.length = L := ⟨_, rfl⟩
  have HL := Lib.hid hL
  rw [hL] at hsz HN
  have hL2 : (L : Int) ≤ 9223372036854775807 := by omega
  clear hS hmax hL
  go_enter Try.func87, Try.ntmps87
  go_wp2
  go_loopw [3] (fun i wr => wr = w ∧ ∃ k : Nat, k ≤ L ∧ i = .int .i64 k ∧ (s.take k).all lowB = true) (fun i _ => L - (intOf i).toNat)
  case atStart => exact ⟨rfl, 0, by omega, rfl, rfl⟩
  case round =>
    obtain ⟨rfl, k, hk, rfl, hall⟩ := hrel
    by_cases hlt : k < L
    · have hki : (k : Int) < (L : Int) := by omega
      have hx := HX.out k (by rw [HL.out]; exact hlt)
      have hd := name_all s k (by rw [HL.out]; exact hlt) hall
      obtain ⟨c, hc⟩ : ∃ c, by8 s k = c := ⟨_, rfl⟩
      rw [hc] at hx hd
      rcases hd with ⟨h1, h2, h3⟩ | ⟨h1, h3⟩
      · have H3 := Lib.hid h3
        clear h3 hc hall
        go_wp2
        go_roundw
        case rel => exact ⟨trivial, k + 1, by omega, rfl, H3.out⟩
        case measure => simp [intOf]; omega
      · have H3 := Lib.hid h3
        clear h3 hc hall
        rcases h1 with h1 | h1
        · go_wp2
          go_ret
          exact ⟨by rw [HN.out, H3.out]; rfl, rfl⟩
        · have h1b : ¬ c < 97 := by omega
          go_wp2
          go_ret
          exact ⟨by rw [HN.out, H3.out]; rfl, rfl⟩
    · obtain rfl : k = L := by omega
      have ha : s.all lowB = true := by rw [List.take_of_length_le (by rw [HL.out]; omega)] at hall; exact hall
      have HA := Lib.hid ha
      clear ha hall
      by_cases hl1 : 1 ≤ k
      · have hi1 : (1 : Int) ≤ (k : Int) := by omega
        by_cases hl2 : k ≤ 12
        · have hi2 : (k : Int) ≤ 12 := by omega
          go_wp2
          go_ret
          exact ⟨by rw [HN.out, HA.out]; simp; omega, rfl⟩
        · have hi2 : ¬ (k : Int) ≤ 12 := by omega
          go_wp2
          go_ret
          exact ⟨by rw [HN.out, HA.out]; simp; omega, rfl⟩
      · have hi1 : ¬ (1 : Int) ≤ (k : Int) := by omega
        go_wp2
        go_ret
        exact ⟨by rw [HN.out, HA.out]; simp; omega, rfl⟩
end Go.Proofs.Ytidbjmkfmfojdaa
end

section
namespace Go.Proofs.Ytidbjmkfmfojdaa
open Go.RowKit Go Go.Sort
set_option linter.unusedVariables false
set_option maxRecDepth 20000

theorem good_step (l : List Grp) (k : Nat) (h : k < l.length) (s : List UInt8) (p : Int) (hg : l.getD k ([], 0) = (s, p)) :
    goodFrom (l.take k) (l.drop k) = if ¬ (nameS s = true ∧ (p = 1 ∨ p = 2)) then 2 else if (l.take k).any (fun h => h.1 == s) then 70 else goodFrom (l.take (k + 1)) (l.drop (k + 1)) := by
  have e : l[k] = (s, p) := by rw [← hg, List.getD_eq_getElem?_getD, List.getElem?_eq_getElem h]; rfl
  rw [List.drop_eq_getElem_cons h, e, List.take_succ_eq_append_getElem h, e]
  rfl
theorem any_step (l : List Grp) (j : Nat) (h : j < l.length) (s : List UInt8) : (l.take (j + 1)).any (fun h => h.1 == s) = ((l.take j).any (fun h => h.1 == s) || ((l.getD j ([], 0)).1 == s)) := by
  rw [List.take_succ_eq_append_getElem h, List.any_append, List.getD_eq_getElem?_getD, List.getElem?_eq_getElem h]
  simp
theorem any_take (l : List Grp) (j k : Nat) (h : j < k) (hl : k ≤ l.length) (s : List UInt8) (he : (l.getD j ([], 0)).1 = s) : (l.take k).any (fun h => h.1 == s) = true := by
  have hj : j < l.length := by omega
  rw [List.any_eq_true]
  refine ⟨l[j], ?_,?_⟩
  · rw [List.mem_take_iff_getElem]
    exact ⟨j, by omega, rfl⟩
  · rw [← he, List.getD_eq_getElem?_getD, List.getElem?_eq_getElem hj]; simp

set_option maxHeartbeats 3200000 in
theorem rpgood_c {w : World} {a : Option Addr} {n cap : Nat} {l : List Grp} (hl : Grs w a n cap l) (hs : ∀ g ∈ l, g.1.length ≤ 9223372036854775807) :
    Calls Try.prog 62 #[.slice a n cap] w (Tells (.int .i64 (pgoodS l)) w) := by
  have hln := hl.len
  have hle := hl.le
  have hmx := hl.max
  have HL := Lib.hid hl
  have HV := Lib.hid (show pgoodS l = if l.length = 0 then 2 else if 4 < l.length then 3 else goodFrom [] l from rfl)
  rw [hln] at HV
  clear hl
  by_cases h0 : n = 0
  · have hv : pgoodS l = 2 := by rw [HV.out, if_pos h0]
    rw [hv]
    subst h0
    clear hv HV
    go_enter Try.func62, Try.ntmps62
    go_wp2
    go_ret
    exact ⟨rfl, Below.refl _ _⟩
  · have e0 : ((n : Int) == 0) = false := by rw [beq_eq_false_iff_ne]; omega
    by_cases h4 : 4 < n
    · have hv : pgoodS l = 3 := by rw [HV.out, if_neg h0, if_pos h4]
      rw [hv]
      have h4i : (4 : Int) < (n : Int) := by omega
      clear hv HV h0
      go_enter Try.func62, Try.ntmps62
      go_wp2
      go_ret
      exact ⟨rfl, Below.refl _ _⟩
    · have h4i : ¬ (4 : Int) < (n : Int) := by omega
      have hv : pgoodS l = goodFrom (l.take 0) (l.drop 0) := by rw [HV.out, if_neg h0, if_neg h4]; rfl
      have HV2 := Lib.hid hv
      clear hv HV h0
      go_enter Try.func62, Try.ntmps62
      go_wp2
      go_loopw [3] (fun i wr => ∃ k : Nat, k ≤ n ∧ i = .int .i64 k ∧ pgoodS l = goodFrom (l.take k) (l.drop k) ∧ Below w.heap.size w wr) (fun i _ => n - (intOf i).toNat)
      case atStart => exact ⟨0, by omega, rfl, HV2.out, Below.refl _ _⟩
      case round =>
        clear HV2
        obtain ⟨k, hk, rfl, hv, hB⟩ := hrel
        by_cases hlt : k < n
        · have hki : (k : Int) < (n : Int) := by omega
          have hki2 : (k : Int) < (cap : Int) := by omega
          obtain ⟨b, off, rfl, hat⟩ := HL.out.at hlt
          obtain ⟨⟨s, p⟩, hg⟩ : ∃ g, l.getD k ([], 0) = g := ⟨_, rfl⟩
          have hstep := good_step l k (by omega) s p hg
          rw [hg] at hat
          have hsl : s.length ≤ 9223372036854775807 := by
            have : (s, p) ∈ l := by rw [← hg, List.getD_eq_getElem?_getD, List.getElem?_eq_getElem (by omega)]; exact List.getElem_mem _
            exact hs _ this
          have hN := rname_c s hsl
          obtain ⟨c0, c1⟩ := hat wr hB
          simp only at c0 c1
          have HAT := Lib.hid hat
          have HST := Lib.hid hstep
          have HV3 := Lib.hid hv
          have HB := Lib.hid hB
          clear hat hstep hv hB hsl
          cases hn : nameS s with
          | false =>
            rw [hn] at hN
            have HN := Lib.hid hN
            have hr : pgoodS l = 2 := by rw [HV3.out, HST.out, if_pos (by simp [hn])]
            have HR := Lib.hid hr
            clear hr hN hn
            go_wp2_with (go_at_call 87; (with_reducible refine (HN.out _).mono ?_); rintro e w1 ⟨rfl, rfl⟩)
            go_ret
            exact ⟨by rw [HR.out]; rfl, HB.out⟩
          | true =>
            rw [hn] at hN
            have HN := Lib.hid hN
            by_cases hp : p = 1 ∨ p = 2
            · have hstep2 : pgoodS l = if (l.take k).any (fun h => h.1 == s) then 70 else goodFrom (l.take (k + 1)) (l.drop (k + 1)) := by rw [HV3.out, HST.out, if_neg (by simp [hn, hp])]
              have HR := Lib.hid hstep2
              clear hstep2 hN hn HV3 HST
              rcases hp with rfl | rfl
              all_goals
                go_upto_region 11 with (go_at_call 87; (with_reducible refine (HN.out _).mono ?_); rintro e w1 ⟨rfl, rfl⟩)
                clear c0 c1
                go_loopw [4] (fun j wr2 => ∃ m : Nat, m ≤ k ∧ j = .int .i64 m ∧ (l.take m).any (fun h => h.1 == s) = false ∧ Below w.heap.size w wr2) (fun j _ => k - (intOf j).toNat)
                case atStart => exact ⟨0, by omega, rfl, rfl, HB.out⟩
                case round =>
                  obtain ⟨m, hm, rfl, ha, hB2⟩ := hrel
                  by_cases hmk : m < k
                  · have hmi : (m : Int) < (k : Int) := by omega
                    have hmi2 : (m : Int) < (cap : Int) := by omega
                    obtain ⟨b', off', hbo, hat2⟩ := HL.out.at (show m < n by omega)
                    obtain ⟨rfl, rfl⟩ : b = b' ∧ off = off' := by simpa using hbo
                    obtain ⟨⟨s', p'⟩, hg2⟩ : ∃ g, l.getD m ([], 0) = g := ⟨_, rfl⟩
                    rw [hg2] at hat2
                    obtain ⟨d0, d1⟩ := hat2 wr hB2
                    obtain ⟨c0, c1⟩ := HAT.out wr hB2
                    simp only at c0 c1 d0 d1
                    have hcmp := text_same s' s
                    have hst := any_step l m (by omega) s
                    rw [hg2, ha] at hst
                    have HB2 := Lib.hid hB2
                    by_cases he : s' = s
                    · have hr : (l.take k).any (fun h => h.1 == s) = true := any_take l m k hmk (by omega) s (by rw [hg2]; exact he)
                      have HR3 := Lib.hid (show pgoodS l = 70 by rw [HR.out, if_pos hr])
                      rw [decide_eq_true he] at hcmp
                      clear hat2 hr hst ha hB2 hg hg2 he hbo
                      go_wp2
                      go_quiet (fail)
                      go_wp2
                      go_ret
                      exact ⟨by rw [HR3.out]; rfl, HB2.out.trans (drewN_below (Below.refl _ _) _)⟩
                    · have hst2 : (l.take (m + 1)).any (fun h => h.1 == s) = false := by rw [hst]; simpa using he
                      have HS2 := Lib.hid hst2
                      rw [decide_eq_false he] at hcmp
                      clear hat2 hst hst2 ha hB2 hg hg2 he hbo
                      go_wp2
                      go_quiet (fail)
                      go_wp2
                      go_roundw
                      case rel => exact ⟨m + 1, by omega, rfl, HS2.out, HB2.out.trans (drewN_below (Below.refl _ _) _)⟩
                      case measure => simp [intOf]; omega
                  · obtain rfl : m = k := by omega
                    have hr : pgoodS l = goodFrom (l.take (m + 1)) (l.drop (m + 1)) := by rw [HR.out, if_neg (by rw [ha]; simp)]
                    have HR3 := Lib.hid hr
                    have HB2 := Lib.hid hB2
                    clear hr ha hB2 hg
                    go_wp2
                    go_roundw
                    case rel => exact ⟨m + 1, by omega, rfl, HR3.out, HB2.out⟩
                    case measure => simp [intOf]; omega
            · have hr : pgoodS l = 2 := by rw [HV3.out, HST.out, if_pos (by simp [hp])]
              have HR := Lib.hid hr
              have e1 : (p != 1) = true := by simp; omega
              have e2 : (p != 2) = true := by simp; omega
              clear hr hN hn hp
              go_wp2_with (go_at_call 87; (with_reducible refine (HN.out _).mono ?_); rintro e w1 ⟨rfl, rfl⟩)
              go_ret
              exact ⟨by rw [HR.out]; rfl, HB.out⟩
        · obtain rfl : k = n := by omega
          have hr : pgoodS l = 0 := by rw [hv, List.drop_of_length_le (by omega)]; rfl
          have HR := Lib.hid hr
          have HB := Lib.hid hB
          clear hr hv hB
          go_wp2
          go_ret
          exact ⟨by rw [HR.out]; rfl, HB.out⟩
end Go.Proofs.Ytidbjmkfmfojdaa
end

section
namespace Go.Proofs.Ytidbjmkfmfojdaa
open Go.RowKit Go Go.Sort
set_option linter.unusedVariables false
set_option maxRecDepth 20000

def lowI (r : Int) : Bool := decide (97 ≤ r ∧ r ≤ 122)
theorem lowI_yes {r : Int} (h1 : 97 ≤ r) (h2 : r ≤ 122) : lowI r = true := decide_eq_true ⟨h1, h2⟩
theorem lowI_no {r : Int} (h : ¬ (97 ≤ r ∧ r ≤ 122)) : lowI r = false := decide_eq_false h
theorem isletter_c (r : Int) (w : World) : Calls Try.prog 106 #[.int .i32 r] w (fun e w' => e = .returned (.bool (lowI r)) ∧ w' = w) := by
  by_cases h1 : 97 ≤ r
  · by_cases h2 : r ≤ 122
    · have HR := Lib.hid (lowI_yes h1 h2)
      go_enter Try.func106, Try.ntmps106
      go_wp2
      go_ret
      exact ⟨by rw [HR.out]; rfl, rfl⟩
    · have HR := Lib.hid (lowI_no (r := r) (fun h => h2 h.2))
      go_enter Try.func106, Try.ntmps106
      go_wp2
      go_ret
      exact ⟨by rw [HR.out]; rfl, rfl⟩
  · have HR := Lib.hid (lowI_no (r := r) (fun h => h1 h.1))
    go_enter Try.func106, Try.ntmps106
    go_wp2
    go_ret
    exact ⟨by rw [HR.out]; rfl, rfl⟩
theorem text_get (s : List UInt8) (k : Nat) (h : k < s.length) (h2 : k < (text s).size) : (((text s)[k]'h2).toNat : Int) = by8 s k := by
  unfold by8
  rw [List.getD_eq_getElem?_getD, List.getElem?_eq_getElem h]
  rfl
/-- What an iterator over a text tells next: a sign below 128, or a rune that is none. -/
theorem next_sign (s : List UInt8) (pos : Nat) (h : pos < s.length) : (by8 s pos < 128 ∧ ∀ (W : World) (b : Nat), W.heap[b]? = some (.stringIter (text s) pos) → ∀ ty, (Instr.next (.pointer (some ⟨b, 0, none⟩)) true ty).run Try.prog W = .ok (.tuple #[.bool true, .int .i64 pos, .int .i32 (by8 s pos)]) (W.iterAt b (text s) (pos + 1))) ∨
    (128 ≤ by8 s pos ∧ ∃ r : Int, 128 ≤ r ∧ ∃ k : Nat, ∀ (W : World) (b : Nat), W.heap[b]? = some (.stringIter (text s) pos) → ∀ ty, (Instr.next (.pointer (some ⟨b, 0, none⟩)) true ty).run Try.prog W = .ok (.tuple #[.bool true, .int .i64 pos, .int .i32 r]) (W.iterAt b (text s) (pos + k))) := by
  have h2 : pos < (text s).size := by rw [text_len]; exact h
  have hg := text_get s pos h h2
  by_cases ha : ((text s)[pos]'h2).toNat < 128
  · left
    refine ⟨by omega, fun W b hb ty => ?_⟩
    rw [Lib.run_next_ascii_at W b (text s) pos ty hb h2 ha, hg]
  · right
    have hd := decode_high (text s) pos h2 (by omega)
    refine ⟨by omega, ((Utf8.decode (text s) pos).1 : Int), by omega, (Utf8.decode (text s) pos).2, fun W b hb ty => ?_⟩
    exact Lib.run_next_any_at W b (text s) pos ty hb h2
theorem next_end (s : List UInt8) (pos : Nat) (h : ¬ pos < s.length) (W : World) (b : Nat) (hb : W.heap[b]? = some (.stringIter (text s) pos)) : ∀ ty, (Instr.next (.pointer (some ⟨b, 0, none⟩)) true ty).run Try.prog W = .ok (.tuple #[.bool false]) W :=
  fun ty => Lib.run_next_end_at W b (text s) pos ty hb (by rw [text_len]; exact h)
set_option maxHeartbeats 1600000 in
theorem isname_c (s : List UInt8) (hmax : s.length ≤ 9223372036854775807) (w : World) : Calls Try.prog 83 #[.string (text s)] w (Tells (.bool (nameS s)) w) := by
  have hsz : ((text s).size : Int) = s.length := by rw [text_len]
  have HX := Lib.hid (fun k h => next_sign s k h)
  have HE := Lib.hid (fun k h => next_end s k h)
  have HN := Lib.hid (nameS_low s)
  have HA := Lib.hid (fun k h ha => name_all s k h ha)
  have hit0 := World.iter_heap w (text s) 0
  have hb0 : Below w.heap.size w (w.iter (text s) 0) := (Below.refl _ w).alloc (Nat.le_refl _) _
  obtain ⟨S, hS⟩ : ∃ S, text s = S := ⟨_, rfl⟩
  rw [hS] at hsz HX HE hit0 hb0 ⊢
  obtain ⟨L, hL⟩ : ∃ L, s.length = L := ⟨_, rfl⟩
  have HL := Lib.hid hL
  rw [hL] at hsz HN
  have hL2 : (L : Int) ≤ 9223372036854775807 := by omega
  have HI := Lib.hid hit0
  have HB := Lib.hid hb0
  clear hS hmax hL hit0 hb0
  by_cases hl1 : L < 1
  · have hi1 : (L : Int) < 1 := by omega
    go_enter Try.func83, Try.ntmps83
    go_wp2
    go_ret
    exact ⟨by rw [HN.out]; simp; omega, Below.refl _ _⟩
  · have hi1 : ¬ (L : Int) < 1 := by omega
    by_cases hl2 : 12 < L
    · have hi2 : (12 : Int) < (L : Int) := by omega
      go_enter Try.func83, Try.ntmps83
      go_wp2
      go_ret
      exact ⟨by rw [HN.out]; simp; omega, Below.refl _ _⟩
    · have hi2 : ¬ (12 : Int) < (L : Int) := by omega
      have HD := Lib.hid (decide_eq_true (show 1 ≤ L ∧ L ≤ 12 by omega))
      rw [HD.out, Bool.and_true] at HN
      clear HD hl1 hl2
      go_enter Try.func83, Try.ntmps83
      go_wp2
      go_loopg [] L (fun gf wr => ∃ pos : Nat, pos + gf = L ∧ wr.heap[w.heap.size]? = some (.stringIter S pos) ∧ (s.take pos).all lowB = true ∧ Below w.heap.size w wr)
      case atStart => exact ⟨0, by omega, HI.out, rfl, HB.out⟩
      case round =>
        obtain ⟨pos, hpg, hit, hall, hbw⟩ := hrel
        clear HI HB
        by_cases hlt : pos < L
        · obtain ⟨g', rfl⟩ : ∃ g', gk = g' + 1 := ⟨gk - 1, by omega⟩
          have hx := HX.out pos (by rw [HL.out]; exact hlt)
          have ha := HA.out pos (by rw [HL.out]; exact hlt) hall
          obtain ⟨c, hc⟩ : ∃ c, by8 s pos = c := ⟨_, rfl⟩
          rw [hc] at hx ha
          rcases hx with ⟨h1, h2⟩ | ⟨h1, r, hr, k, h2⟩
          · have hnx := h2 wr w.heap.size hit
            have hit2 := Lib.iterAt_heap wr w.heap.size S pos (pos + 1) hit
            have hbw2 := Lib.below_iterAt hbw (k := w.heap.size) (Nat.le_refl _) S (pos + 1)
            have HT2 := Lib.hid hit2
            have HB2 := Lib.hid hbw2
            have cL := isletter_c c
            rcases ha with ⟨h3, h4, h5⟩ | ⟨h3, h5⟩
            · rw [lowI_yes h3 h4] at cL
              have H5 := Lib.hid h5
              have HCL := Lib.hid cL
              clear h2 h5 hit2 hbw2 cL hall hc hit hbw hlt
              go_wp2_with (go_at_call 106; (with_reducible refine (HCL.out _).mono ?_); rintro e w1 ⟨rfl, rfl⟩)
              go_roundg g'
              case measure => omega
              case rel => exact ⟨pos + 1, by omega, HT2.out, H5.out, HB2.out⟩
            · rw [lowI_no (r := c) (by omega)] at cL
              have H5 := Lib.hid h5
              have HCL := Lib.hid cL
              clear h2 h5 hit2 hbw2 cL hall hc hit hbw hlt
              go_wp2_with (go_at_call 106; (with_reducible refine (HCL.out _).mono ?_); rintro e w1 ⟨rfl, rfl⟩)
              go_ret
              exact ⟨by rw [HN.out, H5.out]; rfl, HB2.out⟩
          · have hnx := h2 wr w.heap.size hit
            have hbw2 := Lib.below_iterAt hbw (k := w.heap.size) (Nat.le_refl _) S (pos + k)
            have HB2 := Lib.hid hbw2
            have cL := isletter_c r
            rw [lowI_no (r := r) (by omega)] at cL
            have H5 := Lib.hid (show s.all lowB = false by
              rcases ha with ⟨h3, h4, h5⟩ | ⟨h3, h5⟩
              · omega
              · exact h5)
            have HCL := Lib.hid cL
            clear h2 hbw2 cL hall hc hit hbw hlt ha h1
            go_wp2_with (go_at_call 106; (with_reducible refine (HCL.out _).mono ?_); rintro e w1 ⟨rfl, rfl⟩)
            go_ret
            exact ⟨by rw [HN.out, H5.out]; rfl, HB2.out⟩
        · have hnx := HE.out pos (by rw [HL.out]; exact hlt) wr w.heap.size hit
          have H5 := Lib.hid (show s.all lowB = true by rw [List.take_of_length_le (by rw [HL.out]; omega)] at hall; exact hall)
          have HB2 := Lib.hid hbw
          clear hall hit hbw hlt
          go_wp2
          go_ret
          exact ⟨by rw [HN.out, H5.out]; rfl, HB2.out⟩
/-- A policy's word; nothing for none. -/
def wordP (p : Int) : List UInt8 := if p = 1 then [108, 97, 115, 116] else if p = 2 then [100, 101, 108, 101, 116, 101] else []
theorem word_c (p : Int) (w : World) : Calls Try.prog 84 #[.int .i64 p] w (fun e w' => e = .returned (.string (text (wordP p))) ∧ w' = w) := by
  by_cases h1 : p = 1
  · subst h1
    go_enter Try.func84, Try.ntmps84
    go_wp2
    go_ret
    exact ⟨rfl, rfl⟩
  · by_cases h2 : p = 2
    · subst h2
      go_enter Try.func84, Try.ntmps84
      go_wp2
      go_ret
      exact ⟨rfl, rfl⟩
    · have HR := Lib.hid (show wordP p = [] by unfold wordP; rw [if_neg h1, if_neg h2])
      have k1 : (p == 1) = false := by simpa using h1
      have k2 : (p == 2) = false := by simpa using h2
      clear h1 h2
      go_enter Try.func84, Try.ntmps84
      go_wp2
      go_ret
      exact ⟨by rw [HR.out]; rfl, rfl⟩
theorem name_len {s : List UInt8} (h : nameS s = true) : 1 ≤ s.length ∧ s.length ≤ 12 := by
  rw [nameS_low] at h; simp at h; omega
end Go.Proofs.Ytidbjmkfmfojdaa
end

section
namespace Go.Proofs.Ytidbjmkfmfojdaa
open Go.RowKit Go Go.Sort Go.Maps Go.WideMaps
set_option linter.unusedVariables false
set_option maxRecDepth 20000

/-- A group that lies at a block's head. -/
def GrpAt (W : World) (g : Nat) (s : List UInt8) (p : Int) : Prop := W.heap[g]? = some (.cells #[.string (text s), .int .i64 p] 133 (0, 0))
theorem GrpAt.lt {W : World} {g : Nat} {s : List UInt8} {p : Int} (h : GrpAt W g s p) : g < W.heap.size := (Array.getElem?_eq_some_iff.1 h).1
theorem GrpAt.kept {W W' : World} {g : Nat} {s : List UInt8} {p : Int} (h : GrpAt W g s p) (hb : Below W.heap.size W W') : GrpAt W' g s p := (hb.block g h.lt).trans h
theorem GrpAt.c0 {W : World} {g : Nat} {s : List UInt8} {p : Int} (h : GrpAt W g s p) : W.cell? ⟨g, 0, none⟩ = some (.string (text s)) := by
  rw [cell_of_row W g 0 _ _ (0, 0) h]; rfl
theorem GrpAt.c1 {W : World} {g : Nat} {s : List UInt8} {p : Int} (h : GrpAt W g s p) : W.cell? ⟨g, 1, none⟩ = some (.int .i64 p) := by
  rw [cell_of_row W g 1 _ _ (0, 0) h]; rfl
theorem GrpAt.new (W : World) (s : List UInt8) (p : Int) : GrpAt (W.alloc (.cells #[.string (text s), .int .i64 p] 133)) W.heap.size s p := heap_alloc_new W _
theorem GrpAt.grown {W W' : World} {g B : Nat} {s : List UInt8} {p : Int} (h : GrpAt W g s p) (hg : W.grownBy W' (some B)) (hne : g ≠ B) : GrpAt W' g s p := (hg.block g h.lt (by simpa using hne)).trans h

theorem klaw : Keyed Try.prog 9 := string_keyed Try.underlying9
theorem zero3 (w : World) : (zeroValue 3).run Try.prog w = .ok (.int .i64 0) w := by kernel_rfl
theorem owns_below {w w' : World} {R : Value → Option (DataW Unit × List MemPlace)} {B k : Nat} {D : DataW Unit} (h : w.ownsMap Try.prog 9 R B k D) (hb : Below w.heap.size w w') : w'.ownsMap Try.prog 9 R B k D := by
  have hlt := h.lt
  obtain ⟨es, clock, h1, rest⟩ := h
  exact ⟨es, clock, (hb.block B hlt).trans h1, rest⟩
theorem keylit (s : List UInt8) : WideAt.IsKeyLit (.string s) := by simp [WideAt.IsKeyLit]
theorem key_text (s : List UInt8) (h : s.length ≤ 12) : keyOf Try.prog 9 (.string (text s)) = some (.string s) := by
  have := keyOf_string_mk (P := Try.prog) (s := text s) Try.underlying9 (by rw [text_len]; unfold maxLen; omega)
  rw [this]
  congr 2

/-- What a map tells of the names that were met. -/
def Counts (l : List Grp) (k : Nat) (D : DataW Unit) : Prop := IsMap D ∧ ∀ q : List UInt8, D.atKey (.string q) (.lit (.int .i64 0)) = .lit (.int .i64 (if (l.take k).any (fun h => h.1 == q) = true then 1 else 0))
theorem counts_none (l : List Grp) : Counts l 0 (.map []) := ⟨isMap_empty, fun q => rfl⟩
theorem counts_step {l : List Grp} {k : Nat} {D : DataW Unit} (h : Counts l k D) (hk : k < l.length) {s : List UInt8} {p : Int} (hg : l.getD k ([], 0) = (s, p)) (ha : (l.take k).any (fun h => h.1 == s) = false) : Counts l (k + 1) (D.put (.string s) (.lit (.int .i64 1))) := by
  refine ⟨h.1.put _ _, fun q => ?_⟩
  have hst := any_step l k hk q
  rw [hg] at hst
  by_cases e : q = s
  · subst e
    rw [atKey_put_same h.1 (keylit _), hst]
    simp
  · rw [atKey_put_other (by simpa using e), h.2 q, hst]
    have : (s == q) = false := by simpa using fun x => e x.symm
    rw [this, Bool.or_false]

set_option maxHeartbeats 3200000 in
theorem pgood_c {w : World} {a : Option Addr} {n cap : Nat} {l : List Grp} (hl : Grs w a n cap l) (hs : ∀ g ∈ l, g.1.length ≤ 9223372036854775807) :
    Calls Try.prog 59 #[.slice a n cap] w (Tells (.int .i64 (pgoodS l)) w) := by
  have hln := hl.len
  have hle := hl.le
  have hmx := hl.max
  have HL := Lib.hid hl
  have HV := Lib.hid (show pgoodS l = if l.length = 0 then 2 else if 4 < l.length then 3 else goodFrom [] l from rfl)
  rw [hln] at HV
  clear hl
  have hmm := @run_makeMap Try.prog
  by_cases h0 : n = 0
  · have hv : pgoodS l = 2 := by rw [HV.out, if_pos h0]
    rw [hv]
    subst h0
    clear hv HV
    go_enter Try.func59, Try.ntmps59
    go_wp2
    go_ret
    exact ⟨rfl, Below.refl _ _⟩
  · have e0 : ((n : Int) == 0) = false := by rw [beq_eq_false_iff_ne]; omega
    by_cases h4 : 4 < n
    · have hv : pgoodS l = 3 := by rw [HV.out, if_neg h0, if_pos h4]
      rw [hv]
      have h4i : (4 : Int) < (n : Int) := by omega
      clear hv HV h0
      go_enter Try.func59, Try.ntmps59
      go_wp2
      go_ret
      exact ⟨rfl, Below.refl _ _⟩
    · have h4i : ¬ (4 : Int) < (n : Int) := by omega
      have hv : pgoodS l = goodFrom (l.take 0) (l.drop 0) := by rw [HV.out, if_neg h0, if_neg h4]; rfl
      have HV2 := Lib.hid hv
      clear hv HV h0
      go_enter Try.func59, Try.ntmps59
      go_upto_region 7 with (fail)
      go_loopw [17] (fun i wr => ∃ k : Nat, k ≤ n ∧ i = .int .i64 k ∧ pgoodS l = goodFrom (l.take k) (l.drop k) ∧ (∃ D, wr.ownsMap Try.prog 9 (plainElem Try.prog 3) w.heap.size k D ∧ Counts l k D) ∧ Below w.heap.size w wr) (fun i _ => n - (intOf i).toNat)
      case atStart => exact ⟨0, by omega, rfl, HV2.out, ⟨_, World.ownsMap_made _ _ _ _, counts_none l⟩, (Below.refl _ _).alloc (Nat.le_refl _) _⟩
      case round =>
        clear HV2 hmm
        obtain ⟨k, hk, rfl, hv, ⟨D, hown, hcn⟩, hB⟩ := hrel
        by_cases hlt : k < n
        · have hki : (k : Int) < (n : Int) := by omega
          have hki2 : (k : Int) < (cap : Int) := by omega
          obtain ⟨b, off, rfl, hat⟩ := HL.out.at hlt
          obtain ⟨⟨s, p⟩, hg⟩ : ∃ g, l.getD k ([], 0) = g := ⟨_, rfl⟩
          have hstep := good_step l k (by omega) s p hg
          have hkl : k < l.length := by omega
          have HG := Lib.hid hg
          rw [hg] at hat
          have hsl : s.length ≤ 9223372036854775807 := by
            have : (s, p) ∈ l := by rw [← hg, List.getD_eq_getElem?_getD, List.getElem?_eq_getElem (by omega)]; exact List.getElem_mem _
            exact hs _ this
          have hN := isname_c s hsl
          have HW := Lib.hid (word_c p)
          obtain ⟨c0, c1⟩ := hat wr hB
          simp only at c0 c1
          have HST := Lib.hid hstep
          have HV3 := Lib.hid hv
          have HKL := Lib.hid hkl
          have HCN := Lib.hid hcn
          have hgn := GrpAt.new wr s p
          have hB1 := hB.alloc hB.size (.cells #[.string (text s), .int .i64 p] 133)
          have hown1 := hown.alloc (.cells #[.string (text s), .int .i64 p] 133)
          have hne : wr.heap.size ≠ w.heap.size := by have := hown.lt; omega
          have HNE := Lib.hid hne
          clear hat hstep hv hkl hg hcn hown hne
          go_upto_region 9 with (fail)
          clear c0 c1 hB
          obtain ⟨gb, hgb⟩ : ∃ q, wr.heap.size = q := ⟨_, rfl⟩
          rw [hgb] at hgn HNE ⊢
          generalize wr.alloc (.cells #[.string (text s), .int .i64 p] 133) = W1 at *
          have c0 := hgn.c0
          have c1 := hgn.c1
          have HGN := Lib.hid hgn
          have HB1 := Lib.hid hB1
          have HO1 := Lib.hid hown1
          clear hgn hB1 hown1 hgb hsl
          cases hn : nameS s with
          | false =>
            rw [hn] at hN
            have HN := Lib.hid hN
            have HR := Lib.hid (show pgoodS l = 2 by rw [HV3.out, HST.out, if_pos (by simp [hn])])
            clear hN hn
            go_wp2_with (go_at_call 83; (with_reducible refine (HN.out _).mono ?_); rintro e w1 ⟨rfl, hb1⟩)
            go_ret
            exact ⟨by rw [HR.out]; rfl, HB1.out.trans (hb1.mono HB1.out.size)⟩
          | true =>
            have hkey := key_text s (name_len hn).2
            rw [hn] at hN
            have HN := Lib.hid hN
            by_cases hp : p = 1 ∨ p = 2
            · have HR := Lib.hid (show pgoodS l = if (l.take k).any (fun h => h.1 == s) then 70 else goodFrom (l.take (k + 1)) (l.drop (k + 1)) by rw [HV3.out, HST.out, if_neg (by simp [hn, hp])])
              have hat0 := HCN.out.2 s
              have HAT := Lib.hid hat0
              have HKEY := Lib.hid hkey
              clear hN hn HV3 HST hat0 hkey
              have hwe : (text (wordP p)).toList.isEmpty = false := by rcases hp with rfl | rfl <;> (rw [text_list]; rfl)
              obtain ⟨wt, hwt⟩ : ∃ q, text (wordP p) = q := ⟨_, rfl⟩
              rw [hwt] at HW hwe
              clear hwt
              rcases hp with rfl | rfl
              all_goals
                go_upto_region 11 with (first
                  | (go_at_call 83; (with_reducible refine (HN.out _).mono ?_); rintro e w1 ⟨rfl, hb1⟩; have c1 := (HGN.out.kept hb1).c1)
                  | (go_at_call 84; (with_reducible refine (HW.out _).mono ?_); rintro e w2 ⟨rfl, rfl⟩))
                have hg1 := HGN.out.kept hb1
                have hB2 := HB1.out.trans (hb1.mono HB1.out.size)
                have hown2 := owns_below HO1.out hb1
                have c0 := hg1.c0
                obtain ⟨c, hrun, hat, hwc⟩ := hown2.lookup_int klaw Try.underlying137 Try.underlying3 (zero3 _) HKEY.out
                rw [HAT.out] at hat
                cases ha : (l.take k).any (fun h => h.1 == s) with
                | true =>
                  rw [ha, if_pos rfl] at hat
                  obtain rfl : 1 = c := by simpa using hat
                  rw [ha, if_pos rfl] at HR
                  have HG1 := Lib.hid hg1
                  have HB2 := Lib.hid hB2
                  have HOW2 := Lib.hid hown2
                  clear hat hwc ha hg1 hB2 hown2 hb1
                  go_upto_region 12 with (first
                    | (at_mapUpdate; refine wpList_mapUpdate_own _ rfl _ _ _ 137 rfl 9 3 klaw Try.underlying137 _ w.heap.size k _ rfl HOW2.out (by unfold maxLen; omega) _ _ _ rfl rfl HKEY.out (.lit (.int .i64 2)) [] (plainElem_int Try.underlying3 (by decide)) ?_; intro w3 hown3 hgrow3))
                  have hg3 := HG1.out.grown hgrow3 HNE.out
                  have d0 := hg3.c0
                  obtain ⟨c', hrun', hat', hwc'⟩ := hown3.lookup_int klaw Try.underlying137 Try.underlying3 (zero3 _) HKEY.out
                  rw [atKey_put_same HCN.out.1 (keylit _)] at hat'
                  obtain rfl : 2 = c' := by simpa using hat'
                  have HB3 := Lib.hid (HB2.out.grown hgrow3 HB2.out.size (fun j hj => by cases hj; exact Nat.le_refl _))
                  clear hat' hwc' hown3 hgrow3 hg3 hrun
                  go_wp2
                  go_ret
                  exact ⟨by rw [HR.out]; rfl, HB3.out⟩
                | false =>
                  rw [ha, if_neg (by simp)] at hat
                  obtain rfl : 0 = c := by simpa using hat
                  have HCN2 := Lib.hid (counts_step HCN.out HKL.out HG.out ha)
                  rw [ha, if_neg (by simp)] at HR
                  have HG1 := Lib.hid hg1
                  have HB2 := Lib.hid hB2
                  have HOW2 := Lib.hid hown2
                  clear hat hwc ha hg1 hB2 hown2 hb1
                  go_upto_region 12 with (first
                    | (at_mapUpdate; refine wpList_mapUpdate_own _ rfl _ _ _ 137 rfl 9 3 klaw Try.underlying137 _ w.heap.size k _ rfl HOW2.out (by unfold maxLen; omega) _ _ _ rfl rfl HKEY.out (.lit (.int .i64 1)) [] (plainElem_int Try.underlying3 (by decide)) ?_; intro w3 hown3 hgrow3))
                  have hg3 := HG1.out.grown hgrow3 HNE.out
                  have d0 := hg3.c0
                  obtain ⟨c', hrun', hat', hwc'⟩ := hown3.lookup_int klaw Try.underlying137 Try.underlying3 (zero3 _) HKEY.out
                  rw [atKey_put_same HCN.out.1 (keylit _)] at hat'
                  obtain rfl : 1 = c' := by simpa using hat'
                  have HB3 := Lib.hid (HB2.out.grown hgrow3 HB2.out.size (fun j hj => by cases hj; exact Nat.le_refl _))
                  have HO3 := Lib.hid hown3
                  clear hat' hwc' hown3 hgrow3 hg3 hrun
                  go_wp2
                  go_roundw
                  case rel => exact ⟨k + 1, by omega, rfl, HR.out, ⟨_, HO3.out, HCN2.out⟩, HB3.out⟩
                  case measure => simp [intOf]; omega
            · have HR := Lib.hid (show pgoodS l = 2 by rw [HV3.out, HST.out, if_pos (by simp [hp])])
              have hw0 : wordP p = [] := by unfold wordP; rw [if_neg (fun h => hp (.inl h)), if_neg (fun h => hp (.inr h))]
              have hwe : (text ([] : List UInt8)).toList.isEmpty = true := by rw [text_list]; rfl
              rw [hw0] at HW
              obtain ⟨wt, hwt⟩ : ∃ q, text ([] : List UInt8) = q := ⟨_, rfl⟩
              rw [hwt] at HW hwe
              clear hN hn hp hkey hw0 hwt
              go_wp2_with (first
                | (go_at_call 83; (with_reducible refine (HN.out _).mono ?_); rintro e w1 ⟨rfl, hb1⟩; have c1 := (HGN.out.kept hb1).c1)
                | (go_at_call 84; (with_reducible refine (HW.out _).mono ?_); rintro e w2 ⟨rfl, rfl⟩))
              go_ret
              exact ⟨by rw [HR.out]; rfl, HB1.out.trans (hb1.mono HB1.out.size)⟩
        · obtain rfl : k = n := by omega
          have HR := Lib.hid (show pgoodS l = 0 by rw [hv, List.drop_of_length_le (by omega)]; rfl)
          have HB := Lib.hid hB
          clear hv hB hown hcn
          go_wp2
          go_ret
          exact ⟨by rw [HR.out]; rfl, HB.out⟩
end Go.Proofs.Ytidbjmkfmfojdaa
end

section
namespace Go.Proofs.Ytidbjmkfmfojdaa
open Go.RowKit
set_option linter.unusedVariables false

theorem i64_of_wf {n : Int} (h : (Lit.int .i64 n).wf = true) : -9223372036854775808 ≤ n ∧ n ≤ 9223372036854775807 := by
  simpa [Lit.wf, IntKind.min, IntKind.max, IntKind.signed, IntKind.bits] using h

end Go.Proofs.Ytidbjmkfmfojdaa
end

section
namespace Go.Proofs.Ytidbjmkfmfojdaa
open Go.RowKit Go Go.Sort Go.Deep
set_option linter.unusedVariables false
set_option maxRecDepth 20000

def sless (n s m t : Int) : Bool := decide (n < m ∨ (n = m ∧ s < t))
set_option maxHeartbeats 1600000 in
theorem sless_c (n s m t : Int) (w : World) : Calls Try.prog 134 #[.agg #[.int .i64 n, .int .i64 s], .agg #[.int .i64 m, .int .i64 t]] w (Tells (.bool (sless n s m t)) w) := by
  have hp := (Pair.new w 71 n s).alloc (.cells #[.int .i64 m, .int .i64 t] 71)
  have hq := Pair.second w (.cells #[.int .i64 n, .int .i64 s] 71) 71 m t
  have hb := second_below w (.cells #[.int .i64 n, .int .i64 s] 71) (.cells #[.int .i64 m, .int .i64 t] 71)
  have h0 := hp.c0
  have h1 := hp.c1
  have h2 := hq.c0
  have h3 := hq.c1
  have HB := Lib.hid hb
  have HV := Lib.hid (show sless n s m t = decide (n < m ∨ (n = m ∧ s < t)) from rfl)
  clear hp hq hb
  by_cases e : n = m
  · subst e
    by_cases l : s < t
    · have hv : sless n s n t = true := by rw [HV.out]; simp; omega
      rw [hv]
      clear hv
      go_enter Try.func134, Try.ntmps134
      go_wp2
      go_ret
      exact ⟨rfl, HB.out⟩
    · have hv : sless n s n t = false := by rw [HV.out]; simp; omega
      rw [hv]
      clear hv
      go_enter Try.func134, Try.ntmps134
      go_wp2
      go_ret
      exact ⟨rfl, HB.out⟩
  · have ne : (n != m) = true := by simpa using e
    by_cases l : n < m
    · have hv : sless n s m t = true := by rw [HV.out]; simp; omega
      rw [hv]
      clear hv e
      go_enter Try.func134, Try.ntmps134
      go_wp2
      go_ret
      exact ⟨rfl, HB.out⟩
    · have hv : sless n s m t = false := by rw [HV.out]; simp; omega
      rw [hv]
      clear hv e
      go_enter Try.func134, Try.ntmps134
      go_wp2
      go_ret
      exact ⟨rfl, HB.out⟩
theorem cell_cells {H : Type} {enc : TypeId × Value → H} {W : World} {base : Nat} {sp held : Bool} {fuel : Nat} {cs : List Value} {x : DataW H × List MemPlace} (h : DataW.trod enc Try.prog W base (fun _ => sp) held fuel 75 cs = some x) :
    ∃ (n s a b : Int) (g : Bool) (t : List UInt8) (d e : Int), cs = [.int .i64 n, .int .i64 s, .int .i64 a, .int .i64 b, .bool g, .string (text t), .int .i64 d, .int .i64 e] ∧ IsI64 n ∧ IsI64 s ∧ IsI64 a ∧ IsI64 b ∧ t.length ≤ maxLen ∧ IsI64 d ∧ IsI64 e := by
  obtain ⟨xs, m, _, rfl, hl, hlen, hf⟩ := DataW.trod_struct Try.underlying75 h
  have h6 : Try.prog.cellsOf 75 = 8 := by kernel_rfl
  have hs : Try.prog.cellsOf 71 = 2 := by kernel_rfl
  have hv : Try.prog.cellsOf 73 = 2 := by kernel_rfl
  have h4 : Try.prog.cellsOf 4 = 1 := by kernel_rfl
  have h9 : Try.prog.cellsOf 9 = 1 := by kernel_rfl
  rw [h6] at hl
  match xs, hlen with
  | [y0, y1, y2, y3, y4], _ =>
    have i0 := hf 0 _ rfl
    have i1 := hf 1 _ rfl
    have i2 := hf 2 _ rfl
    have i3 := hf 3 _ rfl
    have i4 := hf 4 _ rfl
    match cs, hl with
    | [c0, c1, c2, c3, c4, c5, c6, c7], _ =>
      have j0 : DataW.trod enc Try.prog W base (fun _ => sp) held m 71 (([c0, c1, c2, c3, c4, c5, c6, c7].drop 0).take (Try.prog.cellsOf 71)) = some y0 := i0
      have j1 : DataW.trod enc Try.prog W base (fun _ => sp) held m 73 (([c0, c1, c2, c3, c4, c5, c6, c7].drop 2).take (Try.prog.cellsOf 73)) = some y1 := i1
      have j2 : DataW.trod enc Try.prog W base (fun _ => sp) held m 4 (([c0, c1, c2, c3, c4, c5, c6, c7].drop 4).take (Try.prog.cellsOf 4)) = some y2 := i2
      have j3 : DataW.trod enc Try.prog W base (fun _ => sp) held m 9 (([c0, c1, c2, c3, c4, c5, c6, c7].drop 5).take (Try.prog.cellsOf 9)) = some y3 := i3
      have j4 : DataW.trod enc Try.prog W base (fun _ => sp) held m 73 (([c0, c1, c2, c3, c4, c5, c6, c7].drop 6).take (Try.prog.cellsOf 73)) = some y4 := i4
      rw [hs] at j0
      rw [hv] at j1 j4
      rw [h4] at j2
      rw [h9] at j3
      obtain ⟨n, s, e0, wn, wsx⟩ := stamp_cells (sp := sp) j0
      obtain ⟨a, b, e1, wa, wb⟩ := vec_cells j1
      obtain ⟨g, e2, _⟩ := DataW.trod_bool Try.underlying4 j2
      obtain ⟨t, e3, _, wt⟩ := DataW.trod_string Try.underlying9 j3
      obtain ⟨d, e, e4, wd, we⟩ := vec_cells j4
      simp at e0 e1 e2 e3 e4
      obtain ⟨rfl, rfl⟩ := e0
      obtain ⟨rfl, rfl⟩ := e1
      subst e2
      subst e3
      obtain ⟨rfl, rfl⟩ := e4
      exact ⟨n, s, a, b, g, t.data.toList, d, e, rfl, wn, wsx, wa, wb, by simpa using wt, wd, we⟩
end Go.Proofs.Ytidbjmkfmfojdaa
end

section
namespace Go.Proofs.Ytidbjmkfmfojdaa
open Go.RowKit Go Go.Sort
set_option linter.unusedVariables false
set_option maxRecDepth 20000

/-- A comparison that is strict, and tells of any two which stands ahead. -/
structure Strict {α : Type} (r : α → α → Bool) : Prop where
  irr : ∀ a, r a a = false
  tr : ∀ a b c, r a b = true → r b c = true → r a c = true
  tot : ∀ a b, r a b = false → r b a = false → a = b
theorem Strict.asym {α : Type} {r : α → α → Bool} (h : Strict r) {a b : α} (hab : r a b = true) : r b a = false := by
  cases hb : r b a with
  | false => rfl
  | true =>
    have := h.tr _ _ _ hab hb
    rw [h.irr] at this
    cases this
def lexR {α β : Type} [DecidableEq α] (r : α → α → Bool) (s : β → β → Bool) (x y : α × β) : Bool := if x.1 = y.1 then s x.2 y.2 else r x.1 y.1
theorem Strict.lex {α β : Type} [DecidableEq α] {r : α → α → Bool} {s : β → β → Bool} (hr : Strict r) (hs : Strict s) : Strict (lexR r s) := by
  refine ⟨fun a => ?_, fun a b c h1 h2 => ?_, fun a b h1 h2 => ?_⟩
  · unfold lexR
    rw [if_pos rfl]
    exact hs.irr _
  · unfold lexR at h1 h2 ⊢
    by_cases e1 : a.1 = b.1
    · rw [if_pos e1] at h1
      by_cases e2 : b.1 = c.1
      · rw [if_pos e2] at h2
        rw [if_pos (e1.trans e2)]
        exact hs.tr _ _ _ h1 h2
      · rw [if_neg e2] at h2
        rw [if_neg (by rw [e1]; exact e2), e1]
        exact h2
    · rw [if_neg e1] at h1
      by_cases e2 : b.1 = c.1
      · rw [if_neg (by rw [← e2]; exact e1), ← e2]
        exact h1
      · rw [if_neg e2] at h2
        have h3 := hr.tr _ _ _ h1 h2
        rw [if_neg (fun e => by rw [e, hr.irr] at h3; cases h3)]
        exact h3
  · unfold lexR at h1 h2
    by_cases e1 : a.1 = b.1
    · rw [if_pos e1] at h1
      rw [if_pos e1.symm] at h2
      exact Prod.ext e1 (hs.tot _ _ h1 h2)
    · rw [if_neg e1] at h1
      rw [if_neg (fun e => e1 e.symm)] at h2
      exact absurd (hr.tot _ _ h1 h2) e1
def ltI (a b : Int) : Bool := decide (a < b)
theorem strictI : Strict ltI := ⟨fun a => by simp [ltI], fun a b c h1 h2 => by simp [ltI] at *; omega, fun a b h1 h2 => by simp [ltI] at *; omega⟩
def ltB (a b : Bool) : Bool := !a && b
theorem strictB : Strict ltB := ⟨by decide, by decide, by decide⟩
theorem strictT : Strict Op.bytesLess := by
  have hi : ∀ a, Op.bytesLess a a = false := by
    intro a
    induction a with
    | nil => rfl
    | cons x l ih => simp [Op.bytesLess, ih]
  refine ⟨hi, ?_,?_⟩
  · intro a
    induction a with
    | nil =>
      intro b c h1 h2
      cases b with
      | nil => simp [Op.bytesLess] at h1
      | cons y m =>
        cases c with
        | nil => simp [Op.bytesLess] at h2
        | cons z k => rfl
    | cons x l ih =>
      intro b c h1 h2
      cases b with
      | nil => simp [Op.bytesLess] at h1
      | cons y m =>
        cases c with
        | nil => simp [Op.bytesLess] at h2
        | cons z k =>
          simp only [Op.bytesLess, Bool.or_eq_true, Bool.and_eq_true, decide_eq_true_eq, beq_iff_eq] at h1 h2 ⊢
          rcases h1 with h1 | ⟨rfl, h1⟩
          · rcases h2 with h2 | ⟨rfl, h2⟩
            · left; exact UInt8.lt_trans h1 h2
            · left; exact h1
          · rcases h2 with h2 | ⟨rfl, h2⟩
            · left; exact h2
            · right; exact ⟨rfl, ih _ _ h1 h2⟩
  · intro a
    induction a with
    | nil =>
      intro b h1 h2
      cases b with
      | nil => rfl
      | cons y m => simp [Op.bytesLess] at h1
    | cons x l ih =>
      intro b h1 h2
      cases b with
      | nil => simp [Op.bytesLess] at h2
      | cons y m =>
        simp only [Op.bytesLess, Bool.or_eq_false_iff, Bool.and_eq_false_iff, decide_eq_false_iff_not, beq_eq_false_iff_ne] at h1 h2
        obtain ⟨a1, a2⟩ := h1
        obtain ⟨b1, b2⟩ := h2
        have e : x = y := UInt8.le_antisymm (UInt8.not_lt.1 b1) (UInt8.not_lt.1 a1)
        subst e
        rcases a2 with a2 | a2
        · exact absurd rfl a2
        · rcases b2 with b2 | b2
          · exact absurd rfl b2
          · rw [ih _ a2 b2]

abbrev Key := (Int × Int) × Bool × List UInt8 × Int × Int
def lessK : Key → Key → Bool := lexR (lexR ltI ltI) (lexR ltB (lexR Op.bytesLess (lexR ltI ltI)))
theorem strictK : Strict lessK := (strictI.lex strictI).lex (strictB.lex (strictT.lex (strictI.lex strictI)))
def Cl.key (c : Cl) : Key := ((c.n, c.s), c.g, c.t, c.a, c.b)

/-- Whether a write stands ahead of another one. -/
def lessS (a b : Cl) : Bool :=
  if ((a.n == b.n) && (a.s == b.s)) = false then sless a.n a.s b.n b.s
  else if (a.g == b.g) = false then b.g
  else if (a.t == b.t) = false then Op.bytesLess a.t b.t
  else if (a.a == b.a) = false then decide (a.a < b.a)
  else decide (a.b < b.b)
theorem sless_lex (n s m t : Int) : sless n s m t = lexR ltI ltI (n, s) (m, t) := by
  unfold sless lexR ltI
  simp only
  by_cases e : n = m
  · subst e; simp
  · simp [e]
theorem less_key (a b : Cl) : lessS a b = lessK a.key b.key := by
  unfold lessS lessK Cl.key
  rw [lexR]
  simp only [Prod.mk.injEq]
  by_cases e1 : a.n = b.n ∧ a.s = b.s
  · rw [if_pos e1, if_neg (by simp [e1.1, e1.2]), lexR]
    simp only
    by_cases e2 : a.g = b.g
    · rw [if_pos e2, if_neg (by simp [e2]), lexR]
      simp only
      by_cases e3 : a.t = b.t
      · rw [if_pos e3, if_neg (by simp [e3]), lexR]
        simp only
        by_cases e4 : a.a = b.a
        · rw [if_pos e4, if_neg (by simp [e4])]; rfl
        · rw [if_neg e4, if_pos (by simpa using e4)]; rfl
      · rw [if_neg e3, if_pos (by simpa using e3)]
    · rw [if_neg e2, if_pos (by simpa using e2)]
      unfold ltB
      revert e2
      cases a.g <;> cases b.g <;> simp
  · rw [if_neg e1, if_pos (by rw [Bool.eq_false_iff]; simpa using e1), sless_lex]

theorem Cl.ext' {a b : Cl} (h : a.key = b.key) (hd : a.d = b.d) (he : a.e = b.e) : a = b := by
  obtain ⟨n, s, x, y, g, t, d, e⟩ := a
  obtain ⟨n', s', x', y', g', t', d', e'⟩ := b
  simp [Cl.key] at h hd he ⊢
  obtain ⟨⟨h1, h2⟩, h3, h4, h5, h6⟩ := h
  exact ⟨h1, h2, h5, h6, h3, h4, hd, he⟩
/-- The join of two. -/
def deadJ (a b : Cl) : Int × Int := joinS [(a.d, a.e), (b.d, b.e)]
def twoS (a b : Cl) : Cl := { (if lessS a b = true then b else a) with d := (deadJ a b).1, e := (deadJ a b).2 }
theorem two_d (a b : Cl) : (twoS a b).d = max (max 0 a.d) b.d := rfl
theorem two_e (a b : Cl) : (twoS a b).e = max (max 0 a.e) b.e := rfl
theorem two_key (a b : Cl) : (twoS a b).key = if lessS a b = true then b.key else a.key := by unfold twoS; split <;> rfl
/-- The greatest of two writes. -/
def maxK (x y : Key) : Key := if lessK x y = true then y else x
theorem maxK_comm (x y : Key) : maxK x y = maxK y x := by
  unfold maxK
  cases h1 : lessK x y with
  | true => rw [strictK.asym h1]; rfl
  | false =>
    cases h2 : lessK y x with
    | true => rfl
    | false => exact strictK.tot _ _ h1 h2
theorem maxK_assoc (x y z : Key) : maxK (maxK x y) z = maxK x (maxK y z) := by
  unfold maxK
  cases h1 : lessK x y with
  | true =>
    cases h2 : lessK y z with
    | true => simp [h2, strictK.tr _ _ _ h1 h2]
    | false => simp [h1, h2]
  | false =>
    cases h2 : lessK y z with
    | true => simp
    | false =>
      simp [h1]
      cases h3 : lessK x z with
      | false => simp
      | true =>
        exfalso
        cases h4 : lessK y x with
        | true =>
          have := strictK.tr _ _ _ h4 h3
          rw [h2] at this; cases this
        | false =>
          rw [strictK.tot _ _ h1 h4] at h3
          rw [h2] at h3; cases h3
theorem maxK_self (x : Key) : maxK x x = x := by unfold maxK; simp
theorem two_keyM (a b : Cl) : (twoS a b).key = maxK a.key b.key := by rw [two_key, less_key]; rfl
theorem two_comm (a b : Cl) : twoS a b = twoS b a := by
  refine Cl.ext' ?_ ?_ ?_
  · rw [two_keyM, two_keyM, maxK_comm]
  · rw [two_d, two_d]; omega
  · rw [two_e, two_e]; omega
theorem two_assoc (a b c : Cl) : twoS (twoS a b) c = twoS a (twoS b c) := by
  refine Cl.ext' ?_ ?_ ?_
  · rw [two_keyM, two_keyM, two_keyM, two_keyM, maxK_assoc]
  · rw [two_d, two_d, two_d, two_d]; omega
  · rw [two_e, two_e, two_e, two_e]; omega

/-- What of a cell is asked so that no write adds nothing to it. -/
structure Cl.Up (c : Cl) : Prop where
  key : maxK Cl.zero.key c.key = c.key
  d : 0 ≤ c.d
  e : 0 ≤ c.e
theorem up_zero : Cl.zero.Up := ⟨maxK_self _, by decide, by decide⟩
theorem Cl.Up.two {a b : Cl} (ha : a.Up) (hb : b.Up) : (twoS a b).Up := by
  refine ⟨?_,?_,?_⟩
  · rw [two_keyM, ← maxK_assoc, ha.key]
  · rw [two_d]; omega
  · rw [two_e]; omega
theorem two_zero {a : Cl} (h : a.Up) : twoS Cl.zero a = a := by
  have h1 := h.d
  have h2 := h.e
  refine Cl.ext' ?_ ?_ ?_
  · rw [two_keyM, h.key]
  · rw [two_d, show Cl.zero.d = 0 from rfl]; omega
  · rw [two_e, show Cl.zero.e = 0 from rfl]; omega
theorem two_self {a : Cl} (h : a.Up) : twoS a a = a := by
  have h1 := h.d
  have h2 := h.e
  refine Cl.ext' ?_ ?_ ?_
  · rw [two_keyM, maxK_self]
  · rw [two_d]; omega
  · rw [two_e]; omega

/-- The join of any number. -/
def joinC (l : List Cl) : Cl := l.foldl twoS Cl.zero
theorem join_snoc (l : List Cl) (c : Cl) : joinC (l ++ [c]) = twoS (joinC l) c := by unfold joinC; rw [List.foldl_append]; rfl
theorem join_take (l : List Cl) (k : Nat) (h : k < l.length) : joinC (l.take (k + 1)) = twoS (joinC (l.take k)) (l.getD k Cl.zero) := by
  rw [List.take_add_one, List.getElem?_eq_getElem h, List.getD_eq_getElem?_getD, List.getElem?_eq_getElem h]
  exact join_snoc _ _
theorem join_one {a : Cl} (h : a.Up) : joinC [a] = a := two_zero h
theorem join_two {a b : Cl} (h : a.Up) : joinC [a, b] = twoS a b := by
  show twoS (twoS Cl.zero a) b = _
  rw [two_zero h]
theorem join_three {a b c : Cl} (h : a.Up) : joinC [a, b, c] = twoS (twoS a b) c := by
  show twoS (twoS (twoS Cl.zero a) b) c = _
  rw [two_zero h]
theorem join_upAll (l : List Cl) : (joinC l).Up := by
  have : ∀ (l : List Cl) (b : Cl), b.Up → (l.foldl twoS b).Up := by
    intro l
    induction l with
    | nil => intro b hb; exact hb
    | cons c l ih =>
      intro b hb
      refine ih _ ⟨?_,?_,?_⟩
      · rw [two_keyM, ← maxK_assoc, hb.key]
      · rw [two_d]; omega
      · rw [two_e]; omega
  exact this l _ up_zero
/-- Whether two cells are the very same. -/
def sameC (x y : Cl) : Bool := cellEq x.n x.s x.a x.b x.g x.t x.d x.e y.n y.s y.a y.b y.g y.t y.d y.e
theorem same_iff (x y : Cl) : sameC x y = true ↔ x = y := by
  obtain ⟨n, s, a, b, g, t, d, e⟩ := x
  obtain ⟨n', s', a', b', g', t', d', e'⟩ := y
  unfold sameC cellEq
  simp [and_assoc]
/-- Whether a cell adds nothing to another one. -/
def withinS (a b : Cl) : Bool := sameC (joinC [a, b]) b
theorem within_iff {a b : Cl} (h : a.Up) : withinS a b = true ↔ twoS a b = b := by
  unfold withinS
  rw [same_iff, join_two h]
end Go.Proofs.Ytidbjmkfmfojdaa
end

section
namespace Go.Proofs.Ytidbjmkfmfojdaa
open Go.RowKit Go Go.Sort
set_option linter.unusedVariables false

section
variable {K V : Type} {lt : K → K → Bool}
/-- Keys rise. -/
def KAsc (lt : K → K → Bool) (S : List (K × V)) : Prop := S.Pairwise (fun a b => lt a.1 b.1 = true)
/-- What stands at a key. -/
def look [DecidableEq K] : List (K × V) → K → Option V
  | [], _ => none
  | r :: S, k => if r.1 = k then some r.2 else look S k
theorem look_mem [DecidableEq K] : ∀ {S : List (K × V)} {k : K} {c : V}, look S k = some c → (k, c) ∈ S
  | r :: S, k, c, h => by
    unfold look at h
    split at h
    · rename_i e; subst e; cases h; exact List.mem_cons_self ..
    · exact List.mem_cons_of_mem _ (look_mem h)
theorem look_none_iff [DecidableEq K] : ∀ {S : List (K × V)} {k : K}, look S k = none ↔ ∀ r ∈ S, r.1 ≠ k
  | [], k => by simp [look]
  | r :: S, k => by
    unfold look
    split
    · rename_i e; subst e; simp
    · rename_i e
      rw [look_none_iff]
      constructor
      · intro h x hx
        rcases List.mem_cons.1 hx with rfl | hx
        · exact e
        · exact h x hx
      · intro h x hx; exact h x (List.mem_cons_of_mem _ hx)
theorem mem_look [DecidableEq K] (ht : Strict lt) : ∀ {S : List (K × V)} {k : K} {c : V}, KAsc lt S → (k, c) ∈ S → look S k = some c
  | r :: S, k, c, hs, h => by
    unfold KAsc at hs
    rw [List.pairwise_cons] at hs
    unfold look
    rcases List.mem_cons.1 h with e | h
    · subst e; rw [if_pos rfl]
    · rw [if_neg, mem_look ht hs.2 h]
      intro e
      have := hs.1 _ h
      simp only at this
      rw [e, ht.irr] at this
      cases this
theorem look_below [DecidableEq K] (ht : Strict lt) {r : K × V} {S : List (K × V)} {k : K} (hs : KAsc lt (r :: S)) (h : lt r.1 k = false) (hne : r.1 ≠ k) : look (r :: S) k = none := by
  unfold KAsc at hs
  rw [List.pairwise_cons] at hs
  rw [look_none_iff]
  intro x hx
  rcases List.mem_cons.1 hx with rfl | hx
  · exact hne
  · intro e
    have := hs.1 x hx
    rw [e, h] at this
    cases this
/-- What two make of one place. -/
def jn (op : V → V → V) : Option V → Option V → Option V
  | some u, some v => some (op u v)
  | some u, none => some u
  | none, v => v
theorem jn_none (op : V → V → V) (u : Option V) : jn op u none = u := by cases u <;> rfl
/-- Two lists put together. -/
def mrg (lt : K → K → Bool) (op : V → V → V) : List (K × V) → List (K × V) → List (K × V)
  | [], b => b
  | x :: a, [] => x :: a
  | x :: a, y :: b => if lt x.1 y.1 = true then x :: mrg lt op a (y :: b) else if lt y.1 x.1 = true then y :: mrg lt op (x :: a) b else (x.1, op x.2 y.2) :: mrg lt op a b
termination_by a b => a.length + b.length
theorem mrg_nil (op : V → V → V) (b : List (K × V)) : mrg lt op [] b = b := by rw [mrg]
theorem mrg_none (op : V → V → V) (a : List (K × V)) : mrg lt op a [] = a := by cases a <;> rw [mrg]
theorem mrg_lt (op : V → V → V) {x y : K × V} {a b : List (K × V)} (h : lt x.1 y.1 = true) : mrg lt op (x :: a) (y :: b) = x :: mrg lt op a (y :: b) := by rw [mrg, if_pos h]
theorem mrg_gt (op : V → V → V) {x y : K × V} {a b : List (K × V)} (h : lt x.1 y.1 = false) (h2 : lt y.1 x.1 = true) : mrg lt op (x :: a) (y :: b) = y :: mrg lt op (x :: a) b := by rw [mrg, if_neg (by rw [h]; decide), if_pos h2]
theorem mrg_eq (op : V → V → V) {x y : K × V} {a b : List (K × V)} (h : lt x.1 y.1 = false) (h2 : lt y.1 x.1 = false) : mrg lt op (x :: a) (y :: b) = (x.1, op x.2 y.2) :: mrg lt op a b := by rw [mrg, if_neg (by rw [h]; decide), if_neg (by rw [h2]; decide)]
theorem mrg_few (op : V → V → V) : ∀ (n : Nat) (a b : List (K × V)), a.length + b.length ≤ n → (mrg lt op a b).length ≤ a.length + b.length
  | n, [], b, _ => by rw [mrg_nil]; simp
  | n, x :: a, [], _ => by rw [mrg_none]; simp
  | 0, x :: a, y :: b, h => by simp at h
  | n + 1, x :: a, y :: b, h => by
    simp only [List.length_cons] at h
    cases h1 : lt x.1 y.1 with
    | true =>
      rw [mrg_lt op h1]
      have := mrg_few op n a (y :: b) (by simp; omega)
      simp at this ⊢; omega
    | false =>
      cases h2 : lt y.1 x.1 with
      | true =>
        rw [mrg_gt op h1 h2]
        have := mrg_few op n (x :: a) b (by simp; omega)
        simp at this ⊢; omega
      | false =>
        rw [mrg_eq op h1 h2]
        have := mrg_few op n a b (by omega)
        simp at this ⊢; omega
theorem mrg_keys (op : V → V → V) : ∀ (n : Nat) (a b : List (K × V)), a.length + b.length ≤ n → ∀ r ∈ mrg lt op a b, ∃ r', (r' ∈ a ∨ r' ∈ b) ∧ r'.1 = r.1
  | n, [], b, _ => by rw [mrg_nil]; exact fun r hr => ⟨r, .inr hr, rfl⟩
  | n, x :: a, [], _ => by rw [mrg_none]; exact fun r hr => ⟨r, .inl hr, rfl⟩
  | 0, x :: a, y :: b, h => by simp at h
  | n + 1, x :: a, y :: b, h => by
    simp only [List.length_cons] at h
    intro r hr
    cases h1 : lt x.1 y.1 with
    | true =>
      rw [mrg_lt op h1] at hr
      rcases List.mem_cons.1 hr with rfl | hr
      · exact ⟨_, .inl (List.mem_cons_self ..), rfl⟩
      · obtain ⟨r', h', e⟩ := mrg_keys op n a (y :: b) (by simp; omega) r hr
        exact ⟨r', h'.imp_left (List.mem_cons_of_mem _), e⟩
    | false =>
      cases h2 : lt y.1 x.1 with
      | true =>
        rw [mrg_gt op h1 h2] at hr
        rcases List.mem_cons.1 hr with rfl | hr
        · exact ⟨_, .inr (List.mem_cons_self ..), rfl⟩
        · obtain ⟨r', h', e⟩ := mrg_keys op n (x :: a) b (by simp; omega) r hr
          exact ⟨r', h'.imp_right (List.mem_cons_of_mem _), e⟩
      | false =>
        rw [mrg_eq op h1 h2] at hr
        rcases List.mem_cons.1 hr with rfl | hr
        · exact ⟨x, .inl (List.mem_cons_self ..), rfl⟩
        · obtain ⟨r', h', e⟩ := mrg_keys op n a b (by omega) r hr
          exact ⟨r', h'.imp (List.mem_cons_of_mem _) (List.mem_cons_of_mem _), e⟩
theorem mrg_asc (ht : Strict lt) (op : V → V → V) : ∀ (n : Nat) (a b : List (K × V)), a.length + b.length ≤ n → KAsc lt a → KAsc lt b → KAsc lt (mrg lt op a b)
  | n, [], b, _, _, hb => by rw [mrg_nil]; exact hb
  | n, x :: a, [], _, ha, _ => by rw [mrg_none]; exact ha
  | 0, x :: a, y :: b, h, _, _ => by simp at h
  | n + 1, x :: a, y :: b, h, ha, hb => by
    simp only [List.length_cons] at h
    have ha' := ha
    have hb' := hb
    unfold KAsc at ha' hb'
    rw [List.pairwise_cons] at ha' hb'
    cases h1 : lt x.1 y.1 with
    | true =>
      rw [mrg_lt op h1]
      refine List.pairwise_cons.2 ⟨fun r hr => ?_, mrg_asc ht op n a (y :: b) (by simp; omega) ha'.2 hb⟩
      obtain ⟨r', h', e⟩ := mrg_keys op _ _ _ (Nat.le_refl _) r hr
      rw [← e]
      rcases h' with h' | h'
      · exact ha'.1 _ h'
      · rcases List.mem_cons.1 h' with rfl | h'
        · exact h1
        · exact ht.tr _ _ _ h1 (hb'.1 _ h')
    | false =>
      cases h2 : lt y.1 x.1 with
      | true =>
        rw [mrg_gt op h1 h2]
        refine List.pairwise_cons.2 ⟨fun r hr => ?_, mrg_asc ht op n (x :: a) b (by simp; omega) ha hb'.2⟩
        obtain ⟨r', h', e⟩ := mrg_keys op _ _ _ (Nat.le_refl _) r hr
        rw [← e]
        rcases h' with h' | h'
        · rcases List.mem_cons.1 h' with rfl | h'
          · exact h2
          · exact ht.tr _ _ _ h2 (ha'.1 _ h')
        · exact hb'.1 _ h'
      | false =>
        have e0 := ht.tot _ _ h1 h2
        rw [mrg_eq op h1 h2]
        refine List.pairwise_cons.2 ⟨fun r hr => ?_, mrg_asc ht op n a b (by omega) ha'.2 hb'.2⟩
        obtain ⟨r', h', e⟩ := mrg_keys op _ _ _ (Nat.le_refl _) r hr
        rw [← e]
        rcases h' with h' | h'
        · exact ha'.1 _ h'
        · show lt x.1 r'.1 = true
          rw [e0]; exact hb'.1 _ h'
theorem mrg_look [DecidableEq K] (ht : Strict lt) (op : V → V → V) (k : K) : ∀ (n : Nat) (a b : List (K × V)), a.length + b.length ≤ n → KAsc lt a → KAsc lt b → look (mrg lt op a b) k = jn op (look a k) (look b k)
  | n, [], b, _, _, _ => by rw [mrg_nil]; rfl
  | n, x :: a, [], _, _, _ => by rw [mrg_none]; exact (jn_none op _).symm
  | 0, x :: a, y :: b, h, _, _ => by simp at h
  | n + 1, x :: a, y :: b, h, ha, hb => by
    simp only [List.length_cons] at h
    have ha' := ha
    have hb' := hb
    unfold KAsc at ha' hb'
    rw [List.pairwise_cons] at ha' hb'
    cases h1 : lt x.1 y.1 with
    | true =>
      rw [mrg_lt op h1]
      by_cases e : x.1 = k
      · have hn : look (y :: b) k = none := look_below ht hb (by rw [← e]; exact ht.asym h1) (fun e2 => by rw [e, e2, ht.irr] at h1; cases h1)
        rw [hn, jn_none]
        simp only [look, if_pos e]
      · have e1 : ∀ S : List (K × V), look (x :: S) k = look S k := fun S => by rw [look, if_neg e]
        rw [e1, e1]
        exact mrg_look ht op k n a (y :: b) (by simp; omega) ha'.2 hb
    | false =>
      cases h2 : lt y.1 x.1 with
      | true =>
        rw [mrg_gt op h1 h2]
        by_cases e : y.1 = k
        · have hn : look (x :: a) k = none := look_below ht ha (by rw [← e]; exact h1) (fun e2 => by rw [e, e2, ht.irr] at h2; cases h2)
          rw [hn]
          simp only [look, if_pos e, jn]
        · have e1 : ∀ S : List (K × V), look (y :: S) k = look S k := fun S => by rw [look, if_neg e]
          rw [e1, e1]
          exact mrg_look ht op k n (x :: a) b (by simp; omega) ha hb'.2
      | false =>
        have e0 := ht.tot _ _ h1 h2
        rw [mrg_eq op h1 h2]
        by_cases e : x.1 = k
        · simp only [look, if_pos e, if_pos (e0 ▸ e : y.1 = k), jn]
        · have e' : ¬ y.1 = k := e0 ▸ e
          simp only [look, if_neg e, if_neg e']
          exact mrg_look ht op k n a b (by omega) ha'.2 hb'.2
end
section
variable {α K : Type} {lt : K → K → Bool}
end
section
variable {K V : Type} {lt : K → K → Bool}
/-- What lists make, by halves. -/
def madeK (lt : K → K → Bool) (op : V → V → V) (cs : List (List (K × V))) : List (K × V) :=
  if h : 2 ≤ cs.length then mrg lt op (madeK lt op (cs.take (cs.length / 2))) (madeK lt op (cs.drop (cs.length / 2))) else cs.headD []
termination_by cs.length
decreasing_by
  · rw [List.length_take]; omega
  · rw [List.length_drop]; omega
theorem made_two (op : V → V → V) {cs : List (List (K × V))} (h : 2 ≤ cs.length) : madeK lt op cs = mrg lt op (madeK lt op (cs.take (cs.length / 2))) (madeK lt op (cs.drop (cs.length / 2))) := by
  conv => lhs; rw [madeK]
  rw [dif_pos h]
theorem made_one (op : V → V → V) (S : List (K × V)) : madeK lt op [S] = S := by rw [madeK, dif_neg (by simp)]; rfl
theorem made_nil (op : V → V → V) : madeK lt op ([] : List (List (K × V))) = [] := by rw [madeK, dif_neg (by simp)]; rfl
end
end Go.Proofs.Ytidbjmkfmfojdaa
end

