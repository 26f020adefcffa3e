/-
  Merged: HT V0 NM NW Ap PM PW Co PP RP NR BM OM DF DT CS NG CP K0 K1 KA TX K3 K4 K5 KD K6 K8 KE KF K9 Q0.
-/
import Derived.Deep.QuietTactic
import Derived.StillTail
import Derived.Lib.QuietBelow
import Derived.Test.YtfkmfccdhmnllaaDoorRows
import Derived.WalkKit
import Derived.Lib.Hide
import Derived.BigQuiet
import Derived.BigRegion
import Derived.Deep.Cut
import Derived.Deep.MidRow
import Derived.Great.BuildSlice
import Derived.Outline
import Derived.OwnWalk
import Derived.Laws.Rows
import Derived.ChangeKeysEq
import Derived.Laws.StructEq
import Derived.WalkSpells
import Derived.WalkLawsBesides
import Derived.Laws.CopyOwn
import Derived.WalkSmall
import Derived.Lib.LaidTab
import Derived.Deep.RegionWith
import Derived.Lib.MinMax
import Derived.WideShapes
import Derived.ChangeSame
import Derived.OpenShut
import Derived.Deep.Slices
import Derived.Deep.AppendSrc
import Derived.Lib.AppendZerosOnto
import Derived.Lib.SliceRun
import Derived.Lib.Walk
import Derived.Lib.OthersKept
import Derived.Laws.RangeAny
import Derived.Maps.OwnOps
import Derived.Maps.Views
import Derived.ChangeSlices
import Derived.ChangeArms
import Derived.Deep.DeepAppendWide
import Derived.OrdersIn
import Derived.TacticsIn
import Derived.RangeFuncNested
import Derived.RangeFuncBound
import Derived.RangeFuncCalls
import Derived.RangeFuncLeaves
import Derived.Maps.AppendAt
import Derived.Shelf.Abstract
import Derived.OwnWalkIn
import Derived.TacticsInMore
import Derived.LoopNIn
import Derived.LoopIn
import Derived.Stop.LaidErr

section
namespace Go.Proofs.YtfkmfccdhmnllaaDoor
open Go Go.RowKit
set_option linter.unusedVariables false

section
variable {P : Program} {ops : Array Oper} {md : Region.Mode} {C : World → Prop}

/-- What is listed on the way through the head. -/
structure HdInv (md : Region.Mode) (ops : Array Oper) (k n : Nat) (listed : Array Bool) : Prop where
  head : HeadInv md ops n listed
  first : ∀ i, i < k → listed.getD i true = true
theorem HdInv.set {k n j : Nat} {listed : Array Bool} (h : HdInv md ops k n listed) (hj : j ∈ Region.ready md ops listed) (hjn : j < n) : HdInv md ops k n (listed.setIfInBounds j true) := by
  refine ⟨h.head.set hj hjn, fun i hi => ?_⟩
  by_cases hij : j = i
  · subst hij
    have := (mem_ready.1 hj).1
    rw [h.first j hi] at this
    cases this
  · rw [getD_set_ne true hij]; exact h.first i hi
end
end Go.Proofs.YtfkmfccdhmnllaaDoor
end

section
namespace Go.Proofs.YtfkmfccdhmnllaaDoor
open Go.RowKit Go Go.Sort
set_option linter.unusedVariables false

/-- A value comes back; what was there stays. -/
def Tells (v : Value) (w : World) (e : Ending) (w' : World) : Prop := e = .returned v ∧ Below w.heap.size w w'
/-- A pair that lies at a block's head. -/
def Pair (W : World) (g : Nat) (t : TypeId) (a b : Int) : Prop := W.heap[g]? = some (.cells #[.int .i64 a, .int .i64 b] t (0, 0))
theorem Pair.lt {W : World} {g : Nat} {t : TypeId} {a b : Int} (h : Pair W g t a b) : g < W.heap.size := (Array.getElem?_eq_some_iff.1 h).1
theorem Pair.kept {W W' : World} {g : Nat} {t : TypeId} {a b : Int} (h : Pair W g t a b) (hb : Below W.heap.size W W') : Pair W' g t a b := (hb.block g h.lt).trans h
theorem Pair.c0 {W : World} {g : Nat} {t : TypeId} {a b : Int} (h : Pair W g t a b) : W.cell? ⟨g, 0, none⟩ = some (.int .i64 a) := by
  rw [cell_of_row W g 0 _ t (0, 0) h]; rfl
theorem Pair.c1 {W : World} {g : Nat} {t : TypeId} {a b : Int} (h : Pair W g t a b) : W.cell? ⟨g, 1, none⟩ = some (.int .i64 b) := by
  rw [cell_of_row W g 1 _ t (0, 0) h]; rfl
theorem Pair.fz {W : World} {g : Nat} {t : TypeId} {a b : Int} (h : Pair W g t a b) (i : Nat) : W.frozen? ⟨g, i, none⟩ = false := frozen_of_row W g i _ t h
theorem Pair.new (W : World) (t : TypeId) (a b : Int) : Pair (W.alloc (.cells #[.int .i64 a, .int .i64 b] t)) W.heap.size t a b := heap_alloc_new W _
theorem Pair.alloc {W : World} {g : Nat} {t : TypeId} {a b : Int} (h : Pair W g t a b) (o : Obj) : Pair (W.alloc o) g t a b := (Below.heap_alloc W o g h.lt).trans h
theorem Pair.other {W : World} {g : Nat} {t : TypeId} {a b : Int} (h : Pair W g t a b) (p : Addr) (v : Value) (hne : g ≠ p.block) : Pair (W.setCell p v) g t a b :=
  (heap_setCell_other W p g v hne).trans h
theorem Pair.set0 {W : World} {g : Nat} {t : TypeId} {a b : Int} (h : Pair W g t a b) (x : Int) : Pair (W.setCell ⟨g, 0, none⟩ (.int .i64 x)) g t x b := by
  unfold Pair; rw [heap_setCell_same W g 0 _ t _ h]; rfl
theorem Pair.set1 {W : World} {g : Nat} {t : TypeId} {a b : Int} (h : Pair W g t a b) (x : Int) : Pair (W.setCell ⟨g, 1, none⟩ (.int .i64 x)) g t a x := by
  unfold Pair; rw [heap_setCell_same W g 1 _ t _ h]; rfl
theorem drewN_below {w0 w : World} {B : Nat} (h : Below B w0 w) (n : Nat) : Below B w0 (w.drewN n) := ⟨h.os, h.tape, h.output, h.size, h.block⟩
theorem alloc_below (w : World) (o : Obj) : Below w.heap.size w (w.alloc o) := (Below.refl _ w).alloc (Nat.le_refl _) o
theorem Pair.second (W : World) (o1 : Obj) (t : TypeId) (a b : Int) : Pair ((W.alloc o1).alloc (.cells #[.int .i64 a, .int .i64 b] t)) (W.heap.size + 1) t a b := by
  have h := Pair.new (W.alloc o1) t a b
  rwa [World.size_alloc] at h
theorem second_below (W : World) (o1 o2 : Obj) : Below W.heap.size W ((W.alloc o1).alloc o2) := (alloc_below W o1).alloc (by simp) o2
/-- A slice of pairs of the world. -/
structure Prs (w : World) (a : Option Addr) (n cap : Nat) (l : List (Int × Int)) : Prop where
  len : l.length = n
  le : n ≤ cap
  max : cap ≤ 9223372036854775807
  adr : cap = 0 ∨ ∃ b off, a = some ⟨b, off, none⟩ ∧ ∀ i, i < n → w.cell? ⟨b, off + i * 2, none⟩ = some (.int .i64 (l.getD i (0, 0)).1) ∧ w.cell? ⟨b, off + i * 2 + 1, none⟩ = some (.int .i64 (l.getD i (0, 0)).2)
theorem Prs.below {w w' : World} {a : Option Addr} {n cap : Nat} {l : List (Int × Int)} (h : Prs w a n cap l) (hb : Below w.heap.size w w') : Prs w' a n cap l := by
  refine ⟨h.len, h.le, h.max, ?_⟩
  rcases h.adr with h4 | ⟨b, off, rfl, hc⟩
  · exact .inl h4
  · refine .inr ⟨b, off, rfl, fun i hi => ?_⟩
    obtain ⟨h1, h2⟩ := hc i hi
    exact ⟨by rw [hb.cell (World.block_lt_of_cell? w _ h1)]; exact h1, by rw [hb.cell (World.block_lt_of_cell? w _ h2)]; exact h2⟩
end Go.Proofs.YtfkmfccdhmnllaaDoor
end

section
namespace Go.Proofs.YtfkmfccdhmnllaaDoor
open Go.RowKit

/-- How many bytes a number has. -/
def sizeS (n : Int) : Int :=
  if n < 0 ∨ 4611686018427387903 < n then 0 else if n < 64 then 1 else if n < 16384 then 2 else if n < 1073741824 then 4 else 8

theorem sizeS_neg {n : Int} (h : n < 0 ∨ 4611686018427387903 < n) : sizeS n = 0 := by unfold sizeS; rw [if_pos h]
theorem sizeS_1 {n : Int} (h : 0 ≤ n) (h1 : n < 64) : sizeS n = 1 := by unfold sizeS; rw [if_neg (by omega), if_pos h1]
theorem sizeS_2 {n : Int} (h : 64 ≤ n) (h1 : n < 16384) : sizeS n = 2 := by unfold sizeS; rw [if_neg (by omega), if_neg (by omega), if_pos h1]
theorem sizeS_4 {n : Int} (h : 16384 ≤ n) (h1 : n < 1073741824) : sizeS n = 4 := by unfold sizeS; rw [if_neg (by omega), if_neg (by omega), if_neg (by omega), if_pos h1]
theorem sizeS_8 {n : Int} (h : 1073741824 ≤ n) (h1 : n ≤ 4611686018427387903) : sizeS n = 8 := by unfold sizeS; rw [if_neg (by omega), if_neg (by omega), if_neg (by omega), if_neg (by omega)]
theorem sizeS_bd (n : Int) : 0 ≤ sizeS n ∧ sizeS n ≤ 8 := by unfold sizeS; split <;> (try split) <;> (try split) <;> (try split) <;> omega

/-- Byte i of l, as a number. -/
def by8 (l : List UInt8) (i : Nat) : Int := ((l.getD i 0).toNat : Int)
theorem by8_bd (l : List UInt8) (i : Nat) : 0 ≤ by8 l i ∧ by8 l i ≤ 255 := by
  unfold by8; have := (l.getD i 0).toNat_lt; omega
theorem by8_cons (c : UInt8) (r : List UInt8) (i : Nat) : by8 (c :: r) (i + 1) = by8 r i := rfl

/-- A byte slice of the world: length n, reading as the bytes l. -/
structure Bys (w : World) (a : Option Addr) (n cap : Nat) (l : List UInt8) : Prop where
  len : l.length = n
  le : n ≤ cap
  max : cap ≤ 9223372036854775807
  adr : cap = 0 ∨ ∃ b off, a = some ⟨b, off, none⟩ ∧ ∀ i, i < n → w.cell? ⟨b, off + i, none⟩ = some (.int .u8 (by8 l i))

theorem by8_take (l : List UInt8) (q i : Nat) (h : i < q) : by8 (l.take q) i = by8 l i := by
  unfold by8; simp [List.getD, h]
theorem by8_drop (l : List UInt8) (q i : Nat) : by8 (l.drop q) i = by8 l (q + i) := by
  unfold by8; simp [List.getD, List.getElem?_drop]
theorem addr_add (b off i : Nat) : (⟨b, off, none⟩ : Addr).add i = ⟨b, off + i, none⟩ := by
  by_cases h0 : i = 0
  · subst h0; rfl
  · simp [Addr.add, h0]

/-- The first q bytes of a slice. -/
theorem Bys.take {w : World} {a : Option Addr} {n cap : Nat} {l : List UInt8} (h : Bys w a n cap l) {q : Nat} (hq : q ≤ n) : Bys w a q cap (l.take q) := by
  obtain ⟨h1, h2, h3, h4⟩ := h
  refine ⟨by simp; omega, by omega, h3, ?_⟩
  rcases h4 with h4 | ⟨b, off, rfl, hc⟩
  · exact .inl h4
  · exact .inr ⟨b, off, rfl, fun i hi => by rw [by8_take l q i hi]; exact hc i (by omega)⟩
/-- The bytes from q on: at the end of the room the address stays. -/
theorem Bys.dropEnd {w : World} {a : Option Addr} {n cap : Nat} {l : List UInt8} (h : Bys w a n cap l) {q : Nat} (hq : q ≤ n) (hc : cap = q) : Bys w a (n - q) (cap - q) (l.drop q) := by
  obtain ⟨h1, h2, h3, h4⟩ := h
  exact ⟨by simp; omega, by omega, by omega, .inl (by omega)⟩
theorem Bys.drop {w : World} {a : Option Addr} {n cap : Nat} {l : List UInt8} (h : Bys w a n cap l) {q : Nat} (hq : q ≤ n) : Bys w (a.map (fun x => x.add q)) (n - q) (cap - q) (l.drop q) := by
  obtain ⟨h1, h2, h3, h4⟩ := h
  refine ⟨by simp; omega, by omega, by omega, ?_⟩
  rcases h4 with h4 | ⟨b, off, rfl, hc⟩
  · exact .inl (by omega)
  · exact .inr ⟨b, off + q, by rw [Option.map_some, addr_add], fun i hi => by rw [by8_drop, Nat.add_assoc]; exact hc (q + i) (by omega)⟩

theorem Bys.below {w w' : World} {a : Option Addr} {n cap : Nat} {l : List UInt8} (h : Bys w a n cap l) (hb : Below w.heap.size w w') : Bys w' a n cap l := by
  obtain ⟨h1, h2, h3, h4⟩ := h
  refine ⟨h1, h2, h3, ?_⟩
  rcases h4 with h4 | ⟨b, off, rfl, hc⟩
  · exact .inl h4
  · refine .inr ⟨b, off, rfl, fun i hi => ?_⟩
    have := hc i hi
    rw [hb.cell (World.block_lt_of_cell? w _ this)]; exact this

/-- Byte i of l. -/
def byt8 (l : List UInt8) (i : Nat) : UInt8 := l.getD i 0
theorem by8_byt8 (l : List UInt8) (i : Nat) : by8 l i = ((byt8 l i).toNat : Int) := rfl

/-- One byte more behind a number, the highest first. -/
def push1 (n : Int) (c : UInt8) : Int := n * 256 + (c.toNat : Int)

/-- The value of the first k bytes of l behind n. -/
def valS (n : Int) (l : List UInt8) (k : Nat) : Int := (l.take k).foldl push1 n

theorem valS_zero (n : Int) (l : List UInt8) : valS n l 0 = n := by simp [valS]

theorem take_snoc8 (l : List UInt8) (k : Nat) (h : k < l.length) : l.take (k + 1) = l.take k ++ [l.getD k 0] := by
  rw [List.take_succ_eq_append_getElem h]; simp [List.getD, h]

theorem valS_succ (n : Int) (l : List UInt8) (k : Nat) (h : k < l.length) : valS n l (k + 1) = valS n l k * 256 + by8 l k := by
  unfold valS; rw [take_snoc8 l k h, List.foldl_append]; rfl

theorem valS_bd (n : Int) (l : List UInt8) (k : Nat) (h0 : 0 ≤ n) (h1 : n < 64) : k ≤ l.length → 0 ≤ valS n l k ∧ valS n l k < 64 * 256 ^ k := by
  induction k with
  | zero => intro _; simp [valS_zero]; omega
  | succ k ih =>
    intro hk
    have := ih (by omega)
    have hc := by8_bd l k
    rw [valS_succ n l k (by omega)]
    have e : (256 : Int) ^ (k + 1) = 256 ^ k * 256 := Int.pow_succ ..
    rw [e]
    generalize (256 : Int) ^ k = p at *
    omega

theorem valS_lt54 (n : Int) (l : List UInt8) (k : Nat) (h0 : 0 ≤ n) (h1 : n < 64) (hk : k ≤ l.length) (h6 : k ≤ 6) : 0 ≤ valS n l k ∧ valS n l k < 18014398509481984 := by
  have h := valS_bd n l k h0 h1 hk
  refine ⟨h.1, ?_⟩
  rcases (by omega : k = 0 ∨ k = 1 ∨ k = 2 ∨ k = 3 ∨ k = 4 ∨ k = 5 ∨ k = 6) with rfl | rfl | rfl | rfl | rfl | rfl | rfl <;> omega

theorem or_i64 (n c : Int) (h0 : 0 ≤ n) (h1 : n < 18014398509481984) (c0 : 0 ≤ c) (c1 : c ≤ 255) : bits .or .i64 (n * 256) c = n * 256 + c := by
  obtain ⟨m, rfl⟩ := Int.eq_ofNat_of_zero_le h0
  obtain ⟨d, rfl⟩ := Int.eq_ofNat_of_zero_le c0
  have e1 : (BitVec.ofInt 64 ((m : Int) * 256)).toNat = m * 256 := by
    rw [show ((m : Int) * 256) = ((m * 256 : Nat) : Int) by omega, BitVec.ofInt_natCast, BitVec.toNat_ofNat]; exact Nat.mod_eq_of_lt (by omega)
  have e2 : (BitVec.ofInt 64 ((d : Nat) : Int)).toNat = d := by
    rw [BitVec.ofInt_natCast, BitVec.toNat_ofNat]; exact Nat.mod_eq_of_lt (by omega)
  show IntKind.i64.wrap ((BitVec.ofInt 64 ((m : Int) * 256) ||| BitVec.ofInt 64 (d : Int)).toNat : Int) = _
  rw [BitVec.toNat_or, e1, e2]
  have e3 : m * 256 ||| d = m * 256 + d := by
    have := Nat.shiftLeft_add_eq_or_of_lt (i := 8) (b := d) (by omega) m
    rw [Nat.shiftLeft_eq] at this
    exact this.symm
  rw [e3, IntWalk.i64_in _ (by omega)]
  omega

/-- What is told of v in k bytes. -/
def outS (k v : Int) : Int × Int × Int := if sizeS v = k then (v, k, 0) else (0, 0, 11)
theorem outS_yes {k v : Int} (h : sizeS v = k) : outS k v = (v, k, 0) := by unfold outS; rw [if_pos h]
theorem outS_no {k v : Int} (h : ¬ sizeS v = k) : outS k v = (0, 0, 11) := by unfold outS; rw [if_neg h]

/-- What bytes begin with: the number, its bytes, the error. -/
def getS : List UInt8 → Int × Int × Int
  | [] => (0, 0, 10)
  | b :: r => if r.length + 1 < 2 ^ (b.toNat / 64) then (0, 0, 10) else outS (2 ^ (b.toNat / 64) : Nat) (valS ((b.toNat : Int) % 64) r (2 ^ (b.toNat / 64) - 1))
end Go.Proofs.YtfkmfccdhmnllaaDoor
end

section
namespace Go.Proofs.YtfkmfccdhmnllaaDoor
open Go.RowKit

/-- Three numbers come back, and the world is as it was. -/
def Ret3 (t : Int × Int × Int) (w : World) (e : Ending) (w' : World) : Prop := e = .returned (.tuple #[.int .i64 t.1, .int .i64 t.2.1, .int .i64 t.2.2]) ∧ w = w'
theorem Ret3.mk {x y z : Int} {t : Int × Int × Int} {w : World} (h : t = (x, y, z)) : Ret3 t w (.returned (.tuple #[.int .i64 x, .int .i64 y, .int .i64 z])) w := by
  subst h; exact ⟨rfl, rfl⟩

set_option maxHeartbeats 400000 in
theorem size_c (n : Int) (h0 : -9223372036854775808 ≤ n) (h1 : n ≤ 9223372036854775807) (w : World) :
    Calls Tryd.prog 117 #[.int .i64 n] w fun e w' => e = .returned (.int .i64 (sizeS n)) ∧ w = w' := by
  by_cases c1 : n < 0
  · rw [sizeS_neg (.inl c1)]
    go_enter Tryd.func117, Tryd.ntmps117
    go_wp2
    go_ret
    exact ⟨rfl, rfl⟩
  by_cases c2 : 4611686018427387903 < n
  · rw [sizeS_neg (.inr c2)]
    go_enter Tryd.func117, Tryd.ntmps117
    go_wp2
    go_ret
    exact ⟨rfl, rfl⟩
  by_cases c3 : n < 64
  · rw [sizeS_1 (by omega) c3]
    go_enter Tryd.func117, Tryd.ntmps117
    go_wp2
    go_ret
    exact ⟨rfl, rfl⟩
  by_cases c4 : n < 16384
  · rw [sizeS_2 (by omega) c4]
    go_enter Tryd.func117, Tryd.ntmps117
    go_wp2
    go_ret
    exact ⟨rfl, rfl⟩
  by_cases c5 : n < 1073741824
  · rw [sizeS_4 (by omega) c5]
    go_enter Tryd.func117, Tryd.ntmps117
    go_wp2
    go_ret
    exact ⟨rfl, rfl⟩
  · rw [sizeS_8 (by omega) (by omega)]
    go_enter Tryd.func117, Tryd.ntmps117
    go_wp2
    go_ret
    exact ⟨rfl, rfl⟩

set_option maxHeartbeats 400000 in
theorem rsize_c (n : Int) (h0 : -9223372036854775808 ≤ n) (h1 : n ≤ 9223372036854775807) (w : World) :
    Calls Tryd.prog 92 #[.int .i64 n] w fun e w' => e = .returned (.int .i64 (sizeS n)) ∧ w = w' := by
  by_cases c1 : n < 0
  · rw [sizeS_neg (.inl c1)]
    go_enter Tryd.func92, Tryd.ntmps92
    go_wp2
    go_ret
    exact ⟨rfl, rfl⟩
  by_cases c2 : 4611686018427387903 < n
  · rw [sizeS_neg (.inr c2)]
    go_enter Tryd.func92, Tryd.ntmps92
    go_wp2
    go_ret
    exact ⟨rfl, rfl⟩
  by_cases c3 : n < 64
  · rw [sizeS_1 (by omega) c3]
    go_enter Tryd.func92, Tryd.ntmps92
    go_wp2
    go_ret
    exact ⟨rfl, rfl⟩
  by_cases c4 : n < 16384
  · rw [sizeS_2 (by omega) c4]
    go_enter Tryd.func92, Tryd.ntmps92
    go_wp2
    go_ret
    exact ⟨rfl, rfl⟩
  by_cases c5 : n < 1073741824
  · rw [sizeS_4 (by omega) c5]
    go_enter Tryd.func92, Tryd.ntmps92
    go_wp2
    go_ret
    exact ⟨rfl, rfl⟩
  · rw [sizeS_8 (by omega) (by omega)]
    go_enter Tryd.func92, Tryd.ntmps92
    go_wp2
    go_ret
    exact ⟨rfl, rfl⟩
end Go.Proofs.YtfkmfccdhmnllaaDoor
end

section
namespace Go.Proofs.YtfkmfccdhmnllaaDoor
open Go.RowKit
set_option linter.unusedVariables false

/-- Bytes as cells. -/
def u8v (l : List UInt8) : List Value := l.map (fun c => Value.int .u8 (c.toNat : Int))
theorem u8v_length (l : List UInt8) : (u8v l).length = l.length := by simp [u8v]
theorem u8v_append (l m : List UInt8) : u8v (l ++ m) = u8v l ++ u8v m := by simp [u8v]
theorem u8v_get (l : List UInt8) (i : Nat) (h : i < l.length) : (u8v l)[i]? = some (.int .u8 (by8 l i)) := by
  simp [u8v, by8, List.getD, h]
theorem u8v_one (l : List UInt8) : ∀ u ∈ u8v l, u.oneCell' = true := by
  intro u hu; obtain ⟨c, _, rfl⟩ := List.mem_map.1 hu; rfl

/-- The text of bytes. -/
def text (l : List UInt8) : ByteArray := ⟨l.toArray⟩

/-- The cells behind a slice's address. -/
theorem Bys.cells {w : World} {a : Option Addr} {n cap : Nat} {l : List UInt8} (h : Bys w a n cap l) (hn : 0 < n) :
    ∃ ad, a = some ad ∧ ∀ j v, (u8v l)[j]? = some v → w.cell? (ad.add j) = some v := by
  obtain ⟨h1, h2, h3, h4⟩ := h
  rcases h4 with h4 | ⟨b, off, rfl, hc⟩
  · omega
  · refine ⟨_, rfl, fun j v hv => ?_⟩
    have hj : j < l.length := by
      have := (List.getElem?_eq_some_iff.1 hv).1
      rwa [u8v_length] at this
    rw [u8v_get l j hj] at hv
    rw [addr_add, ← hv]
    exact hc j (by omega)

theorem fold_push (l : List UInt8) (s : ByteArray) : (l.map (fun c => (c.toNat : Int))).foldl (fun r n => r.push (UInt8.ofNat n.toNat)) s = ⟨s.data ++ l.toArray⟩ := by
  induction l generalizing s with
  | nil => simp
  | cons c t ih =>
    simp only [List.map_cons, List.foldl_cons]
    rw [ih]
    simp [ByteArray.push]

section
variable {P : Program}
/-- string(b): the text of its bytes; no memory is made. -/
theorem conv_bys {w : World} {a : Option Addr} {n cap : Nat} {l : List UInt8} (h : Bys w a n cap l) {src dst e : TypeId}
    (hs : P.underlying src = some (.slice e)) (he : P.underlying e = some (.int .u8)) (hd : P.underlying dst = some .string) :
    (convert src dst (.slice a n cap)).run P w = .ok (.string (text l)) w := by
  rw [run_convert_bytes_string w src dst e a n cap hs he hd]
  by_cases hn : 0 < n
  · obtain ⟨ad, rfl, hc⟩ := h.cells hn
    have hl := run_loadCells_list (P := P) (w := w) ad (u8v l) hc
    rw [u8v_length, h.len] at hl
    have := run_bytesToString (P := P) w ad n cap (l.map (fun c => (c.toNat : Int))) (by rw [hl]; simp [u8v, Function.comp_def])
    rw [this, fold_push]
    simp [text]
  · obtain rfl : n = 0 := by omega
    have hl : l = [] := List.eq_nil_of_length_eq_zero h.len
    subst hl
    cases a with
    | none => simp [Conv.bytesToString, text]; rfl
    | some ad =>
      have hl := run_loadCells_list (P := P) (w := w) ad [] (by intro j v hv; simp at hv)
      have := run_bytesToString (P := P) w ad 0 cap [] (by simpa using hl)
      rw [this]; simp [text]; rfl

/-- A slice of the call's own that reads as the bytes l. -/
def OwnB (w : World) (B : Nat) (e : TypeId) (v : Value) (l : List UInt8) : Prop := w.ownsRow B e 1 v l.length (u8v l)

theorem OwnB.bys {w : World} {B : Nat} {e : TypeId} {v : Value} {l : List UInt8} (h : OwnB w B e v l) : ∃ a cap, v = .slice a l.length cap ∧ Bys w a l.length cap l := by
  obtain ⟨h1, h2⟩ := h
  rcases h2 with ⟨rfl, hn⟩ | ⟨g, cap, cur, rfl, hb, hg, hnc, hcm, hcs, htake⟩
  · exact ⟨none, 0, by rw [hn], rfl, by omega, by omega, .inl rfl⟩
  · refine ⟨_, cap, rfl, rfl, hnc, by unfold maxLen at hcm; omega, .inr ⟨g, 0, rfl, fun i hi => ?_⟩⟩
    rw [Nat.zero_add, cell_of_row w g i cur e (0, 0) hg]
    have h3 : (cur.toList.take (l.length * 1))[i]? = (u8v l)[i]? := by rw [htake]
    rw [List.getElem?_take, if_pos (by omega), u8v_get l i hi] at h3
    rw [← h3]; simp

/-- A row of its own that is not empty lies at a block's head. -/
theorem OwnB.row {w : World} {B : Nat} {e : TypeId} {v : Value} {l : List UInt8} (h : OwnB w B e v l) (hl : 0 < l.length) :
    ∃ g cap, v = .slice (some ⟨g, 0, none⟩) l.length cap ∧ OwnB w B e (.slice (some ⟨g, 0, none⟩) l.length cap) l := by
  have h' := h
  rcases h'.2 with ⟨rfl, hn⟩ | ⟨g, cap, cur, rfl, _⟩
  · omega
  · exact ⟨g, cap, rfl, h⟩

/-- append(v, b...), v of the call's own, b wherever it lies. -/
theorem run_append_bys {w : World} {base : Nat} {t ty e : TypeId} {i : TypeInfo} {z : Value} {bytes : Nat} (ht : P.underlying t = some (.slice e)) (hi : P.info? e = some i) (hz : i.zero = some z)
    (hsize : i.size = 1) (hby : i.bytes = 1) (hzs : z.cells.size = 1) {v : Value} {k : List UInt8} (hown : OwnB w base e v k)
    {a : Option Addr} {m c : Nat} {l : List UInt8} (hb : Bys w a m c l) (h63 : k.length + m ≤ 140737488355328) (hbase : base ≤ w.heap.size) :
    ∃ v' w', (Builtin.append_ #[t, t] ty #[v, .slice a m c]).run P w = .ok v' w' ∧ OwnB w' base e v' (k ++ l) ∧ w.grownBy w' v.ownBlock := by
  have hlen := hb.len
  by_cases hm : a = none ∧ m = 0
  · obtain ⟨rfl, rfl⟩ := hm
    have hl : l = [] := List.eq_nil_of_length_eq_zero hb.len
    subst hl
    rw [List.append_nil]
    refine ⟨v, w, ?_, hown, World.grownBy.refl _ _⟩
    have hown' := hown
    rcases hown'.2 with ⟨rfl, hn⟩ | ⟨g, cap, cur, rfl, _, _, hnc, _⟩
    · simp [Builtin.append_, run_underlying ht, sizeOf, typeInfo, hi, Builtin.lenOf, Builtin.firstCells]
    · simp [Builtin.append_, run_underlying ht, sizeOf, typeInfo, hi, Builtin.lenOf, Builtin.firstCells, hnc, storeCells]
  · obtain ⟨ad, rfl, hc⟩ : ∃ ad, a = some ad ∧ ∀ j v, (u8v l)[j]? = some v → w.cell? (ad.add j) = some v := by
      by_cases hm0 : 0 < m
      · exact hb.cells hm0
      · cases a with
        | none => exact absurd ⟨rfl, by omega⟩ hm
        | some ad =>
          have hl : l = [] := List.eq_nil_of_length_eq_zero (by omega)
          subst hl
          exact ⟨ad, rfl, fun j v hv => by simp [u8v] at hv⟩
    obtain ⟨v', w', h1, h2, h3, _⟩ := run_append_own (P := P) w base t ty e i z 1 1 ht hi hz hsize hby hzs (by decide) v k.length (u8v k) hown ad m c (u8v l) (by rw [u8v_length]; omega) hc (u8v_one l)
      (by unfold maxLen; omega) (by omega) hbase
    refine ⟨v', w', h1, ?_, h3⟩
    unfold OwnB
    rw [List.length_append, u8v_append, hlen]
    exact h2

theorem wpList_append_bys {w : World} {ops : Array Oper} {rest : List Oper} {o : Oper} {a : Act} {Q : Exit → Act → World → Prop} (hgd : o.guard = none) (s x : Operand) (t : TypeId)
    (ho : o.op = .call { callee := .builtin .append, args := #[s, x], argTypes := #[t, t] })
    {base : Nat} {e : TypeId} {i : TypeInfo} {z : Value} (ht : P.underlying t = some (.slice e)) (hi : P.info? e = some i) (hz : i.zero = some z)
    (hsize : i.size = 1) (hby : i.bytes = 1) (hzs : z.cells.size = 1) {v : Value} {k : List UInt8} (hs : a.eval s = v) (hown : OwnB w base e v k)
    {ad : Option Addr} {m c : Nat} {l : List UInt8} (hx : a.eval x = .slice ad m c) (hb : Bys w ad m c l) (h63 : k.length + m ≤ 140737488355328) (hbase : base ≤ w.heap.size)
    (h : ∀ v' w', OwnB w' base e v' (k ++ l) → w.grownBy w' v.ownBlock → wpList P ops Q rest (a.put o.dst v') w') : wpList P ops Q (o :: rest) a w := by
  refine wpList_plain hgd fun K hK => ?_
  obtain ⟨v', w', hr, h2, h3⟩ := run_append_bys (P := P) (ty := o.type) (bytes := 1) ht hi hz hsize hby hzs hown hb h63 hbase
  unfold Oper.wp execOp
  simp only [ho, resolve, invoke, builtin, Sem.run_bind, Sem.run_pure, Result.andThen_ok, List.map_toArray, List.map_cons, List.map_nil, hs, hx, hr]
  exact hK _ _ (h v' w' h2 h3)
end

/-- An empty row of the call's own, just made. -/
theorem OwnB.empty (w : World) (B : Nat) (e : TypeId) (hB : B ≤ w.heap.size) : OwnB (w.alloc (.cells #[] e)) B e (.slice (some ⟨w.heap.size, 0, none⟩) 0 0) [] :=
  World.ownsRow_made w #[] 0 hB (by decide) rfl
theorem OwnB.kept {w w' : World} {B : Nat} {e : TypeId} {v : Value} {l : List UInt8} (h : OwnB w B e v l) (hb : Below w.heap.size w w') : OwnB w' B e v l := by
  refine ⟨h.1, ?_⟩
  rcases h.2 with hn | ⟨g, cap, cur, rfl, hB, hg, rest⟩
  · exact .inl hn
  · exact .inr ⟨g, cap, cur, rfl, hB, by rw [hb.block g (Array.getElem?_eq_some_iff.1 hg).1]; exact hg, rest⟩
theorem OwnB.lt {w : World} {B : Nat} {e : TypeId} {v : Value} {l : List UInt8} (h : OwnB w B e v l) : ∀ k, v.ownBlock = some k → B ≤ k ∧ k < w.heap.size := World.ownsRow.lt h
theorem OwnB.mono {w : World} {B B' : Nat} {e : TypeId} {v : Value} {l : List UInt8} (h : OwnB w B e v l) (hB : B' ≤ B) : OwnB w B' e v l := by
  refine ⟨h.1, ?_⟩
  rcases h.2 with hn | ⟨g, cap, cur, rfl, hb, rest⟩
  · exact .inl hn
  · exact .inr ⟨g, cap, cur, rfl, by omega, rest⟩
end Go.Proofs.YtfkmfccdhmnllaaDoor
end

section
namespace Go.Proofs.YtfkmfccdhmnllaaDoor
open Go.RowKit
set_option linter.unusedVariables false

/-- The mark of a number's first byte. -/
def markS (k : Nat) : Nat := if k = 2 then 64 else if k = 4 then 128 else if k = 8 then 192 else 0

def rawAt (n : Int) (i : Nat) : UInt8 := UInt8.ofNat (n.toNat / 256 ^ i % 256)
/-- The k lowest bytes of n, the highest first. -/
def rawB (n : Int) (k : Nat) : List UInt8 := (List.range k).map (fun j => rawAt n (k - 1 - j))
theorem rawB_length (n : Int) (k : Nat) : (rawB n k).length = k := by simp [rawB]
theorem rawB_get (n : Int) (k j : Nat) (h : j < k) : byt8 (rawB n k) j = rawAt n (k - 1 - j) := by
  unfold byt8 rawB; simp [List.getD, h]
/-- k bytes with the mark. -/
def numK (n : Int) (k : Nat) : List UInt8 := (rawB n k).set 0 (UInt8.ofNat (n.toNat / 256 ^ (k - 1) % 256 + markS k))
theorem numK_length (n : Int) (k : Nat) : (numK n k).length = k := by simp [numK, rawB_length]
/-- The bytes of a number; none, if it can't be laid. -/
def numB (n : Int) : List UInt8 := numK n (sizeS n).toNat

theorem rawAt_val (n : Int) (h : 0 ≤ n) (i : Nat) : n / 2 ^ (8 * i) % 256 = ((rawAt n i).toNat : Int) := by
  obtain ⟨m, rfl⟩ := Int.eq_ofNat_of_zero_le h
  unfold rawAt
  rw [show (2 : Int) ^ (8 * i) = 256 ^ i by rw [Int.pow_mul]; rfl]
  simp

/-- Where Put's loop stands: i bytes are laid, from the last one on. -/
def layN (l : List UInt8) (n : Int) (k i : Nat) : List UInt8 := l ++ (List.replicate (k - i) 0 ++ (rawB n k).drop (k - i))
theorem layN_zero (l : List UInt8) (n : Int) (k : Nat) : layN l n k 0 = l ++ List.replicate k 0 := by
  unfold layN; rw [List.drop_of_length_le (by rw [rawB_length]; omega)]; simp
theorem layN_all (l : List UInt8) (n : Int) (k : Nat) : layN l n k k = l ++ rawB n k := by unfold layN; simp
theorem layN_length (l : List UInt8) (n : Int) (k i : Nat) (h : i ≤ k) : (layN l n k i).length = l.length + k := by
  unfold layN; simp [rawB_length]
theorem layN_succ (l : List UInt8) (n : Int) (k i : Nat) (h : i < k) : (layN l n k i).set (l.length + (k - 1 - i)) (rawAt n i) = layN l n k (i + 1) := by
  unfold layN
  rw [List.set_append, if_neg (by omega), Nat.add_sub_cancel_left, List.set_append, List.length_replicate, if_pos (by omega)]
  congr 1
  have e1 : k - i = (k - 1 - i) + 1 := by omega
  have e2 : k - (i + 1) = k - 1 - i := by omega
  rw [e2]
  have hd : (rawB n k).drop (k - 1 - i) = rawAt n i :: (rawB n k).drop (k - i) := by
    rw [List.drop_eq_getElem_cons (by rw [rawB_length]; omega), ← e1]
    congr 1
    have := rawB_get n k (k - 1 - i) (by omega)
    unfold byt8 at this
    rw [List.getD_eq_getElem?_getD, List.getElem?_eq_getElem (by rw [rawB_length]; omega), Option.getD_some] at this
    rw [this]
    congr 1; omega
  rw [hd, e1, List.replicate_succ', List.set_append, List.length_replicate, if_neg (by omega), Nat.sub_self]
  simp

theorem sizeS_cases {n : Int} (h0 : 0 ≤ n) (h1 : n ≤ 4611686018427387903) : ∃ k : Nat, sizeS n = (k : Int) ∧ (k = 1 ∨ k = 2 ∨ k = 4 ∨ k = 8) ∧ n.toNat / 256 ^ (k - 1) < 64 := by
  by_cases c3 : n < 64
  · exact ⟨1, sizeS_1 h0 c3, by omega, by simp; omega⟩
  by_cases c4 : n < 16384
  · exact ⟨2, sizeS_2 (by omega) c4, by omega, by simp; omega⟩
  by_cases c5 : n < 1073741824
  · exact ⟨4, sizeS_4 (by omega) c5, by omega, by simp; omega⟩
  · exact ⟨8, sizeS_8 (by omega) h1, by omega, by simp; omega⟩

/-- The first byte takes its mark. -/
theorem mark_val (n : Int) (k : Nat) (hk : k = 1 ∨ k = 2 ∨ k = 4 ∨ k = 8) (hn : n.toNat / 256 ^ (k - 1) < 64) :
    bits .or .u8 ((rawAt n (k - 1)).toNat : Int) (markS k : Nat) = ((UInt8.ofNat (n.toNat / 256 ^ (k - 1) % 256 + markS k)).toNat : Int) := by
  have hr : (rawAt n (k - 1)).toNat = n.toNat / 256 ^ (k - 1) := by unfold rawAt; simp; omega
  have hm : markS k = 64 * (markS k / 64) ∧ markS k ≤ 192 := by rcases hk with rfl | rfl | rfl | rfl <;> decide
  rw [hr]
  generalize n.toNat / 256 ^ (k - 1) = a at *
  rw [u8_or_nat _ _ (by omega) (by omega)]
  have e : a ||| markS k = a + markS k := by
    have := Nat.shiftLeft_add_eq_or_of_lt (i := 6) (b := a) (by omega) (markS k / 64)
    rw [Nat.shiftLeft_eq, show markS k / 64 * 2 ^ 6 = markS k by omega] at this
    rw [Nat.or_comm, ← this, Nat.add_comm]
  rw [e]
  simp; omega
theorem numK_set (l : List UInt8) (n : Int) (k : Nat) (hk : 0 < k) : (l ++ rawB n k).set l.length (UInt8.ofNat (n.toNat / 256 ^ (k - 1) % 256 + markS k)) = l ++ numK n k := by
  rw [List.set_append, if_neg (by omega), Nat.sub_self]; rfl

theorem u8v_set (l : List UInt8) (i : Nat) (c : UInt8) : (u8v l).set i (.int .u8 (c.toNat : Int)) = u8v (l.set i c) := by
  unfold u8v; rw [List.map_set]

/-- A row that was made, and copied into at its head. -/
theorem made_list (n : Nat) : (madeCells #[Value.int .u8 0] n).toList = List.replicate n (Value.int .u8 0) := toList_madeCells_one _ n
theorem heap_of_made {w : World} {B g n : Nat} (h : w.ownsRow B 5 1 (.slice (some ⟨g, 0, none⟩) n n) n (madeCells #[Value.int .u8 0] n).toList) :
    w.heap[g]? = some (.cells (List.replicate n (Value.int .u8 0)).toArray 5 (0, 0)) := by
  rcases h.2 with ⟨h', _⟩ | ⟨g', cap', cur, h', _, hg, _, _, hcs, htake⟩
  · simp at h'
  · simp only [Value.slice.injEq, Option.some.injEq, Addr.mk.injEq, and_true, true_and] at h'
    obtain ⟨rfl, rfl⟩ := h'
    rw [made_list, List.take_of_length_le (by simp [hcs])] at htake
    rw [hg]
    congr 2
    apply Array.ext'
    rw [htake]
theorem own_copied {w : World} {B g k : Nat} {l : List UInt8} (hB : B ≤ g) (hm : l.length + k ≤ 140737488355328)
    (h : w.heap[g]? = some (.cells (splice (List.replicate (l.length + k) (Value.int .u8 0)) 0 (u8v l)).toArray 5 (0, 0))) :
    w.ownsRow B 5 1 (.slice (some ⟨g, 0, none⟩) (l.length + k) (l.length + k)) (l.length + k) (u8v (l ++ List.replicate k 0)) := by
  have e : splice (List.replicate (l.length + k) (Value.int .u8 0)) 0 (u8v l) = u8v (l ++ List.replicate k 0) := by
    unfold splice
    rw [u8v_append, u8v_length]
    simp [u8v]
  rw [e] at h
  refine ⟨by rw [u8v_length]; simp, .inr ⟨g, _, _, rfl, hB, h, Nat.le_refl _, by unfold maxLen; omega, ?_, ?_⟩⟩
  · simp [u8v_length]
  · simp only []
    rw [List.take_of_length_le (by simp [u8v_length])]
theorem grown_trans {a b c : World} {g : Nat} (h : a.grownBy b (some g)) (k : b.grownBy c (some g)) : a.grownBy c (some g) :=
  ⟨k.os.trans h.os, k.tape.trans h.tape, k.output.trans h.output, Nat.le_trans h.size k.size, fun i hi hne => (k.block i (Nat.lt_of_lt_of_le hi h.size) hne).trans (h.block i hi hne)⟩
theorem numB_length (n : Int) : (numB n).length ≤ 8 := by
  unfold numB; rw [numK_length]; have := sizeS_bd n; omega
end Go.Proofs.YtfkmfccdhmnllaaDoor
end

section
namespace Go.Proofs.YtfkmfccdhmnllaaDoor
open Go.RowKit
set_option linter.unusedVariables false

/-- The four cells of the table that sizes of numbers lead to. -/
structure TabW (w : World) : Prop where
  c0 : w.cell? ⟨1, 0, none⟩ = some (.int .u8 0)
  c1 : w.cell? ⟨1, 1, none⟩ = some (.int .u8 1)
  c2 : w.cell? ⟨1, 3, none⟩ = some (.int .u8 2)
  c3 : w.cell? ⟨1, 7, none⟩ = some (.int .u8 3)

theorem TabW.below {w w' : World} (h : TabW w) (hb : Below w.heap.size w w') : TabW w' := by
  have hlt : 1 < w.heap.size := World.block_lt_of_cell? w _ h.c0
  exact ⟨by rw [hb.cell hlt]; exact h.c0, by rw [hb.cell hlt]; exact h.c1, by rw [hb.cell hlt]; exact h.c2, by rw [hb.cell hlt]; exact h.c3⟩

def RetU8 (x : Int) (w : World) (e : Ending) (w' : World) : Prop := e = .returned (.int .u8 x) ∧ w = w'
theorem RetU8.mk {a x : Int} {w : World} (h : a = x) : RetU8 x w (.returned (.int .u8 a)) w := by subst h; exact ⟨rfl, rfl⟩

set_option maxHeartbeats 800000 in
theorem mark_c (k : Nat) (hk : k = 1 ∨ k = 2 ∨ k = 4 ∨ k = 8) {w : World} (hT : TabW w) : Calls Tryd.prog 118 #[.int .i64 (k : Int)] w (RetU8 (markS k : Nat) w) := by
  obtain ⟨c0, c1, c2, c3⟩ := hT
  rcases hk with rfl | rfl | rfl | rfl
  · have hx : IntKind.u64.wrap (bits BinOp.and IntKind.u64 1 (IntKind.u64.wrap (-1)) * 285870213051353865) / 288230376151711744 = 0 := by decide
    go_enter Tryd.func118, Tryd.ntmps118
    go_wp2
    go_ret
    exact RetU8.mk (by decide)
  · have hx : IntKind.u64.wrap (bits BinOp.and IntKind.u64 2 (IntKind.u64.wrap (-2)) * 285870213051353865) / 288230376151711744 = 1 := by decide
    go_enter Tryd.func118, Tryd.ntmps118
    go_wp2
    go_ret
    exact RetU8.mk (by decide)
  · have hx : IntKind.u64.wrap (bits BinOp.and IntKind.u64 4 (IntKind.u64.wrap (-4)) * 285870213051353865) / 288230376151711744 = 3 := by decide
    go_enter Tryd.func118, Tryd.ntmps118
    go_wp2
    go_ret
    exact RetU8.mk (by decide)
  · have hx : IntKind.u64.wrap (bits BinOp.and IntKind.u64 8 (IntKind.u64.wrap (-8)) * 285870213051353865) / 288230376151711744 = 7 := by decide
    go_enter Tryd.func118, Tryd.ntmps118
    go_wp2
    go_ret
    exact RetU8.mk (by decide)
end Go.Proofs.YtfkmfccdhmnllaaDoor
end

section
namespace Go.Proofs.YtfkmfccdhmnllaaDoor
open Go.RowKit

/-- What a function tells that makes bytes: a slice of its own. -/
def BytesPost (l : List UInt8) (w : World) (e : Ending) (w' : World) : Prop := ∃ v, e = .returned v ∧ OwnB w' w.heap.size 5 v l ∧ Below w.heap.size w w'

theorem Tryd.info5 : (Tryd.prog.info? 5).map (fun i => (i.zero, i.size, i.bytes)) = some (some (.int .u8 0), 1, 1) := by kernel_rfl
end Go.Proofs.YtfkmfccdhmnllaaDoor
end

section
namespace Go.Proofs.YtfkmfccdhmnllaaDoor
open Go.RowKit
set_option linter.unusedVariables false

theorem numB_none {n : Int} (h : n < 0 ∨ 4611686018427387903 < n) : numB n = [] := by unfold numB; rw [sizeS_neg h]; rfl
theorem numB_some {n : Int} {k : Nat} (h : sizeS n = (k : Int)) : numB n = numK n k := by unfold numB; rw [h]; rfl

set_option maxHeartbeats 1600000 in
theorem put_none {w : World} {a : Option Addr} {m cap : Nat} {l : List UInt8} (hb : Bys w a m cap l) (hn : m ≤ 1000000) (n : Int) (h0 : -9223372036854775808 ≤ n) (h1 : n ≤ 9223372036854775807) (h : n < 0 ∨ 4611686018427387903 < n) :
    Calls Tryd.prog 87 #[.slice a m cap, .int .i64 n] w (BytesPost (l ++ numB n) w) := by
  obtain ⟨i0, hi, hz0, hz1, hz2⟩ := info_parts Tryd.info5
  obtain rfl : l.length = m := hb.len
  have hs := sizeS_neg h
  have HB := Lib.hid (numB_none h)
  clear h
  have hsz : (Tryd.prog.info? 5).map (·.size) = some 1 := by rw [hi]; simp [hz1]
  go_enter Tryd.func87, Tryd.ntmps87
  go_wp2_with (first
    | (go_at_call 117; refine (size_c n h0 h1 _).mono ?_; rintro e w' ⟨rfl, rfl⟩; rw [hs])
    | (at_make; refine wpList_make_full _ rfl _ _ 50 rfl w.heap.size 5 i0 (.int .u8 0) 1 Tryd.underlying50 hi hz0 hz1 .i64 .i64 _ _ l.length rfl rfl ?c1 ?c2 ?c3 ?c4 ?c5 ?_))
  case c1 => simp
  case c2 => simp
  case c3 => rw [hz2]; omega
  case c4 => unfold maxLen; omega
  case c5 => exact Nat.le_refl _
  intro w1 hown hgr
  have hbel : Below w.heap.size w w1 := (Below.refl _ _).grown hgr (Nat.le_refl _) (fun k hk => by cases hk)
  have HH := Lib.hid (show w1.heap[w.heap.size]? = some (.cells (List.replicate l.length (Value.int .u8 0)).toArray 5 (0, 0)) from heap_of_made hown)
  have hcl : (u8v l).length = l.length := u8v_length l
  have HP := Lib.hid (show 0 < (u8v l).length → ∃ ad, a = some ad ∧ ∀ j v, (u8v l)[j]? = some v → w1.cell? (ad.add j) = some v from fun hp => (hb.below hbel).cells (by rw [hcl] at hp; exact hp))
  have HM := Lib.hid (show (u8v l).length = Nat.min l.length l.length by rw [hcl]; exact (Nat.min_self _).symm)
  have hfit : 0 + (u8v l).length ≤ (List.replicate l.length (Value.int .u8 0)).length := by rw [hcl]; simp
  clear hown hgr
  go_wp2_with (with_reducible refine wpList_copy_splice rfl (.tmp 17) (.tmp 18) 50 50 rfl 5 Tryd.underlying50 hsz (some ⟨w.heap.size, 0, none⟩) a l.length l.length l.length cap rfl rfl w.heap.size 0 (List.replicate l.length (Value.int .u8 0)) 5 HH.out (u8v l) HM.out (fun hp => ⟨rfl, HP.out hp⟩) hfit (u8v_one l) w.heap.size w hbel (Nat.le_refl _) ?_; intro w4 hg4 hb4)
  go_loop [22] (fun i => i = .int .i64 0) (fun _ => 0)
  case atStart => exact rfl
  case round =>
    subst hrel
    go_wp2
    go_ret
    have ho := own_copied (k := 0) (Nat.le_refl w.heap.size) (by omega) hg4.out
    refine ⟨_, rfl, ?_, hb4⟩
    rw [HB.out, List.append_nil]
    simpa [OwnB] using ho

set_option maxRecDepth 100000 in
set_option maxHeartbeats 3200000 in
theorem put_some {w : World} {a : Option Addr} {m cap : Nat} {l : List UInt8} (hb : Bys w a m cap l) (hn : m ≤ 1000000) (n : Int) (h0 : 0 ≤ n) (h1 : n ≤ 4611686018427387903) (hT : TabW w) :
    Calls Tryd.prog 87 #[.slice a m cap, .int .i64 n] w (BytesPost (l ++ numB n) w) := by
  obtain ⟨i0, hi, hz0, hz1, hz2⟩ := info_parts Tryd.info5
  obtain rfl : l.length = m := hb.len
  obtain ⟨k, hs, hk, hlow⟩ := sizeS_cases h0 h1
  have HB := Lib.hid (numB_some hs)
  have hsz : (Tryd.prog.info? 5).map (·.size) = some 1 := by rw [hi]; simp [hz1]
  have hk8 : 1 ≤ k ∧ k ≤ 8 := by omega
  have HS := Lib.hid hs
  have HK := Lib.hid hk
  have HL := Lib.hid hlow
  clear hs hk hlow
  have hkz : (0 : Int) < (k : Int) ∧ (k : Int) ≤ 8 := by omega
  have hle : (l.length : Int) ≤ (l.length : Int) + (k : Int) := by omega
  have hcq : ¬ l.length + k = l.length := by omega
  go_enter Tryd.func87, Tryd.ntmps87
  go_wp2_with (first
    | (go_at_call 117; refine (size_c n (by omega) (by omega) _).mono ?_; rintro e w' ⟨rfl, rfl⟩; rw [HS.out])
    | (at_make; refine wpList_make_full _ rfl _ _ 50 rfl w.heap.size 5 i0 (.int .u8 0) 1 Tryd.underlying50 hi hz0 hz1 .i64 .i64 _ _ (l.length + k) rfl rfl ?c1 ?c2 ?c3 ?c4 ?c5 ?_))
  case c1 => simp
  case c2 => simp
  case c3 => rw [hz2]; omega
  case c4 => unfold maxLen; omega
  case c5 => exact Nat.le_refl _
  intro w1 hown hgr
  have hbel : Below w.heap.size w w1 := (Below.refl _ _).grown hgr (Nat.le_refl _) (fun k hk => by cases hk)
  have HH := Lib.hid (show w1.heap[w.heap.size]? = some (.cells (List.replicate (l.length + k) (Value.int .u8 0)).toArray 5 (0, 0)) from heap_of_made hown)
  have hcl : (u8v l).length = l.length := u8v_length l
  have HP := Lib.hid (show 0 < (u8v l).length → ∃ ad, a = some ad ∧ ∀ j v, (u8v l)[j]? = some v → w1.cell? (ad.add j) = some v from fun hp => (hb.below hbel).cells (by rw [hcl] at hp; exact hp))
  have HM := Lib.hid (show (u8v l).length = Nat.min l.length (l.length + k) by rw [hcl]; exact (Nat.min_eq_left (by omega)).symm)
  have hfit : 0 + (u8v l).length ≤ (List.replicate (l.length + k) (Value.int .u8 0)).length := by rw [hcl]; simp
  clear hown hgr
  go_wp2_with (with_reducible refine wpList_copy_splice rfl (.tmp 17) (.tmp 18) 50 50 rfl 5 Tryd.underlying50 hsz (some ⟨w.heap.size, 0, none⟩) a (l.length + k) (l.length + k) l.length cap rfl rfl w.heap.size 0 (List.replicate (l.length + k) (Value.int .u8 0)) 5 HH.out (u8v l) HM.out (fun hp => ⟨rfl, HP.out hp⟩) hfit (u8v_one l) w.heap.size w hbel (Nat.le_refl _) ?_; intro w4 hg4 hb4)
  have ho := own_copied (Nat.le_refl w.heap.size) (by omega) hg4.out
  clear hg4 hfit hcl hbel
  go_loopw [22] (fun i wr => ∃ j : Nat, j ≤ k ∧ i = .int .i64 j ∧ wr.ownsRow w.heap.size 5 1 (.slice (some ⟨w.heap.size, 0, none⟩) (l.length + k) (l.length + k)) (l.length + k) (u8v (layN l n k j)) ∧ w4.grownBy wr (some w.heap.size)) (fun i _ => k - (intOf i).toNat)
  case atStart => exact ⟨0, by omega, rfl, by rw [layN_zero]; exact ho, World.grownBy.refl _ _⟩
  case round =>
    obtain ⟨j, hj, rfl, hown2, hgr⟩ := hrel
    by_cases hlt : j < k
    · have hcell := hown2.cellAt (l.length + (k - 1 - j)) (by omega)
      rw [u8v_get _ _ (by rw [layN_length _ _ _ _ hj]; omega)] at hcell
      have hfz := hown2.frozenAt (l.length + (k - 1 - j))
      have HV := Lib.hid (rawAt_val n h0 j)
      generalize by8 (layN l n k j) (l.length + (k - 1 - j)) = old at hcell
      have hst := hown2.stored (l.length + (k - 1 - j)) (.int .u8 ((rawAt n j).toNat : Int))
      rw [u8v_set, layN_succ l n k j hlt] at hst
      have HST := Lib.hid hst
      have hj8 : 0 ≤ (k : Int) - 1 - (j : Int) ∧ (k : Int) - 1 - (j : Int) < (k : Int) ∧ (j : Int) ≤ 7 ∧ 0 ≤ (j : Int) := by omega
      clear hst hown2
      go_wp2
      go_roundw
      case rel => exact ⟨j + 1, by omega, by go_num, by rw [HV.out]; exact HST.out.1, by rw [HV.out]; exact grown_trans hgr HST.out.2⟩
      case measure => simp [intOf]; omega
    · obtain rfl : j = k := by omega
      have hcell := hown2.cellAt l.length (by omega)
      rw [layN_all, u8v_get _ _ (by simp [rawB_length]; omega)] at hcell
      have e0 : by8 (l ++ rawB n j) l.length = ((rawAt n (j - 1)).toNat : Int) := by
        rw [by8_byt8]
        have := rawB_get n j 0 (by omega)
        rw [Nat.sub_zero] at this
        rw [← this]
        unfold byt8
        rw [List.getD_eq_getElem?_getD, List.getElem?_append_right (Nat.le_refl _), Nat.sub_self, List.getD_eq_getElem?_getD]
      rw [e0] at hcell
      have hfz := hown2.frozenAt l.length
      have HV := Lib.hid (mark_val n j HK.out HL.out)
      have hbr : Below w.heap.size w wr.drew := (hb4.trans ⟨hgr.os, hgr.tape, hgr.output, hgr.size, fun i hi => hgr.block i (by have := hb4.size; omega) (by simp; omega)⟩).drew
      have hTd := hT.below hbr
      have hst := (World.ownsRow.drew hown2).stored l.length (.int .u8 ((UInt8.ofNat (n.toNat / 256 ^ (j - 1) % 256 + markS j)).toNat : Int))
      rw [u8v_set, layN_all, numK_set l n j (by omega)] at hst
      have HST := Lib.hid hst
      have hx := (rawAt n (j - 1)).toNat_lt
      obtain ⟨cv, hcv⟩ : ∃ cv : Int, cv = ((rawAt n (j - 1)).toNat : Int) := ⟨_, rfl⟩
      rw [← hcv] at hcell HV
      have hcv8 : 0 ≤ cv ∧ cv ≤ 255 := by omega
      clear hst hown2 e0 hcv hx
      go_wp2
      go_region_with (go_at_call 118; refine (mark_c j HK.out ?_).mono ?_; exact hTd; rintro e w' ⟨rfl, rfl⟩)
      all_goals go_wp2
      all_goals go_ret
      all_goals refine ⟨_, rfl, ?_, (hbr.setCell (p := ⟨w.heap.size, l.length, none⟩) (Nat.le_refl _) _)⟩
      all_goals (rw [HV.out, HB.out]; unfold OwnB; rw [List.length_append, numK_length]; exact HST.out.1)
end Go.Proofs.YtfkmfccdhmnllaaDoor
end

section
namespace Go.Proofs.YtfkmfccdhmnllaaDoor
open Go.RowKit
set_option linter.unusedVariables false

theorem and255 (x : Int) (h0 : 0 ≤ x) (h1 : x ≤ 4611686018427387903) : bits .and .i64 x 255 = x % 256 := by
  obtain ⟨m, rfl⟩ := Int.eq_ofNat_of_zero_le h0
  have e1 : (BitVec.ofInt 64 ((m : Nat) : Int)).toNat = m := by
    rw [BitVec.ofInt_natCast, BitVec.toNat_ofNat]; exact Nat.mod_eq_of_lt (by omega)
  show IntKind.i64.wrap ((BitVec.ofInt 64 (m : Int) &&& BitVec.ofInt 64 255).toNat : Int) = _
  rw [BitVec.toNat_and, e1, show (BitVec.ofInt 64 255).toNat = 255 by decide, show 255 = 2 ^ 8 - 1 by rfl, Nat.and_two_pow_sub_one_eq_mod, IntWalk.i64_in _ (by omega)]
  omega
theorem shr_bd (n : Int) (h0 : 0 ≤ n) (h1 : n ≤ 4611686018427387903) (i : Nat) : 0 ≤ n / 2 ^ i ∧ n / 2 ^ i ≤ 4611686018427387903 := by
  obtain ⟨m, rfl⟩ := Int.eq_ofNat_of_zero_le h0
  rw [show ((m : Int) / 2 ^ i) = ((m / 2 ^ i : Nat) : Int) by simp]
  have := Nat.div_le_self m (2 ^ i)
  generalize m / 2 ^ i = q at *
  omega
theorem numK_zero (n : Int) (k : Nat) (hk : 0 < k) : byt8 (numK n k) 0 = UInt8.ofNat (n.toNat / 256 ^ (k - 1) % 256 + markS k) := by
  unfold byt8 numK
  simp [List.getD, rawB_length, hk]
theorem numK_next (n : Int) (k j : Nat) (hj : 0 < j) (hk : j < k) : byt8 (numK n k) j = rawAt n (k - 1 - j) := by
  rw [← rawB_get n k j hk]
  unfold byt8 numK
  simp [List.getD, show ¬ 0 = j by omega]
theorem first_val (n : Int) (k : Nat) (hk : k = 1 ∨ k = 2 ∨ k = 4 ∨ k = 8) (h0 : 0 ≤ n) (hn : n.toNat / 256 ^ (k - 1) < 64) :
    n / 2 ^ (8 * (k - 1)) % 256 + (markS k : Nat) = ((byt8 (numK n k) 0).toNat : Int) := by
  have hm : markS k ≤ 192 := by rcases hk with rfl | rfl | rfl | rfl <;> decide
  rw [rawAt_val n h0, numK_zero n k (by omega)]
  have hr : (rawAt n (k - 1)).toNat = n.toNat / 256 ^ (k - 1) := by unfold rawAt; simp; omega
  rw [hr]
  generalize n.toNat / 256 ^ (k - 1) = x at *
  simp; omega

theorem one_bys (w : World) (e : TypeId) (x : Int) (c : UInt8) (h : x = (c.toNat : Int)) : Bys (w.alloc (.cells #[.int .u8 x] e)) (some ⟨w.heap.size, 0, none⟩) 1 1 [c] := by
  subst h
  refine ⟨rfl, Nat.le_refl _, by omega, .inr ⟨w.heap.size, 0, rfl, fun i hi => ?_⟩⟩
  obtain rfl : i = 0 := by omega
  unfold World.cell?
  rw [heap_alloc_new]
  rfl

/-- Where the loop stands: j of the number's bytes are appended. -/
def PutAt (l : List UInt8) (n : Int) (k j : Nat) (w : World) (v : Value) (wr : World) : Prop :=
  OwnB wr w.heap.size 5 v (l ++ (numK n k).take j) ∧ Below w.heap.size w wr
theorem PutAt.next {l : List UInt8} {n : Int} {k j : Nat} {w wr w1 : World} {v v' : Value} {o : Obj} (hj : j < k) (h : PutAt l n k j w v wr)
    (ho : OwnB w1 w.heap.size 5 v' (l ++ ((numK n k).take j ++ [byt8 (numK n k) j]))) (hg : (wr.alloc o).grownBy w1 v.ownBlock) : PutAt l n k (j + 1) w v' w1 := by
  refine ⟨?_, (h.2.alloc h.2.size _).grown hg (by have := h.2.size; simp; omega) (fun q hq => (h.1.lt q hq).1)⟩
  have := take_snoc8 (numK n k) j (by rw [numK_length]; exact hj)
  rw [this]
  exact ho

set_option maxRecDepth 100000 in
set_option maxHeartbeats 3200000 in
theorem rput_1 {w : World} {a : Option Addr} {m cap : Nat} {l : List UInt8} (hb : Bys w a m cap l) (hn : m ≤ 1000000) (n : Int) (h0 : 0 ≤ n) (h1 : n ≤ 4611686018427387903) (hs : sizeS n = 1) (hlow : n.toNat / 256 ^ (1 - 1) < 64) :
    Calls Tryd.prog 52 #[.slice a m cap, .int .i64 n] w (BytesPost (l ++ numB n) w) := by
  obtain ⟨i0, hi, hz0, hz1, hz2⟩ := info_parts Tryd.info5
  have hln : l.length = m := hb.len
  have HLN := Lib.hid hln
  have HB := Lib.hid (numB_some (k := 1) hs)
  have HS := Lib.hid hs
  have HL := Lib.hid hlow
  have hba := hb.below ((Below.refl w.heap.size w).alloc (Nat.le_refl _) (.cells #[] 5))
  have hoe := OwnB.empty w w.heap.size 5 (Nat.le_refl _)
  clear hs hlow hln
  go_enter Tryd.func52, Tryd.ntmps52
  go_wp2_with (first
    | (go_at_call 92; refine (rsize_c n (by omega) (by omega) _).mono ?_; rintro e w' ⟨rfl, rfl⟩; rw [HS.out])
    | (at_builtin; refine wpList_append_bys rfl (.tmp 9) (.tmp 10) 50 rfl Tryd.underlying50 hi hz0 hz1 hz2 rfl rfl hoe rfl hba (by simp; omega) (by simp) ?_; intro v1 w1 ho1 hg1))
  have b1 : Below w.heap.size w w1 := ((Below.refl w.heap.size w).alloc (Nat.le_refl _) (.cells #[] 5)).grown hg1 (by simp) (fun k hk => (hoe.lt k hk).1)
  rw [List.nil_append] at ho1
  clear hg1 hoe hba
  go_loopw [5, 7] (fun v i wr => ∃ j : Nat, j ≤ 1 ∧ i = .int .i64 (0 - (j : Int)) ∧ PutAt l n 1 j w v wr) (fun _ i _ => (intOf i + 1).toNat)
  case atStart => exact ⟨0, by omega, rfl, by simpa using ho1, b1⟩
  case round =>
    obtain ⟨j, hj, rfl, hp⟩ := hrel
    have hpo := hp.1
    have hps := hp.2.size
    have hlen : (l ++ (numK n 1).take j).length ≤ 1000008 := by have := HLN.out; simp [numK_length]; omega
    by_cases hlt : j < 1
    · by_cases hj0 : j = 0
      · subst hj0
        have HA := Lib.hid (and255 n (by omega) (by omega))
        have HF := Lib.hid (show n % 256 + 0 = ((byt8 (numK n 1) 0).toNat : Int) by
          have := first_val n 1 (by omega) h0 HL.out
          rw [show (2 : Int) ^ (8 * (1 - 1)) = 1 by decide, show ((markS 1 : Nat) : Int) = 0 by decide] at this
          first | exact this | (rw [Int.ediv_one] at this; exact this))
        have hf8 := (byt8 (numK n 1) 0).toNat_lt
        go_wp2_with (at_builtin; refine wpList_append_bys rfl (.tmp 43) (.tmp 45) 50 rfl Tryd.underlying50 hi hz0 hz1 hz2 rfl rfl (World.ownsRow.alloc hpo _) rfl (one_bys wr 5 _ (byt8 (numK n 1) 0) ?cv) (by omega) (by simp; omega) ?_)
        case cv => rw [HA.out]; have := HF.out; omega
        intro v2 w2 ho2 hg2
        go_wp2
        have R := Lib.hid (hp.next (by omega) (by simpa using ho2) hg2)
        go_roundw
        case rel => exact ⟨1, by omega, rfl, R.out⟩
        case measure => simp [intOf]
      · omega
    · obtain rfl : j = 1 := by omega
      go_wp2
      go_ret
      refine ⟨_, rfl, ?_, hp.2⟩
      rw [HB.out]
      have h := hp.1
      rw [List.take_of_length_le (by rw [numK_length]; exact Nat.le_refl _)] at h
      exact h

set_option maxRecDepth 100000 in
set_option maxHeartbeats 3200000 in
theorem rput_2 {w : World} {a : Option Addr} {m cap : Nat} {l : List UInt8} (hb : Bys w a m cap l) (hn : m ≤ 1000000) (n : Int) (h0 : 0 ≤ n) (h1 : n ≤ 4611686018427387903) (hs : sizeS n = 2) (hlow : n.toNat / 256 ^ (2 - 1) < 64) :
    Calls Tryd.prog 52 #[.slice a m cap, .int .i64 n] w (BytesPost (l ++ numB n) w) := by
  obtain ⟨i0, hi, hz0, hz1, hz2⟩ := info_parts Tryd.info5
  have hln : l.length = m := hb.len
  have HLN := Lib.hid hln
  have HB := Lib.hid (numB_some (k := 2) hs)
  have HS := Lib.hid hs
  have HL := Lib.hid hlow
  have hba := hb.below ((Below.refl w.heap.size w).alloc (Nat.le_refl _) (.cells #[] 5))
  have hoe := OwnB.empty w w.heap.size 5 (Nat.le_refl _)
  clear hs hlow hln
  go_enter Tryd.func52, Tryd.ntmps52
  go_wp2_with (first
    | (go_at_call 92; refine (rsize_c n (by omega) (by omega) _).mono ?_; rintro e w' ⟨rfl, rfl⟩; rw [HS.out])
    | (at_builtin; refine wpList_append_bys rfl (.tmp 9) (.tmp 10) 50 rfl Tryd.underlying50 hi hz0 hz1 hz2 rfl rfl hoe rfl hba (by simp; omega) (by simp) ?_; intro v1 w1 ho1 hg1))
  have b1 : Below w.heap.size w w1 := ((Below.refl w.heap.size w).alloc (Nat.le_refl _) (.cells #[] 5)).grown hg1 (by simp) (fun k hk => (hoe.lt k hk).1)
  rw [List.nil_append] at ho1
  clear hg1 hoe hba
  go_loopw [5, 7] (fun v i wr => ∃ j : Nat, j ≤ 2 ∧ i = .int .i64 (1 - (j : Int)) ∧ PutAt l n 2 j w v wr) (fun _ i _ => (intOf i + 1).toNat)
  case atStart => exact ⟨0, by omega, rfl, by simpa using ho1, b1⟩
  case round =>
    obtain ⟨j, hj, rfl, hp⟩ := hrel
    have hpo := hp.1
    have hps := hp.2.size
    have hlen : (l ++ (numK n 2).take j).length ≤ 1000008 := by have := HLN.out; simp [numK_length]; omega
    by_cases hlt : j < 2
    · by_cases hj0 : j = 0
      · subst hj0
        have HA := Lib.hid (and255 (n / 256) (by omega) (by omega))
        have HF := Lib.hid (show (n / 256) % 256 + 64 = ((byt8 (numK n 2) 0).toNat : Int) by
          have := first_val n 2 (by omega) h0 HL.out
          rw [show (2 : Int) ^ (8 * (2 - 1)) = 256 by decide, show ((markS 2 : Nat) : Int) = 64 by decide] at this
          first | exact this | (rw [Int.ediv_one] at this; exact this))
        have hf8 := (byt8 (numK n 2) 0).toNat_lt
        go_wp2_with (at_builtin; refine wpList_append_bys rfl (.tmp 43) (.tmp 45) 50 rfl Tryd.underlying50 hi hz0 hz1 hz2 rfl rfl (World.ownsRow.alloc hpo _) rfl (one_bys wr 5 _ (byt8 (numK n 2) 0) ?cv) (by omega) (by simp; omega) ?_)
        case cv => rw [HA.out]; have := HF.out; omega
        intro v2 w2 ho2 hg2
        go_wp2
        have R := Lib.hid (hp.next (by omega) (by simpa using ho2) hg2)
        go_roundw
        case rel => exact ⟨1, by omega, rfl, R.out⟩
        case measure => simp [intOf]
      · have hbd := shr_bd n h0 h1 (8 * (1 - j))
        have HA := Lib.hid (and255 _ hbd.1 hbd.2)
        have HF := Lib.hid (rawAt_val n h0 (1 - j))
        have HN := Lib.hid (show byt8 (numK n 2) j = rawAt n (1 - j) from numK_next n 2 j (by omega) hlt)
        have hf8 := (rawAt n (1 - j)).toNat_lt
        have hb7 : ((1 : Int) - (j : Int) == 1) = false := by rw [beq_eq_false_iff_ne]; omega
        have hj7 : 0 ≤ (1 : Int) - (j : Int) ∧ (1 : Int) - (j : Int) ≤ 1 := by omega
        clear hbd
        go_wp2_with (at_builtin; refine wpList_append_bys rfl (.tmp 43) (.tmp 45) 50 rfl Tryd.underlying50 hi hz0 hz1 hz2 rfl rfl (World.ownsRow.alloc hpo _) rfl (one_bys wr 5 _ (byt8 (numK n 2) j) ?cv) (by omega) (by simp; omega) ?_)
        case cv => rw [HA.out, HN.out]; have := HF.out; omega
        intro v2 w2 ho2 hg2
        go_wp2
        have R := Lib.hid (hp.next hlt ho2 hg2)
        go_roundw
        case rel => exact ⟨j + 1, by omega, by congr 1; omega, R.out⟩
        case measure => simp [intOf]; omega
    · obtain rfl : j = 2 := by omega
      go_wp2
      go_ret
      refine ⟨_, rfl, ?_, hp.2⟩
      rw [HB.out]
      have h := hp.1
      rw [List.take_of_length_le (by rw [numK_length]; exact Nat.le_refl _)] at h
      exact h

set_option maxRecDepth 100000 in
set_option maxHeartbeats 3200000 in
theorem rput_4 {w : World} {a : Option Addr} {m cap : Nat} {l : List UInt8} (hb : Bys w a m cap l) (hn : m ≤ 1000000) (n : Int) (h0 : 0 ≤ n) (h1 : n ≤ 4611686018427387903) (hs : sizeS n = 4) (hlow : n.toNat / 256 ^ (4 - 1) < 64) :
    Calls Tryd.prog 52 #[.slice a m cap, .int .i64 n] w (BytesPost (l ++ numB n) w) := by
  obtain ⟨i0, hi, hz0, hz1, hz2⟩ := info_parts Tryd.info5
  have hln : l.length = m := hb.len
  have HLN := Lib.hid hln
  have HB := Lib.hid (numB_some (k := 4) hs)
  have HS := Lib.hid hs
  have HL := Lib.hid hlow
  have hba := hb.below ((Below.refl w.heap.size w).alloc (Nat.le_refl _) (.cells #[] 5))
  have hoe := OwnB.empty w w.heap.size 5 (Nat.le_refl _)
  clear hs hlow hln
  go_enter Tryd.func52, Tryd.ntmps52
  go_wp2_with (first
    | (go_at_call 92; refine (rsize_c n (by omega) (by omega) _).mono ?_; rintro e w' ⟨rfl, rfl⟩; rw [HS.out])
    | (at_builtin; refine wpList_append_bys rfl (.tmp 9) (.tmp 10) 50 rfl Tryd.underlying50 hi hz0 hz1 hz2 rfl rfl hoe rfl hba (by simp; omega) (by simp) ?_; intro v1 w1 ho1 hg1))
  have b1 : Below w.heap.size w w1 := ((Below.refl w.heap.size w).alloc (Nat.le_refl _) (.cells #[] 5)).grown hg1 (by simp) (fun k hk => (hoe.lt k hk).1)
  rw [List.nil_append] at ho1
  clear hg1 hoe hba
  go_loopw [5, 7] (fun v i wr => ∃ j : Nat, j ≤ 4 ∧ i = .int .i64 (3 - (j : Int)) ∧ PutAt l n 4 j w v wr) (fun _ i _ => (intOf i + 1).toNat)
  case atStart => exact ⟨0, by omega, rfl, by simpa using ho1, b1⟩
  case round =>
    obtain ⟨j, hj, rfl, hp⟩ := hrel
    have hpo := hp.1
    have hps := hp.2.size
    have hlen : (l ++ (numK n 4).take j).length ≤ 1000008 := by have := HLN.out; simp [numK_length]; omega
    by_cases hlt : j < 4
    · by_cases hj0 : j = 0
      · subst hj0
        have HA := Lib.hid (and255 (n / 16777216) (by omega) (by omega))
        have HF := Lib.hid (show (n / 16777216) % 256 + 128 = ((byt8 (numK n 4) 0).toNat : Int) by
          have := first_val n 4 (by omega) h0 HL.out
          rw [show (2 : Int) ^ (8 * (4 - 1)) = 16777216 by decide, show ((markS 4 : Nat) : Int) = 128 by decide] at this
          first | exact this | (rw [Int.ediv_one] at this; exact this))
        have hf8 := (byt8 (numK n 4) 0).toNat_lt
        go_wp2_with (at_builtin; refine wpList_append_bys rfl (.tmp 43) (.tmp 45) 50 rfl Tryd.underlying50 hi hz0 hz1 hz2 rfl rfl (World.ownsRow.alloc hpo _) rfl (one_bys wr 5 _ (byt8 (numK n 4) 0) ?cv) (by omega) (by simp; omega) ?_)
        case cv => rw [HA.out]; have := HF.out; omega
        intro v2 w2 ho2 hg2
        go_wp2
        have R := Lib.hid (hp.next (by omega) (by simpa using ho2) hg2)
        go_roundw
        case rel => exact ⟨1, by omega, rfl, R.out⟩
        case measure => simp [intOf]
      · have hbd := shr_bd n h0 h1 (8 * (3 - j))
        have HA := Lib.hid (and255 _ hbd.1 hbd.2)
        have HF := Lib.hid (rawAt_val n h0 (3 - j))
        have HN := Lib.hid (show byt8 (numK n 4) j = rawAt n (3 - j) from numK_next n 4 j (by omega) hlt)
        have hf8 := (rawAt n (3 - j)).toNat_lt
        have hb7 : ((3 : Int) - (j : Int) == 3) = false := by rw [beq_eq_false_iff_ne]; omega
        have hj7 : 0 ≤ (3 : Int) - (j : Int) ∧ (3 : Int) - (j : Int) ≤ 3 := by omega
        clear hbd
        go_wp2_with (at_builtin; refine wpList_append_bys rfl (.tmp 43) (.tmp 45) 50 rfl Tryd.underlying50 hi hz0 hz1 hz2 rfl rfl (World.ownsRow.alloc hpo _) rfl (one_bys wr 5 _ (byt8 (numK n 4) j) ?cv) (by omega) (by simp; omega) ?_)
        case cv => rw [HA.out, HN.out]; have := HF.out; omega
        intro v2 w2 ho2 hg2
        go_wp2
        have R := Lib.hid (hp.next hlt ho2 hg2)
        go_roundw
        case rel => exact ⟨j + 1, by omega, by congr 1; omega, R.out⟩
        case measure => simp [intOf]; omega
    · obtain rfl : j = 4 := by omega
      go_wp2
      go_ret
      refine ⟨_, rfl, ?_, hp.2⟩
      rw [HB.out]
      have h := hp.1
      rw [List.take_of_length_le (by rw [numK_length]; exact Nat.le_refl _)] at h
      exact h

set_option maxRecDepth 100000 in
set_option maxHeartbeats 3200000 in
theorem rput_8 {w : World} {a : Option Addr} {m cap : Nat} {l : List UInt8} (hb : Bys w a m cap l) (hn : m ≤ 1000000) (n : Int) (h0 : 0 ≤ n) (h1 : n ≤ 4611686018427387903) (hs : sizeS n = 8) (hlow : n.toNat / 256 ^ (8 - 1) < 64) :
    Calls Tryd.prog 52 #[.slice a m cap, .int .i64 n] w (BytesPost (l ++ numB n) w) := by
  obtain ⟨i0, hi, hz0, hz1, hz2⟩ := info_parts Tryd.info5
  have hln : l.length = m := hb.len
  have HLN := Lib.hid hln
  have HB := Lib.hid (numB_some (k := 8) hs)
  have HS := Lib.hid hs
  have HL := Lib.hid hlow
  have hba := hb.below ((Below.refl w.heap.size w).alloc (Nat.le_refl _) (.cells #[] 5))
  have hoe := OwnB.empty w w.heap.size 5 (Nat.le_refl _)
  clear hs hlow hln
  go_enter Tryd.func52, Tryd.ntmps52
  go_wp2_with (first
    | (go_at_call 92; refine (rsize_c n (by omega) (by omega) _).mono ?_; rintro e w' ⟨rfl, rfl⟩; rw [HS.out])
    | (at_builtin; refine wpList_append_bys rfl (.tmp 9) (.tmp 10) 50 rfl Tryd.underlying50 hi hz0 hz1 hz2 rfl rfl hoe rfl hba (by simp; omega) (by simp) ?_; intro v1 w1 ho1 hg1))
  have b1 : Below w.heap.size w w1 := ((Below.refl w.heap.size w).alloc (Nat.le_refl _) (.cells #[] 5)).grown hg1 (by simp) (fun k hk => (hoe.lt k hk).1)
  rw [List.nil_append] at ho1
  clear hg1 hoe hba
  go_loopw [5, 7] (fun v i wr => ∃ j : Nat, j ≤ 8 ∧ i = .int .i64 (7 - (j : Int)) ∧ PutAt l n 8 j w v wr) (fun _ i _ => (intOf i + 1).toNat)
  case atStart => exact ⟨0, by omega, rfl, by simpa using ho1, b1⟩
  case round =>
    obtain ⟨j, hj, rfl, hp⟩ := hrel
    have hpo := hp.1
    have hps := hp.2.size
    have hlen : (l ++ (numK n 8).take j).length ≤ 1000008 := by have := HLN.out; simp [numK_length]; omega
    by_cases hlt : j < 8
    · by_cases hj0 : j = 0
      · subst hj0
        have HA := Lib.hid (and255 (n / 72057594037927936) (by omega) (by omega))
        have HF := Lib.hid (show (n / 72057594037927936) % 256 + 192 = ((byt8 (numK n 8) 0).toNat : Int) by
          have := first_val n 8 (by omega) h0 HL.out
          rw [show (2 : Int) ^ (8 * (8 - 1)) = 72057594037927936 by decide, show ((markS 8 : Nat) : Int) = 192 by decide] at this
          first | exact this | (rw [Int.ediv_one] at this; exact this))
        have hf8 := (byt8 (numK n 8) 0).toNat_lt
        go_wp2_with (at_builtin; refine wpList_append_bys rfl (.tmp 43) (.tmp 45) 50 rfl Tryd.underlying50 hi hz0 hz1 hz2 rfl rfl (World.ownsRow.alloc hpo _) rfl (one_bys wr 5 _ (byt8 (numK n 8) 0) ?cv) (by omega) (by simp; omega) ?_)
        case cv => rw [HA.out]; have := HF.out; omega
        intro v2 w2 ho2 hg2
        go_wp2
        have R := Lib.hid (hp.next (by omega) (by simpa using ho2) hg2)
        go_roundw
        case rel => exact ⟨1, by omega, rfl, R.out⟩
        case measure => simp [intOf]
      · have hbd := shr_bd n h0 h1 (8 * (7 - j))
        have HA := Lib.hid (and255 _ hbd.1 hbd.2)
        have HF := Lib.hid (rawAt_val n h0 (7 - j))
        have HN := Lib.hid (show byt8 (numK n 8) j = rawAt n (7 - j) from numK_next n 8 j (by omega) hlt)
        have hf8 := (rawAt n (7 - j)).toNat_lt
        have hb7 : ((7 : Int) - (j : Int) == 7) = false := by rw [beq_eq_false_iff_ne]; omega
        have hj7 : 0 ≤ (7 : Int) - (j : Int) ∧ (7 : Int) - (j : Int) ≤ 7 := by omega
        clear hbd
        go_wp2_with (at_builtin; refine wpList_append_bys rfl (.tmp 43) (.tmp 45) 50 rfl Tryd.underlying50 hi hz0 hz1 hz2 rfl rfl (World.ownsRow.alloc hpo _) rfl (one_bys wr 5 _ (byt8 (numK n 8) j) ?cv) (by omega) (by simp; omega) ?_)
        case cv => rw [HA.out, HN.out]; have := HF.out; omega
        intro v2 w2 ho2 hg2
        go_wp2
        have R := Lib.hid (hp.next hlt ho2 hg2)
        go_roundw
        case rel => exact ⟨j + 1, by omega, by congr 1; omega, R.out⟩
        case measure => simp [intOf]; omega
    · obtain rfl : j = 8 := by omega
      go_wp2
      go_ret
      refine ⟨_, rfl, ?_, hp.2⟩
      rw [HB.out]
      have h := hp.1
      rw [List.take_of_length_le (by rw [numK_length]; exact Nat.le_refl _)] at h
      exact h

/-- The reference's Put, for every number. -/
theorem rput_some {w : World} {a : Option Addr} {m cap : Nat} {l : List UInt8} (hb : Bys w a m cap l) (hn : m ≤ 1000000) (n : Int) (h0 : 0 ≤ n) (h1 : n ≤ 4611686018427387903) :
    Calls Tryd.prog 52 #[.slice a m cap, .int .i64 n] w (BytesPost (l ++ numB n) w) := by
  obtain ⟨k, hs, hk, hlow⟩ := sizeS_cases h0 h1
  rcases hk with rfl | rfl | rfl | rfl
  · exact rput_1 hb hn n h0 h1 hs hlow
  · exact rput_2 hb hn n h0 h1 hs hlow
  · exact rput_4 hb hn n h0 h1 hs hlow
  · exact rput_8 hb hn n h0 h1 hs hlow

set_option maxHeartbeats 800000 in
theorem rput_none {w : World} {a : Option Addr} {m cap : Nat} {l : List UInt8} (hb : Bys w a m cap l) (hn : m ≤ 1000000) (n : Int) (h0 : -9223372036854775808 ≤ n) (h1 : n ≤ 9223372036854775807) (h : n < 0 ∨ 4611686018427387903 < n) :
    Calls Tryd.prog 52 #[.slice a m cap, .int .i64 n] w (BytesPost (l ++ numB n) w) := by
  obtain ⟨i0, hi, hz0, hz1, hz2⟩ := info_parts Tryd.info5
  have HS := Lib.hid (sizeS_neg h)
  have HB := Lib.hid (numB_none h)
  have hba := hb.below ((Below.refl w.heap.size w).alloc (Nat.le_refl _) (.cells #[] 5))
  have hoe := OwnB.empty w w.heap.size 5 (Nat.le_refl _)
  clear h
  go_enter Tryd.func52, Tryd.ntmps52
  go_wp2_with (first
    | (go_at_call 92; refine (rsize_c n h0 h1 _).mono ?_; rintro e w' ⟨rfl, rfl⟩; rw [HS.out])
    | (at_builtin; refine wpList_append_bys rfl (.tmp 9) (.tmp 10) 50 rfl Tryd.underlying50 hi hz0 hz1 hz2 rfl rfl hoe rfl hba (by simp; omega) (by simp) ?_; intro v1 w1 ho1 hg1))
  have b1 : Below w.heap.size w w1 := ((Below.refl w.heap.size w).alloc (Nat.le_refl _) (.cells #[] 5)).grown hg1 (by simp) (fun k hk => (hoe.lt k hk).1)
  rw [List.nil_append] at ho1
  clear hg1 hoe hba
  go_loop [5, 7] (fun v i => v = v1 ∧ i = .int .i64 (-1)) (fun _ _ => 0)
  case atStart => exact ⟨rfl, rfl⟩
  case round =>
    obtain ⟨rfl, rfl⟩ := hrel
    go_wp2
    go_ret
    exact ⟨_, rfl, by rw [HB.out, List.append_nil]; exact ho1, b1⟩

theorem put_c {w : World} {a : Option Addr} {m cap : Nat} {l : List UInt8} (hb : Bys w a m cap l) (hn : m ≤ 1000000) (n : Int) (h0 : -9223372036854775808 ≤ n) (h1 : n ≤ 9223372036854775807) (hT : TabW w) :
    Calls Tryd.prog 87 #[.slice a m cap, .int .i64 n] w (BytesPost (l ++ numB n) w) := by
  by_cases h : n < 0 ∨ 4611686018427387903 < n
  · exact put_none hb hn n h0 h1 h
  · exact put_some hb hn n (by omega) (by omega) hT
theorem rput_c {w : World} {a : Option Addr} {m cap : Nat} {l : List UInt8} (hb : Bys w a m cap l) (hn : m ≤ 1000000) (n : Int) (h0 : -9223372036854775808 ≤ n) (h1 : n ≤ 9223372036854775807) :
    Calls Tryd.prog 52 #[.slice a m cap, .int .i64 n] w (BytesPost (l ++ numB n) w) := by
  by_cases h : n < 0 ∨ 4611686018427387903 < n
  · exact rput_none hb hn n h0 h1 h
  · exact rput_some hb hn n (by omega) (by omega)
end Go.Proofs.YtfkmfccdhmnllaaDoor
end

section
namespace Go.Proofs.YtfkmfccdhmnllaaDoor
open Go.RowKit
set_option linter.unusedVariables false

set_option maxHeartbeats 400000 in
theorem rget_nil (a : Option Addr) (cap : Nat) (w : World) :
    Calls Tryd.prog 83 #[.slice a 0 cap] w (Ret3 (0, 0, 10) w) := by
  go_enter Tryd.func83, Tryd.ntmps83
  go_wp2
  go_ret3
  exact Ret3.mk rfl

set_option maxHeartbeats 800000 in
theorem rget_at0 (b off n cap : Nat) (c0 : UInt8) (r : List UInt8) (w : World) (hn : 0 < n) (h1 : n ≤ cap) (h2 : cap ≤ 9223372036854775807)
    (hq : c0.toNat / 64 = 0)
    (hc0 : w.cell? ⟨b, off, none⟩ = some (.int .u8 (c0.toNat : Int)))
    (hr : 0 ≤ r.length) (hlt : 1 ≤ n)
    (hc : ∀ i, i < 0 → w.cell? ⟨b, off + (i + 1), none⟩ = some (.int .u8 (by8 r i))) :
    Calls Tryd.prog 83 #[.slice (some ⟨b, off, none⟩) n cap] w (Ret3 (outS 1 (valS ((c0.toNat : Int) % 64) r 0)) w) := by
  have e1 : (c0.toNat : Int) / 64 = 0 := by omega
  have hp : (0 : Int) < (n : Int) := by omega
  have hne : ((n : Int) == 0) = false := by simp; omega
  have hm : 0 ≤ ((c0.toNat : Int) % 64) ∧ ((c0.toNat : Int) % 64) < 64 := by omega
  clear hq
  go_enter Tryd.func83, Tryd.ntmps83
  go_wp2
  go_loop [5, 6] (fun v i => ∃ j : Nat, j ≤ 0 ∧ i = .int .i64 j ∧ v = .int .i64 ((2 ^ j : Nat) : Int)) (fun _ i => 0 - (intOf i).toNat)
  case atStart => exact ⟨0, by omega, rfl, rfl⟩
  case round =>
    obtain ⟨j, hj, rfl, rfl⟩ := hrel
    by_cases hlt1 : j < 0
    · omega
    · obtain rfl : j = 0 := by omega
      clear hlt1 hj
      have hd : decide ((n : Int) < 1) = false := by simp; omega
      go_wp2
      go_loop [7, 8] (fun v i => ∃ k : Nat, k ≤ 0 ∧ i = .int .i64 ((k : Int) + 1) ∧ v = .int .i64 (valS ((c0.toNat : Int) % 64) r k)) (fun _ i => 1 - (intOf i).toNat)
      case atStart => exact ⟨0, by omega, rfl, by rw [valS_zero]⟩
      case round =>
        obtain ⟨k, hk, rfl, rfl⟩ := hrel
        by_cases hlt2 : k < 0
        · omega
        · obtain rfl : k = 0 := by omega
          have hb := valS_bd ((c0.toNat : Int) % 64) r 0 hm.1 hm.2 (by omega)
          clear hc hlt2
          generalize valS ((c0.toNat : Int) % 64) r 0 = v at *
          have hv0 : -9223372036854775808 ≤ v ∧ v ≤ 9223372036854775807 := by omega
          by_cases hv : sizeS v = 1
          · have hz : (sizeS v != 1) = false := by rw [hv]; rfl
            have HV := Lib.hid hv
            clear hv
            go_wp2_with (go_at_call 92; refine (rsize_c v hv0.1 hv0.2 _).mono ?_; rintro e w' ⟨rfl, rfl⟩)
            go_ret3
            exact Ret3.mk (outS_yes HV.out)
          · have hz : (sizeS v != 1) = true := by rw [bne_iff_ne]; exact hv
            have HV := Lib.hid hv
            clear hv
            go_wp2_with (go_at_call 92; refine (rsize_c v hv0.1 hv0.2 _).mono ?_; rintro e w' ⟨rfl, rfl⟩)
            go_ret3
            exact Ret3.mk (outS_no HV.out)

set_option maxHeartbeats 800000 in
theorem rget_cut1 (b off n cap : Nat) (c0 : UInt8) (w : World) (hn : 0 < n) (h1 : n ≤ cap) (h2 : cap ≤ 9223372036854775807)
    (hq : c0.toNat / 64 = 1)
    (hc0 : w.cell? ⟨b, off, none⟩ = some (.int .u8 (c0.toNat : Int)))
    (hlt : n < 2) :
    Calls Tryd.prog 83 #[.slice (some ⟨b, off, none⟩) n cap] w (Ret3 (0, 0, 10) w) := by
  have e1 : (c0.toNat : Int) / 64 = 1 := by omega
  have hp : (0 : Int) < (n : Int) := by omega
  have hne : ((n : Int) == 0) = false := by simp; omega
  have hm : 0 ≤ ((c0.toNat : Int) % 64) ∧ ((c0.toNat : Int) % 64) < 64 := by omega
  clear hq
  go_enter Tryd.func83, Tryd.ntmps83
  go_wp2
  go_loop [5, 6] (fun v i => ∃ j : Nat, j ≤ 1 ∧ i = .int .i64 j ∧ v = .int .i64 ((2 ^ j : Nat) : Int)) (fun _ i => 1 - (intOf i).toNat)
  case atStart => exact ⟨0, by omega, rfl, rfl⟩
  case round =>
    obtain ⟨j, hj, rfl, rfl⟩ := hrel
    by_cases hlt1 : j < 1
    · have hj3 : ((2 ^ j : Nat) : Int) ≤ 8 ∧ 0 ≤ ((2 ^ j : Nat) : Int) := by
        rcases (by omega : j = 0 ∨ j = 1 ∨ j = 2) with rfl | rfl | rfl <;> omega
      have hps := Lib.hid (show 2 * ((2 ^ j : Nat) : Int) = ((2 ^ (j + 1) : Nat) : Int) by rw [Nat.pow_succ]; omega)
      obtain ⟨p, hpp⟩ : ∃ p : Int, p = ((2 ^ j : Nat) : Int) := ⟨_, rfl⟩
      rw [← hpp] at hj3 hps ⊢
      clear hpp
      go_wp2
      go_round
      case rel => exact ⟨j + 1, by omega, by go_num, by rw [← hps.out]⟩
      case measure => simp [intOf]; omega
    · obtain rfl : j = 1 := by omega
      clear hlt1 hj
      have hd : decide ((n : Int) < 2) = true := by simp; omega
      go_wp2
      go_ret3
      exact Ret3.mk rfl

set_option maxHeartbeats 800000 in
theorem rget_at1 (b off n cap : Nat) (c0 : UInt8) (r : List UInt8) (w : World) (hn : 0 < n) (h1 : n ≤ cap) (h2 : cap ≤ 9223372036854775807)
    (hq : c0.toNat / 64 = 1)
    (hc0 : w.cell? ⟨b, off, none⟩ = some (.int .u8 (c0.toNat : Int)))
    (hr : 1 ≤ r.length) (hlt : 2 ≤ n)
    (hc : ∀ i, i < 1 → w.cell? ⟨b, off + (i + 1), none⟩ = some (.int .u8 (by8 r i))) :
    Calls Tryd.prog 83 #[.slice (some ⟨b, off, none⟩) n cap] w (Ret3 (outS 2 (valS ((c0.toNat : Int) % 64) r 1)) w) := by
  have e1 : (c0.toNat : Int) / 64 = 1 := by omega
  have hp : (0 : Int) < (n : Int) := by omega
  have hne : ((n : Int) == 0) = false := by simp; omega
  have hm : 0 ≤ ((c0.toNat : Int) % 64) ∧ ((c0.toNat : Int) % 64) < 64 := by omega
  clear hq
  go_enter Tryd.func83, Tryd.ntmps83
  go_wp2
  go_loop [5, 6] (fun v i => ∃ j : Nat, j ≤ 1 ∧ i = .int .i64 j ∧ v = .int .i64 ((2 ^ j : Nat) : Int)) (fun _ i => 1 - (intOf i).toNat)
  case atStart => exact ⟨0, by omega, rfl, rfl⟩
  case round =>
    obtain ⟨j, hj, rfl, rfl⟩ := hrel
    by_cases hlt1 : j < 1
    · have hj3 : ((2 ^ j : Nat) : Int) ≤ 8 ∧ 0 ≤ ((2 ^ j : Nat) : Int) := by
        rcases (by omega : j = 0 ∨ j = 1 ∨ j = 2) with rfl | rfl | rfl <;> omega
      have hps := Lib.hid (show 2 * ((2 ^ j : Nat) : Int) = ((2 ^ (j + 1) : Nat) : Int) by rw [Nat.pow_succ]; omega)
      obtain ⟨p, hpp⟩ : ∃ p : Int, p = ((2 ^ j : Nat) : Int) := ⟨_, rfl⟩
      rw [← hpp] at hj3 hps ⊢
      clear hpp
      go_wp2
      go_round
      case rel => exact ⟨j + 1, by omega, by go_num, by rw [← hps.out]⟩
      case measure => simp [intOf]; omega
    · obtain rfl : j = 1 := by omega
      clear hlt1 hj
      have hd : decide ((n : Int) < 2) = false := by simp; omega
      go_wp2
      go_loop [7, 8] (fun v i => ∃ k : Nat, k ≤ 1 ∧ i = .int .i64 ((k : Int) + 1) ∧ v = .int .i64 (valS ((c0.toNat : Int) % 64) r k)) (fun _ i => 2 - (intOf i).toNat)
      case atStart => exact ⟨0, by omega, rfl, by rw [valS_zero]⟩
      case round =>
        obtain ⟨k, hk, rfl, rfl⟩ := hrel
        by_cases hlt2 : k < 1
        · have hb := valS_lt54 ((c0.toNat : Int) % 64) r k hm.1 hm.2 (by omega) (by omega)
          have hcell := hc k hlt2
          have hs := Lib.hid (valS_succ ((c0.toNat : Int) % 64) r k (by omega))
          have h8 := by8_bd r k
          have hk2 : (k : Int) + 1 < n := by omega
          go_wp2
          go_round
          case rel => exact ⟨k + 1, by omega, by go_num, by rw [hs.out, Int.mul_comm]⟩
          case measure => simp [intOf]; omega
        · obtain rfl : k = 1 := by omega
          have hb := valS_bd ((c0.toNat : Int) % 64) r 1 hm.1 hm.2 (by omega)
          clear hc hlt2
          generalize valS ((c0.toNat : Int) % 64) r 1 = v at *
          have hv0 : -9223372036854775808 ≤ v ∧ v ≤ 9223372036854775807 := by omega
          by_cases hv : sizeS v = 2
          · have hz : (sizeS v != 2) = false := by rw [hv]; rfl
            have HV := Lib.hid hv
            clear hv
            go_wp2_with (go_at_call 92; refine (rsize_c v hv0.1 hv0.2 _).mono ?_; rintro e w' ⟨rfl, rfl⟩)
            go_ret3
            exact Ret3.mk (outS_yes HV.out)
          · have hz : (sizeS v != 2) = true := by rw [bne_iff_ne]; exact hv
            have HV := Lib.hid hv
            clear hv
            go_wp2_with (go_at_call 92; refine (rsize_c v hv0.1 hv0.2 _).mono ?_; rintro e w' ⟨rfl, rfl⟩)
            go_ret3
            exact Ret3.mk (outS_no HV.out)

set_option maxHeartbeats 800000 in
theorem rget_cut2 (b off n cap : Nat) (c0 : UInt8) (w : World) (hn : 0 < n) (h1 : n ≤ cap) (h2 : cap ≤ 9223372036854775807)
    (hq : c0.toNat / 64 = 2)
    (hc0 : w.cell? ⟨b, off, none⟩ = some (.int .u8 (c0.toNat : Int)))
    (hlt : n < 4) :
    Calls Tryd.prog 83 #[.slice (some ⟨b, off, none⟩) n cap] w (Ret3 (0, 0, 10) w) := by
  have e1 : (c0.toNat : Int) / 64 = 2 := by omega
  have hp : (0 : Int) < (n : Int) := by omega
  have hne : ((n : Int) == 0) = false := by simp; omega
  have hm : 0 ≤ ((c0.toNat : Int) % 64) ∧ ((c0.toNat : Int) % 64) < 64 := by omega
  clear hq
  go_enter Tryd.func83, Tryd.ntmps83
  go_wp2
  go_loop [5, 6] (fun v i => ∃ j : Nat, j ≤ 2 ∧ i = .int .i64 j ∧ v = .int .i64 ((2 ^ j : Nat) : Int)) (fun _ i => 2 - (intOf i).toNat)
  case atStart => exact ⟨0, by omega, rfl, rfl⟩
  case round =>
    obtain ⟨j, hj, rfl, rfl⟩ := hrel
    by_cases hlt1 : j < 2
    · have hj3 : ((2 ^ j : Nat) : Int) ≤ 8 ∧ 0 ≤ ((2 ^ j : Nat) : Int) := by
        rcases (by omega : j = 0 ∨ j = 1 ∨ j = 2) with rfl | rfl | rfl <;> omega
      have hps := Lib.hid (show 2 * ((2 ^ j : Nat) : Int) = ((2 ^ (j + 1) : Nat) : Int) by rw [Nat.pow_succ]; omega)
      obtain ⟨p, hpp⟩ : ∃ p : Int, p = ((2 ^ j : Nat) : Int) := ⟨_, rfl⟩
      rw [← hpp] at hj3 hps ⊢
      clear hpp
      go_wp2
      go_round
      case rel => exact ⟨j + 1, by omega, by go_num, by rw [← hps.out]⟩
      case measure => simp [intOf]; omega
    · obtain rfl : j = 2 := by omega
      clear hlt1 hj
      have hd : decide ((n : Int) < 4) = true := by simp; omega
      go_wp2
      go_ret3
      exact Ret3.mk rfl

set_option maxHeartbeats 800000 in
theorem rget_at2 (b off n cap : Nat) (c0 : UInt8) (r : List UInt8) (w : World) (hn : 0 < n) (h1 : n ≤ cap) (h2 : cap ≤ 9223372036854775807)
    (hq : c0.toNat / 64 = 2)
    (hc0 : w.cell? ⟨b, off, none⟩ = some (.int .u8 (c0.toNat : Int)))
    (hr : 3 ≤ r.length) (hlt : 4 ≤ n)
    (hc : ∀ i, i < 3 → w.cell? ⟨b, off + (i + 1), none⟩ = some (.int .u8 (by8 r i))) :
    Calls Tryd.prog 83 #[.slice (some ⟨b, off, none⟩) n cap] w (Ret3 (outS 4 (valS ((c0.toNat : Int) % 64) r 3)) w) := by
  have e1 : (c0.toNat : Int) / 64 = 2 := by omega
  have hp : (0 : Int) < (n : Int) := by omega
  have hne : ((n : Int) == 0) = false := by simp; omega
  have hm : 0 ≤ ((c0.toNat : Int) % 64) ∧ ((c0.toNat : Int) % 64) < 64 := by omega
  clear hq
  go_enter Tryd.func83, Tryd.ntmps83
  go_wp2
  go_loop [5, 6] (fun v i => ∃ j : Nat, j ≤ 2 ∧ i = .int .i64 j ∧ v = .int .i64 ((2 ^ j : Nat) : Int)) (fun _ i => 2 - (intOf i).toNat)
  case atStart => exact ⟨0, by omega, rfl, rfl⟩
  case round =>
    obtain ⟨j, hj, rfl, rfl⟩ := hrel
    by_cases hlt1 : j < 2
    · have hj3 : ((2 ^ j : Nat) : Int) ≤ 8 ∧ 0 ≤ ((2 ^ j : Nat) : Int) := by
        rcases (by omega : j = 0 ∨ j = 1 ∨ j = 2) with rfl | rfl | rfl <;> omega
      have hps := Lib.hid (show 2 * ((2 ^ j : Nat) : Int) = ((2 ^ (j + 1) : Nat) : Int) by rw [Nat.pow_succ]; omega)
      obtain ⟨p, hpp⟩ : ∃ p : Int, p = ((2 ^ j : Nat) : Int) := ⟨_, rfl⟩
      rw [← hpp] at hj3 hps ⊢
      clear hpp
      go_wp2
      go_round
      case rel => exact ⟨j + 1, by omega, by go_num, by rw [← hps.out]⟩
      case measure => simp [intOf]; omega
    · obtain rfl : j = 2 := by omega
      clear hlt1 hj
      have hd : decide ((n : Int) < 4) = false := by simp; omega
      go_wp2
      go_loop [7, 8] (fun v i => ∃ k : Nat, k ≤ 3 ∧ i = .int .i64 ((k : Int) + 1) ∧ v = .int .i64 (valS ((c0.toNat : Int) % 64) r k)) (fun _ i => 4 - (intOf i).toNat)
      case atStart => exact ⟨0, by omega, rfl, by rw [valS_zero]⟩
      case round =>
        obtain ⟨k, hk, rfl, rfl⟩ := hrel
        by_cases hlt2 : k < 3
        · have hb := valS_lt54 ((c0.toNat : Int) % 64) r k hm.1 hm.2 (by omega) (by omega)
          have hcell := hc k hlt2
          have hs := Lib.hid (valS_succ ((c0.toNat : Int) % 64) r k (by omega))
          have h8 := by8_bd r k
          have hk2 : (k : Int) + 1 < n := by omega
          go_wp2
          go_round
          case rel => exact ⟨k + 1, by omega, by go_num, by rw [hs.out, Int.mul_comm]⟩
          case measure => simp [intOf]; omega
        · obtain rfl : k = 3 := by omega
          have hb := valS_bd ((c0.toNat : Int) % 64) r 3 hm.1 hm.2 (by omega)
          clear hc hlt2
          generalize valS ((c0.toNat : Int) % 64) r 3 = v at *
          have hv0 : -9223372036854775808 ≤ v ∧ v ≤ 9223372036854775807 := by omega
          by_cases hv : sizeS v = 4
          · have hz : (sizeS v != 4) = false := by rw [hv]; rfl
            have HV := Lib.hid hv
            clear hv
            go_wp2_with (go_at_call 92; refine (rsize_c v hv0.1 hv0.2 _).mono ?_; rintro e w' ⟨rfl, rfl⟩)
            go_ret3
            exact Ret3.mk (outS_yes HV.out)
          · have hz : (sizeS v != 4) = true := by rw [bne_iff_ne]; exact hv
            have HV := Lib.hid hv
            clear hv
            go_wp2_with (go_at_call 92; refine (rsize_c v hv0.1 hv0.2 _).mono ?_; rintro e w' ⟨rfl, rfl⟩)
            go_ret3
            exact Ret3.mk (outS_no HV.out)

set_option maxHeartbeats 800000 in
theorem rget_cut3 (b off n cap : Nat) (c0 : UInt8) (w : World) (hn : 0 < n) (h1 : n ≤ cap) (h2 : cap ≤ 9223372036854775807)
    (hq : c0.toNat / 64 = 3)
    (hc0 : w.cell? ⟨b, off, none⟩ = some (.int .u8 (c0.toNat : Int)))
    (hlt : n < 8) :
    Calls Tryd.prog 83 #[.slice (some ⟨b, off, none⟩) n cap] w (Ret3 (0, 0, 10) w) := by
  have e1 : (c0.toNat : Int) / 64 = 3 := by omega
  have hp : (0 : Int) < (n : Int) := by omega
  have hne : ((n : Int) == 0) = false := by simp; omega
  have hm : 0 ≤ ((c0.toNat : Int) % 64) ∧ ((c0.toNat : Int) % 64) < 64 := by omega
  clear hq
  go_enter Tryd.func83, Tryd.ntmps83
  go_wp2
  go_loop [5, 6] (fun v i => ∃ j : Nat, j ≤ 3 ∧ i = .int .i64 j ∧ v = .int .i64 ((2 ^ j : Nat) : Int)) (fun _ i => 3 - (intOf i).toNat)
  case atStart => exact ⟨0, by omega, rfl, rfl⟩
  case round =>
    obtain ⟨j, hj, rfl, rfl⟩ := hrel
    by_cases hlt1 : j < 3
    · have hj3 : ((2 ^ j : Nat) : Int) ≤ 8 ∧ 0 ≤ ((2 ^ j : Nat) : Int) := by
        rcases (by omega : j = 0 ∨ j = 1 ∨ j = 2) with rfl | rfl | rfl <;> omega
      have hps := Lib.hid (show 2 * ((2 ^ j : Nat) : Int) = ((2 ^ (j + 1) : Nat) : Int) by rw [Nat.pow_succ]; omega)
      obtain ⟨p, hpp⟩ : ∃ p : Int, p = ((2 ^ j : Nat) : Int) := ⟨_, rfl⟩
      rw [← hpp] at hj3 hps ⊢
      clear hpp
      go_wp2
      go_round
      case rel => exact ⟨j + 1, by omega, by go_num, by rw [← hps.out]⟩
      case measure => simp [intOf]; omega
    · obtain rfl : j = 3 := by omega
      clear hlt1 hj
      have hd : decide ((n : Int) < 8) = true := by simp; omega
      go_wp2
      go_ret3
      exact Ret3.mk rfl

set_option maxHeartbeats 800000 in
theorem rget_at3 (b off n cap : Nat) (c0 : UInt8) (r : List UInt8) (w : World) (hn : 0 < n) (h1 : n ≤ cap) (h2 : cap ≤ 9223372036854775807)
    (hq : c0.toNat / 64 = 3)
    (hc0 : w.cell? ⟨b, off, none⟩ = some (.int .u8 (c0.toNat : Int)))
    (hr : 7 ≤ r.length) (hlt : 8 ≤ n)
    (hc : ∀ i, i < 7 → w.cell? ⟨b, off + (i + 1), none⟩ = some (.int .u8 (by8 r i))) :
    Calls Tryd.prog 83 #[.slice (some ⟨b, off, none⟩) n cap] w (Ret3 (outS 8 (valS ((c0.toNat : Int) % 64) r 7)) w) := by
  have e1 : (c0.toNat : Int) / 64 = 3 := by omega
  have hp : (0 : Int) < (n : Int) := by omega
  have hne : ((n : Int) == 0) = false := by simp; omega
  have hm : 0 ≤ ((c0.toNat : Int) % 64) ∧ ((c0.toNat : Int) % 64) < 64 := by omega
  clear hq
  go_enter Tryd.func83, Tryd.ntmps83
  go_wp2
  go_loop [5, 6] (fun v i => ∃ j : Nat, j ≤ 3 ∧ i = .int .i64 j ∧ v = .int .i64 ((2 ^ j : Nat) : Int)) (fun _ i => 3 - (intOf i).toNat)
  case atStart => exact ⟨0, by omega, rfl, rfl⟩
  case round =>
    obtain ⟨j, hj, rfl, rfl⟩ := hrel
    by_cases hlt1 : j < 3
    · have hj3 : ((2 ^ j : Nat) : Int) ≤ 8 ∧ 0 ≤ ((2 ^ j : Nat) : Int) := by
        rcases (by omega : j = 0 ∨ j = 1 ∨ j = 2) with rfl | rfl | rfl <;> omega
      have hps := Lib.hid (show 2 * ((2 ^ j : Nat) : Int) = ((2 ^ (j + 1) : Nat) : Int) by rw [Nat.pow_succ]; omega)
      obtain ⟨p, hpp⟩ : ∃ p : Int, p = ((2 ^ j : Nat) : Int) := ⟨_, rfl⟩
      rw [← hpp] at hj3 hps ⊢
      clear hpp
      go_wp2
      go_round
      case rel => exact ⟨j + 1, by omega, by go_num, by rw [← hps.out]⟩
      case measure => simp [intOf]; omega
    · obtain rfl : j = 3 := by omega
      clear hlt1 hj
      have hd : decide ((n : Int) < 8) = false := by simp; omega
      go_wp2
      go_loop [7, 8] (fun v i => ∃ k : Nat, k ≤ 7 ∧ i = .int .i64 ((k : Int) + 1) ∧ v = .int .i64 (valS ((c0.toNat : Int) % 64) r k)) (fun _ i => 8 - (intOf i).toNat)
      case atStart => exact ⟨0, by omega, rfl, by rw [valS_zero]⟩
      case round =>
        obtain ⟨k, hk, rfl, rfl⟩ := hrel
        by_cases hlt2 : k < 7
        · have hb := valS_lt54 ((c0.toNat : Int) % 64) r k hm.1 hm.2 (by omega) (by omega)
          have hcell := hc k hlt2
          have hs := Lib.hid (valS_succ ((c0.toNat : Int) % 64) r k (by omega))
          have h8 := by8_bd r k
          have hk2 : (k : Int) + 1 < n := by omega
          go_wp2
          go_round
          case rel => exact ⟨k + 1, by omega, by go_num, by rw [hs.out, Int.mul_comm]⟩
          case measure => simp [intOf]; omega
        · obtain rfl : k = 7 := by omega
          have hb := valS_bd ((c0.toNat : Int) % 64) r 7 hm.1 hm.2 (by omega)
          clear hc hlt2
          generalize valS ((c0.toNat : Int) % 64) r 7 = v at *
          have hv0 : -9223372036854775808 ≤ v ∧ v ≤ 9223372036854775807 := by omega
          by_cases hv : sizeS v = 8
          · have hz : (sizeS v != 8) = false := by rw [hv]; rfl
            have HV := Lib.hid hv
            clear hv
            go_wp2_with (go_at_call 92; refine (rsize_c v hv0.1 hv0.2 _).mono ?_; rintro e w' ⟨rfl, rfl⟩)
            go_ret3
            exact Ret3.mk (outS_yes HV.out)
          · have hz : (sizeS v != 8) = true := by rw [bne_iff_ne]; exact hv
            have HV := Lib.hid hv
            clear hv
            go_wp2_with (go_at_call 92; refine (rsize_c v hv0.1 hv0.2 _).mono ?_; rintro e w' ⟨rfl, rfl⟩)
            go_ret3
            exact Ret3.mk (outS_no HV.out)

/-- rget: what bytes begin with. -/
theorem rget_c {w : World} {a : Option Addr} {n cap : Nat} {l : List UInt8} (h : Bys w a n cap l) : Calls Tryd.prog 83 #[.slice a n cap] w (Ret3 (getS l) w) := by
  obtain ⟨hlen, hle, hmax, hadr⟩ := h
  cases l with
  | nil => simp at hlen; subst hlen; exact rget_nil a cap w
  | cons c0 r =>
    simp at hlen
    rcases hadr with h0 | ⟨b, off, rfl, hc⟩
    · omega
    have hc0 : w.cell? ⟨b, off, none⟩ = some (.int .u8 (c0.toNat : Int)) := by simpa [by8] using hc 0 (by omega)
    have hcs : ∀ i, i < n - 1 → w.cell? ⟨b, off + (i + 1), none⟩ = some (.int .u8 (by8 r i)) := fun i hi => by
      have := hc (i + 1) (by omega)
      rw [by8_cons] at this
      rw [show off + (i + 1) = off + (i + 1) by omega]; exact this
    have hlt := c0.toNat_lt
    rcases (by omega : c0.toNat / 64 = 0 ∨ c0.toNat / 64 = 1 ∨ c0.toNat / 64 = 2 ∨ c0.toNat / 64 = 3) with hq | hq | hq | hq
    · simp only [getS, hq]; rw [if_neg (by omega)]
      exact rget_at0 b off n cap c0 r w (by omega) hle hmax hq hc0 (by omega) (by omega) (fun i hi => hcs i (by omega))
    · simp only [getS, hq]
      by_cases hs : n < 2
      · rw [if_pos (by omega)]; exact rget_cut1 b off n cap c0 w (by omega) hle hmax hq hc0 hs
      · rw [if_neg (by omega)]; exact rget_at1 b off n cap c0 r w (by omega) hle hmax hq hc0 (by omega) (by omega) (fun i hi => hcs i (by omega))
    · simp only [getS, hq]
      by_cases hs : n < 4
      · rw [if_pos (by omega)]; exact rget_cut2 b off n cap c0 w (by omega) hle hmax hq hc0 hs
      · rw [if_neg (by omega)]; exact rget_at2 b off n cap c0 r w (by omega) hle hmax hq hc0 (by omega) (by omega) (fun i hi => hcs i (by omega))
    · simp only [getS, hq]
      by_cases hs : n < 8
      · rw [if_pos (by omega)]; exact rget_cut3 b off n cap c0 w (by omega) hle hmax hq hc0 hs
      · rw [if_neg (by omega)]; exact rget_at3 b off n cap c0 r w (by omega) hle hmax hq hc0 (by omega) (by omega) (fun i hi => hcs i (by omega))
end Go.Proofs.YtfkmfccdhmnllaaDoor
end

section
namespace Go.Proofs.YtfkmfccdhmnllaaDoor
open Go.RowKit
set_option linter.unusedVariables false

theorem by8_append_left (l m : List UInt8) (i : Nat) (h : i < l.length) : by8 (l ++ m) i = by8 l i := by
  unfold by8; rw [List.getD_eq_getElem?_getD, List.getElem?_append_left h, List.getD_eq_getElem?_getD]

/-- The digits of n, the highest first, from a on. -/
theorem valS_digits (n : Int) (h0 : 0 ≤ n) (r : List UInt8) (c : Nat) (hr : ∀ j, j < c → by8 r j = ((rawAt n (c - 1 - j)).toNat : Int)) (hl : c ≤ r.length) :
    ∀ j, j ≤ c → valS (n / 256 ^ c) r j = n / 256 ^ (c - j) := by
  intro j
  induction j with
  | zero => intro _; rw [valS_zero, Nat.sub_zero]
  | succ j ih =>
    intro hj
    rw [valS_succ _ _ _ (by omega), ih (by omega), hr j (by omega)]
    have e : (256 : Int) ^ (c - j) = 256 ^ (c - (j + 1)) * 256 := by rw [← Int.pow_succ]; congr 1; omega
    have hv := rawAt_val n h0 (c - 1 - j)
    rw [show (2 : Int) ^ (8 * (c - 1 - j)) = 256 ^ (c - 1 - j) by rw [Int.pow_mul]; rfl, show c - 1 - j = c - (j + 1) by omega] at hv
    rw [show c - 1 - j = c - (j + 1) by omega, e, ← hv, ← Int.ediv_ediv_of_nonneg (Int.pow_nonneg (by omega))]
    omega

theorem markS_div (k : Nat) (hk : k = 1 ∨ k = 2 ∨ k = 4 ∨ k = 8) : 2 ^ (markS k / 64) = k ∧ markS k % 64 = 0 ∧ markS k ≤ 192 := by
  rcases hk with rfl | rfl | rfl | rfl <;> decide

theorem numK_cons (n : Int) (k : Nat) (hk : 0 < k) : numK n k = UInt8.ofNat (n.toNat / 256 ^ (k - 1) % 256 + markS k) :: (rawB n k).tail := by
  unfold numK
  cases h : rawB n k with
  | nil => have := rawB_length n k; rw [h] at this; simp at this; omega
  | cons a t => rfl
theorem rawB_tail (n : Int) (k j : Nat) (h : j + 1 < k) : by8 (rawB n k).tail j = ((rawAt n (k - 2 - j)).toNat : Int) := by
  have h1 := rawB_get n k (j + 1) h
  rw [show k - 1 - (j + 1) = k - 2 - j by omega] at h1
  rw [← h1]
  unfold by8 byt8
  simp [List.getD]

/-- A number's bytes begin with that number, whatever stands behind them. -/
theorem getS_num (n : Int) (t : List UInt8) (h0 : 0 ≤ n) (h1 : n ≤ 4611686018427387903) : getS (numB n ++ t) = (n, sizeS n, 0) := by
  obtain ⟨k, hs, hk, hlow⟩ := sizeS_cases h0 h1
  have hnb : numB n = numK n k := by unfold numB; rw [hs]; rfl
  obtain ⟨m1, m2, m3⟩ := markS_div k hk
  have hk0 : 0 < k := by omega
  rw [hnb, numK_cons n k hk0]
  show getS (_ :: ((rawB n k).tail ++ t)) = _
  have hb : (UInt8.ofNat (n.toNat / 256 ^ (k - 1) % 256 + markS k)).toNat = n.toNat / 256 ^ (k - 1) + markS k := by
    generalize n.toNat / 256 ^ (k - 1) = x at *
    simp; omega
  have hbd : (n.toNat / 256 ^ (k - 1) + markS k) / 64 = markS k / 64 := by
    generalize n.toNat / 256 ^ (k - 1) = x at *
    omega
  have hbm : (((n.toNat / 256 ^ (k - 1) + markS k : Nat) : Int) % 64) = n / 256 ^ (k - 1) := by
    obtain ⟨m, rfl⟩ := Int.eq_ofNat_of_zero_le h0
    rw [show ((m : Int) / 256 ^ (k - 1)) = ((m / 256 ^ (k - 1) : Nat) : Int) by simp]
    rw [Int.toNat_natCast] at hlow ⊢
    generalize m / 256 ^ (k - 1) = x at *
    omega
  simp only [getS]
  rw [hb, hbd, m1, hbm]
  have hlen : (rawB n k).tail.length = k - 1 := by rw [List.length_tail, rawB_length]
  rw [if_neg (by simp [rawB_length]; omega)]
  have hv := valS_digits n h0 ((rawB n k).tail ++ t) (k - 1) (fun j hj => by
    rw [by8_append_left _ _ _ (by rw [hlen]; exact hj), rawB_tail n k j (by omega), show k - 1 - 1 - j = k - 2 - j by omega]) (by simp [rawB_length]) (k - 1) (Nat.le_refl _)
  rw [hv, Nat.sub_self, Int.pow_zero, Int.ediv_one, outS_yes hs, hs]

theorem valS_div (a : Int) (r : List UInt8) (c : Nat) (hl : c ≤ r.length) : ∀ j, j ≤ c → valS a r c / 256 ^ j = valS a r (c - j) := by
  intro j
  induction j with
  | zero => intro _; simp
  | succ j ih =>
    intro hj
    rw [Int.pow_succ, ← Int.ediv_ediv_of_nonneg (Int.pow_nonneg (by omega)), ih (by omega)]
    have e : c - j = (c - (j + 1)) + 1 := by omega
    rw [e, valS_succ _ _ _ (by omega)]
    have h8 := by8_bd r (c - (j + 1))
    omega

theorem byt8_eq {l m : List UInt8} (hl : l.length = m.length) (h : ∀ i, i < l.length → byt8 l i = byt8 m i) : l = m := by
  apply List.ext_getElem hl
  intro i h1 h2
  have := h i h1
  unfold byt8 at this
  simpa [List.getD, h1, h2] using this

/-- What is got is put as the bytes that it was got from. -/
theorem getS_form (l : List UInt8) (q : Nat) (h : (getS l).2.2 = 0) (hq : (getS l).2.1 = (q : Int)) : numB (getS l).1 = l.take q := by
  cases l with
  | nil => simp [getS] at h
  | cons b r =>
    simp only [getS] at h hq ⊢
    have hb := b.toNat_lt
    by_cases hc : r.length + 1 < 2 ^ (b.toNat / 64)
    · rw [if_pos hc] at h; simp at h
    rw [if_neg hc] at h hq ⊢
    generalize hv : valS ((b.toNat : Int) % 64) r (2 ^ (b.toNat / 64) - 1) = v at *
    by_cases hs : sizeS v = ((2 ^ (b.toNat / 64) : Nat) : Int)
    · rw [outS_yes hs] at hq ⊢
      simp only at hq ⊢
      obtain ⟨k, hk⟩ : ∃ k, k = 2 ^ (b.toNat / 64) := ⟨_, rfl⟩
      rw [← hk] at hs hv hc hq
      obtain rfl : q = k := by omega
      have hkk : q = 1 ∨ q = 2 ∨ q = 4 ∨ q = 8 := by
        rcases (by omega : b.toNat / 64 = 0 ∨ b.toNat / 64 = 1 ∨ b.toNat / 64 = 2 ∨ b.toNat / 64 = 3) with e | e | e | e <;> rw [e] at hk <;> omega
      have hm : markS q = 64 * (b.toNat / 64) := by
        rcases (by omega : b.toNat / 64 = 0 ∨ b.toNat / 64 = 1 ∨ b.toNat / 64 = 2 ∨ b.toNat / 64 = 3) with e | e | e | e <;> rw [e] at hk ⊢ <;> subst hk <;> rfl
      have hbd := valS_bd ((b.toNat : Int) % 64) r (q - 1) (by omega) (by omega) (by omega)
      rw [hv] at hbd
      have h0 : 0 ≤ v := hbd.1
      have hnb : numB v = numK v q := by unfold numB; rw [hs]; rfl
      have hdiv := fun j (hj : j ≤ q - 1) => valS_div ((b.toNat : Int) % 64) r (q - 1) (by omega) j hj
      rw [hv] at hdiv
      rw [hnb]
      apply byt8_eq
      · rw [numK_length, List.length_take]; simp; omega
      · rw [numK_length]
        intro i hi
        have htk : byt8 ((b :: r).take q) i = byt8 (b :: r) i := by unfold byt8; simp [List.getD, hi]
        rw [htk]
        have htop : v.toNat / 256 ^ (q - 1) = b.toNat % 64 := by
          have := hdiv (q - 1) (Nat.le_refl _)
          rw [Nat.sub_self, valS_zero] at this
          obtain ⟨m, rfl⟩ := Int.eq_ofNat_of_zero_le h0
          rw [show ((m : Int) / 256 ^ (q - 1)) = ((m / 256 ^ (q - 1) : Nat) : Int) by simp] at this
          rw [Int.toNat_natCast]
          omega
        by_cases hi0 : i = 0
        · subst hi0
          rw [numK_cons v q (by omega)]
          show UInt8.ofNat _ = b
          rw [htop, hm, show b.toNat % 64 % 256 + 64 * (b.toNat / 64) = b.toNat by omega]
          simp
        · have hraw : byt8 (numK v q) i = rawAt v (q - 1 - i) := by
            rw [← rawB_get v q i hi]
            unfold byt8 numK
            simp [List.getD, show ¬ 0 = i by omega]
          rw [hraw]
          apply UInt8.toNat_inj.1
          have e1 := rawAt_val v h0 (q - 1 - i)
          rw [show (2 : Int) ^ (8 * (q - 1 - i)) = 256 ^ (q - 1 - i) by rw [Int.pow_mul]; rfl, hdiv (q - 1 - i) (by omega),
            show q - 1 - (q - 1 - i) = (i - 1) + 1 by omega, valS_succ _ _ _ (by omega)] at e1
          have h8 := by8_bd r (i - 1)
          have e2 : by8 r (i - 1) = ((byt8 (b :: r) i).toNat : Int) := by
            obtain ⟨j, rfl⟩ : ∃ j, i = j + 1 := ⟨i - 1, by omega⟩
            rw [Nat.add_sub_cancel]; rfl
          omega
    · rw [outS_no hs] at h; simp at h
theorem sizeS_pos {v : Int} {k : Int} (h : sizeS v = k) (hk : 0 < k) : 0 ≤ v ∧ v ≤ 4611686018427387903 := by
  by_cases hv : v < 0 ∨ 4611686018427387903 < v
  · rw [sizeS_neg hv] at h; omega
  · omega

theorem getS_ok (l : List UInt8) (h : (getS l).2.2 = 0) : ∃ q : Nat, (getS l).2.1 = (q : Int) ∧ 1 ≤ q ∧ q ≤ l.length ∧ 0 ≤ (getS l).1 ∧ (getS l).1 ≤ 4611686018427387903 := by
  cases l with
  | nil => simp [getS] at h
  | cons b r =>
    simp only [getS] at h ⊢
    have hp : 1 ≤ 2 ^ (b.toNat / 64) := Nat.one_le_two_pow
    by_cases hc : r.length + 1 < 2 ^ (b.toNat / 64)
    · rw [if_pos hc] at h; simp at h
    · rw [if_neg hc] at h ⊢
      generalize hv : valS ((b.toNat : Int) % 64) r (2 ^ (b.toNat / 64) - 1) = v at *
      by_cases hs : sizeS v = ((2 ^ (b.toNat / 64) : Nat) : Int)
      · rw [outS_yes hs] at h ⊢
        exact ⟨2 ^ (b.toNat / 64), rfl, hp, by simp; omega, sizeS_pos hs (by omega)⟩
      · rw [outS_no hs] at h; simp at h

theorem getS_bad (l : List UInt8) (h : ¬ (getS l).2.2 = 0) : (getS l).1 = 0 ∧ (getS l).2.1 = 0 := by
  cases l with
  | nil => exact ⟨rfl, rfl⟩
  | cons b r =>
    simp only [getS] at h ⊢
    by_cases hc : r.length + 1 < 2 ^ (b.toNat / 64)
    · rw [if_pos hc]; exact ⟨rfl, rfl⟩
    · rw [if_neg hc] at h ⊢
      generalize valS ((b.toNat : Int) % 64) r (2 ^ (b.toNat / 64) - 1) = v at *
      by_cases hs : sizeS v = ((2 ^ (b.toNat / 64) : Nat) : Int)
      · rw [outS_yes hs] at h; simp at h
      · rw [outS_no hs]; exact ⟨rfl, rfl⟩

end Go.Proofs.YtfkmfccdhmnllaaDoor
end

section
namespace Go.Proofs.YtfkmfccdhmnllaaDoor
open Go.RowKit
set_option linter.unusedVariables false

theorem numB_len {n : Int} (h0 : 0 ≤ n) (h1 : n ≤ 4611686018427387903) : sizeS n = ((numB n).length : Int) ∧ 0 < (numB n).length := by
  obtain ⟨k, hs, hk, hlow⟩ := sizeS_cases h0 h1
  unfold numB; rw [numK_length, hs]
  exact ⟨rfl, by have : ((k : Int)).toNat = k := rfl; omega⟩

theorem text_toList (l : List UInt8) : (text l).toList = l := by unfold text; simp
theorem text_size (l : List UInt8) : (text l).size = l.length := by unfold text; rfl
end Go.Proofs.YtfkmfccdhmnllaaDoor
end

section
namespace Go.Proofs.YtfkmfccdhmnllaaDoor
open Go Go.RowKit
set_option linter.unusedVariables false

section
variable {P : Program} {ops : Array Oper} {md : Region.Mode}

theorem upon_weak {o : Oper} {a : Act} {K K' : Act → World → Prop} {Q Q' : Exit → Act → World → Prop} (hK : ∀ a w, K a w → K' a w) (hQ : ∀ e a w, Q e a w → e = .normal) (r : Result Next) (h : o.upon P a K Q r) : o.upon P a K' Q' r := by
  cases r with
  | ok n w' =>
    cases n with
    | value v => exact hK _ _ h
    | skip => exact hK _ _ h
    | defer d => exact hK _ _ h
    | enter f args =>
      refine Calls.mono h fun e w'' he => ?_
      cases e with
      | returned v => exact hK _ _ he
      | panicked c => exact absurd (hQ _ _ _ he) (by simp)
      | outgrown => exact absurd (hQ _ _ _ he.choose_spec.choose_spec) (by simp)
    | row r args => exact Rows.mono h fun v w'' he => hK _ _ he
    | _ => exact h
  | halt x w' =>
    cases x with
    | panic v => exact absurd (hQ _ _ _ h) (by simp)
    | _ => exact h
theorem wpOp_of_one {i : Nat} {o : Oper} {a : Act} {w : World} {K : Act → World → Prop} {Q Q' : Exit → Act → World → Prop} (ho : ops[i]? = some o) (hK : ∀ a w, Q' .normal a w → K a w) (hQ : ∀ e a w, Q' e a w → e = .normal)
    (h : wpList P ops Q' [o] a w) : wpOp P ops Q i K a w := by
  unfold wpOp
  simp only [ho]
  unfold wpList at h
  split
  · rename_i hw
    rw [if_pos hw] at h
    rcases h with h | ⟨_, a', w', h⟩
    · left
      exact upon_weak (fun a w h => hK a w h) hQ _ h
    · exact absurd (hQ _ _ _ h) (by simp)
  · rename_i hw
    rw [if_neg hw] at h
    exact hK _ _ h

/-- How one operation ends. -/
def FlowEnd (a : Act) (o : Oper) (R : World → World → Prop) (g : Value → World → Prop) (w : World) (e : Exit) (a' : Act) (w' : World) : Prop :=
  e = .normal ∧ ∃ v, a' = a.put o.dst v ∧ R w w' ∧ g v w'

theorem count_set_lt (l : List Bool) (i : Nat) (h : l[i]? = some false) : (l.set i true).count false < l.count false := by
  induction l generalizing i with
  | nil => simp at h
  | cons b l ih =>
    cases i with
    | zero =>
      have : b = false := by simpa using h
      subst this
      simp
    | succ i =>
      have := ih i (by simpa using h)
      cases b <;> simp <;> omega

theorem wpAny_flow {Q : Exit → Act → World → Prop} (act : (Nat → Value) → Act) (R : World → World → Prop) (G : Nat → Value → World → Prop) (w0 : World)
    (hR : ∀ a b c, R a b → R b c → R a c) (hG : ∀ i v w w', R w0 w → R w w' → G i v w → G i v w')
    (hwf : ∀ i o, ops[i]? = some o → ∀ e ∈ o.after, Region.binds md e = true → e.on < i)
    (hput : ∀ i o xs v, ops[i]? = some o → (act xs).put o.dst v = act (fun j => if j = i then v else xs j))
    (hop : ∀ i o, ops[i]? = some o → ∀ xs w, R w0 w → (∀ e ∈ o.after, Region.binds md e = true → G e.on (xs e.on) w) → wpList P ops (FlowEnd (act xs) o R (G i) w) [o] (act xs) w)
    (hend : ∀ xs w, R w0 w → (∀ i, i < ops.size → G i (xs i) w) → Q .normal (act xs) w) :
    ∀ (f : Nat) (listed : Array Bool) (xs : Nat → Value) (w : World), R w0 w → listed.size = ops.size → listed.toList.count false ≤ f → (∀ i, i < ops.size → listed.getD i true = true → G i (xs i) w) → wpAny P md ops Q f listed (act xs) w := by
  have hnone : ∀ (listed : Array Bool), listed.size = ops.size → Region.ready md ops listed = [] → ∀ i, i < ops.size → listed.getD i true = true := by
    intro listed hs hr i
    induction i using Nat.strongRecOn with
    | _ i ih =>
      intro hi
      cases hl : listed.getD i true with
      | true => rfl
      | false =>
        have : i ∈ Region.ready md ops listed := by
          refine mem_ready.2 ⟨hl, ops[i], by simp [hi], fun e he hb => ?_⟩
          have hlt := hwf i ops[i] (by simp [hi]) e he hb
          have h1 := ih e.on hlt (by omega)
          have h2 : e.on < listed.size := by omega
          simp only [Array.getD_eq_getD_getElem?, Array.getElem?_eq_getElem h2, Option.getD_some] at h1 ⊢
          exact h1
        rw [hr] at this
        cases this
  intro f
  induction f with
  | zero =>
    intro listed xs w hw hs hc hg
    have hall : ∀ i, i < ops.size → listed.getD i true = true := by
      intro i hi
      cases hl : listed.getD i true with
      | true => rfl
      | false =>
        have h2 : i < listed.size := by omega
        have h3 : listed[i] = false := by simpa [Array.getD_eq_getD_getElem?, Array.getElem?_eq_getElem h2] using hl
        have : false ∈ listed.toList := by rw [← h3]; simp
        have := List.count_pos_iff.2 this
        omega
    refine ⟨?_, hend xs w hw fun i hi => hg i hi (hall i hi)⟩
    cases hr : Region.ready md ops listed with
    | nil => rfl
    | cons i r =>
      have hm : i ∈ Region.ready md ops listed := by rw [hr]; simp
      obtain ⟨hun, o, ho, _⟩ := mem_ready.1 hm
      have := hall i (Array.getElem?_eq_some_iff.1 ho).1
      rw [hun] at this
      cases this
  | succ f ih =>
    intro listed xs w hw hs hc hg
    refine ⟨fun hr => hend xs w hw fun i hi => hg i hi (hnone listed hs hr i hi), fun i hi => ?_⟩
    obtain ⟨hun, o, ho, hall⟩ := mem_ready.1 hi
    have hilt := (Array.getElem?_eq_some_iff.1 ho).1
    refine wpOp_of_one ho (fun a' w' h => ?_) (fun e a' w' h => h.1) (hop i o ho xs w hw fun e he hb => ?_)
    · obtain ⟨_, v, rfl, hww, hv⟩ := h
      rw [hput i o xs v ho]
      refine ih _ _ w' (hR _ _ _ hw hww) (by simpa using hs) ?_ fun j hj hl => ?_
      · have h2 : i < listed.size := by omega
        have h3 : listed[i] = false := by simpa [Array.getD_eq_getD_getElem?, Array.getElem?_eq_getElem h2] using hun
        have := count_set_lt listed.toList i (by simp [h2, h3])
        rw [Array.toList_setIfInBounds]
        omega
      · by_cases hji : j = i
        · subst hji
          simpa using hv
        · rw [getD_set_ne true (Ne.symm hji)] at hl
          simp only [if_neg hji]
          exact hG j _ w w' hw hww (hg j hj hl)
    · have h1 := hall e he hb
      have h2 : e.on < ops.size := by have := hwf i o ho e he hb; omega
      refine hg e.on h2 ?_
      have h3 : e.on < listed.size := by omega
      simp only [Array.getD_eq_getD_getElem?, Array.getElem?_eq_getElem h3, Option.getD_some] at h1 ⊢
      exact h1

/-- What is known of the slots: those that the region writes have the values 'xs'. -/
def flowAct (a : Act) (srcs : List (Option Nat)) (xs : Nat → Value) : Act :=
  { a with tmps := (List.zipWith (fun t s => match s with | some i => xs i | none => t) a.tmps.toList srcs).toArray }
def flowB (md : Region.Mode) (ops : Array Oper) (srcs : List (Option Nat)) : Bool :=
  (List.range ops.size).all fun i => ((ops[i]?).map (fun o => (o.after.all fun e => !Region.binds md e || decide (e.on < i)) &&
    (List.range srcs.length).all fun s => decide ((srcs.getD s none = some i) ↔ (o.dst = some s)))).getD true
theorem flowB_spec {srcs : List (Option Nat)} (h : flowB md ops srcs = true) {i : Nat} {o : Oper} (ho : ops[i]? = some o) :
    (∀ e ∈ o.after, Region.binds md e = true → e.on < i) ∧ ∀ s, s < srcs.length → (srcs.getD s none = some i ↔ o.dst = some s) := by
  have h1 := List.all_eq_true.1 h i (List.mem_range.2 (Array.getElem?_eq_some_iff.1 ho).1)
  simp only [ho, Option.map_some, Option.getD_some, Bool.and_eq_true] at h1
  refine ⟨fun e he hb => ?_, fun s hs => ?_⟩
  · have h2 := (Array.all_eq_true_iff_forall_mem.1 h1.1) e he
    simpa [hb] using h2
  · have h2 := List.all_eq_true.1 h1.2 s (List.mem_range.2 hs)
    simpa using h2
theorem flowAct_put {a : Act} {srcs : List (Option Nat)} (hB : flowB md ops srcs = true) (hl : a.tmps.size = srcs.length) {i : Nat} {o : Oper} (ho : ops[i]? = some o) (xs : Nat → Value) (v : Value) :
    (flowAct a srcs xs).put o.dst v = flowAct a srcs (fun j => if j = i then v else xs j) := by
  have hs := (flowB_spec hB ho).2
  have key : ∀ (d : Option Tmp), o.dst = d → (match d with | some d => { flowAct a srcs xs with tmps := (flowAct a srcs xs).tmps.setIfInBounds d v } | none => flowAct a srcs xs) = flowAct a srcs (fun j => if j = i then v else xs j) := by
    intro d hd
    cases d with
    | none =>
      simp only [flowAct]
      congr 2
      apply List.ext_getElem?
      intro s
      simp only [List.getElem?_zipWith]
      by_cases hlt : s < srcs.length
      · have h1 := hs s hlt
        rw [hd] at h1
        have h2 : ¬ srcs.getD s none = some i := fun h => by cases h1.1 h
        rw [List.getElem?_eq_getElem hlt]
        rw [List.getD_eq_getElem?_getD, List.getElem?_eq_getElem hlt] at h2
        simp only [Option.getD_some] at h2
        cases a.tmps.toList[s]? with
        | none => rfl
        | some t =>
          cases hx : srcs[s] with
          | none => rfl
          | some j =>
            rw [hx] at h2
            have : j ≠ i := fun h => h2 (by rw [h])
            simp [this]
      · rw [List.getElem?_eq_none (l := srcs) (by omega)]
        cases a.tmps.toList[s]? <;> rfl
    | some d =>
      simp only [flowAct, List.setIfInBounds_toArray]
      congr 2
      apply List.ext_getElem?
      intro s
      by_cases hlt : s < srcs.length
      · have h1 := hs s hlt
        rw [hd] at h1
        have hta : s < a.tmps.toList.length := by simpa [hl] using hlt
        rw [List.getD_eq_getElem?_getD, List.getElem?_eq_getElem hlt] at h1
        simp only [Option.getD_some] at h1
        by_cases hsd : d = s
        · subst hsd
          rw [List.getElem?_set_self (by rw [List.length_zipWith]; exact Nat.lt_min.2 ⟨hta, hlt⟩)]
          rw [List.getElem?_zipWith, List.getElem?_eq_getElem hlt, List.getElem?_eq_getElem hta]
          simp [h1.2 rfl]
        · rw [List.getElem?_set_ne hsd]
          simp only [List.getElem?_zipWith, List.getElem?_eq_getElem hlt, List.getElem?_eq_getElem hta]
          cases hx : srcs[s] with
          | none => rfl
          | some j =>
            rw [hx] at h1
            have : j ≠ i := fun h => hsd (by have := h1.1 (by rw [h]); simpa using this)
            simp [this]
      · rw [List.getElem?_eq_none (by simp; omega), List.getElem?_eq_none (by simp; omega)]
  have := key o.dst rfl
  unfold Act.put
  exact this

def flowNeeds (md : Region.Mode) (Gs : List (Value → World → Prop)) (xs : Nat → Value) (w : World) : List Edge → Prop
  | [] => True
  | e :: l => (Region.binds md e = true → (Gs.getD e.on fun _ _ => True) (xs e.on) w) ∧ flowNeeds md Gs xs w l
def flowOps (P : Program) (md : Region.Mode) (ops : Array Oper) (a : Act) (srcs : List (Option Nat)) (Gs : List (Value → World → Prop)) (w0 : World) : List Oper → Nat → Prop
  | [], _ => True
  | o :: l, k => (∀ xs w, Below w0.heap.size w0 w → flowNeeds md Gs xs w o.after.toList → wpList P ops (FlowEnd (flowAct a srcs xs) o (fun x y => Below x.heap.size x y) (Gs.getD k fun _ _ => True) w) [o] (flowAct a srcs xs) w) ∧ flowOps P md ops a srcs Gs w0 l (k + 1)
def flowAll (xs : Nat → Value) (w : World) : List (Value → World → Prop) → Nat → Prop
  | [], _ => True
  | g :: l, k => g (xs k) w ∧ flowAll xs w l (k + 1)
theorem flowNeeds_of {Gs : List (Value → World → Prop)} {xs : Nat → Value} {w : World} : ∀ (l : List Edge), (∀ e ∈ l, Region.binds md e = true → (Gs.getD e.on fun _ _ => True) (xs e.on) w) → flowNeeds md Gs xs w l
  | [], _ => trivial
  | e :: l, h => ⟨h e (by simp), flowNeeds_of l fun e' he => h e' (by simp [he])⟩
theorem flowOps_get {a : Act} {srcs : List (Option Nat)} {Gs : List (Value → World → Prop)} {w0 : World} : ∀ (l : List Oper) (k : Nat), flowOps P md ops a srcs Gs w0 l k → ∀ i o, l[i]? = some o →
    ∀ xs w, Below w0.heap.size w0 w → flowNeeds md Gs xs w o.after.toList → wpList P ops (FlowEnd (flowAct a srcs xs) o (fun x y => Below x.heap.size x y) (Gs.getD (k + i) fun _ _ => True) w) [o] (flowAct a srcs xs) w
  | [], _, _, i, o, h => by simp at h
  | o' :: l, k, hh, 0, o, h => by
    obtain rfl : o' = o := by simpa using h
    exact hh.1
  | o' :: l, k, hh, i + 1, o, h => by
    have := flowOps_get l (k + 1) hh.2 i o (by simpa using h)
    rwa [show k + 1 + i = k + (i + 1) by omega] at this
theorem flowAll_of {xs : Nat → Value} {w : World} : ∀ (l : List (Value → World → Prop)) (k : Nat), (∀ i, i < l.length → (l.getD i fun _ _ => True) (xs (k + i)) w) → flowAll xs w l k
  | [], _, _ => trivial
  | g :: l, k, h => ⟨by simpa using h 0 (by simp), flowAll_of l (k + 1) fun i hi => by
      have := h (i + 1) (by simpa using hi)
      rw [show k + 1 + i = k + (i + 1) by omega]
      simpa using this⟩
theorem wp_region_flow {id : Nat} {Q : Exit → Act → World → Prop} {l : List Oper} {a : Act} {w : World} (srcs : List (Option Nat)) (xs0 : Nat → Value) (Gs : List (Value → World → Prop)) (hm : P.follows .mixedOrders = true)
    (hB : flowB .any l.toArray srcs = true) (hl : a.tmps.size = srcs.length) (h0 : flowAct a srcs xs0 = a) (hn : Gs.length = l.length)
    (hG : ∀ g ∈ Gs, ∀ v x y, Below w.heap.size w x → Below x.heap.size x y → g v x → g v y)
    (hops : flowOps P .any l.toArray a srcs Gs w l 0)
    (hend : ∀ xs w', Below w.heap.size w w' → flowAll xs w' Gs 0 → Q .normal (flowAct a srcs xs) w') : (Code.region id l.toArray true).wp P Q a w := by
  refine wp_region_any hm ?_
  have := wpAny_flow (P := P) (ops := l.toArray) (md := .any) (Q := Q) (flowAct a srcs) (fun x y => Below x.heap.size x y) (fun i => Gs.getD i fun _ _ => True) w
    (fun a b c h1 h2 => h1.trans (h2.mono h1.size)) (fun i v x y h1 h2 h3 => ?_) (fun i o ho => (flowB_spec hB ho).1) (fun i o xs v ho => flowAct_put hB hl ho xs v)
    (fun i o ho xs x hx hn => by
      have := flowOps_get l 0 hops i o (by simpa using ho) xs x hx (flowNeeds_of _ fun e he hb => hn e (by simpa using he) hb)
      rwa [Nat.zero_add] at this)
    (fun xs x hx hg => hend xs x hx (flowAll_of Gs 0 fun i hi => by rw [Nat.zero_add]; exact hg i (by simpa using (by omega : i < l.length))))
    l.toArray.size (Array.replicate l.toArray.size false) xs0 { w with drawn := w.drawn + 1 } ⟨rfl, rfl, rfl, Nat.le_refl _, fun _ _ => rfl⟩ (by simp) (by simp) (fun i hi hl => by
      exfalso
      rw [Array.getD_eq_getD_getElem?, Array.getElem?_eq_getElem (by simpa using hi)] at hl
      simp at hl)
  · rwa [h0] at this
  · by_cases hi : i < Gs.length
    · have hm := List.getElem_mem hi
      rw [List.getD_eq_getElem?_getD, List.getElem?_eq_getElem hi] at h3 ⊢
      exact hG _ hm v x y h1 h2 h3
    · rw [List.getD_eq_getElem?_getD, List.getElem?_eq_none (by omega)]
      trivial
end
end Go.Proofs.YtfkmfccdhmnllaaDoor
end

section
namespace Go.Proofs.YtfkmfccdhmnllaaDoor
open Go Go.RowKit
set_option linter.unusedVariables false

section
variable {P : Program} {ops : Array Oper} {md : Region.Mode}

theorem count_set_one (l : List Bool) (i : Nat) (h : l[i]? = some false) : (l.set i true).count false + 1 = l.count false := by
  induction l generalizing i with
  | nil => simp at h
  | cons b l ih =>
    cases i with
    | zero =>
      have : b = false := by simpa using h
      subst this
      simp
    | succ i =>
      have := ih i (by simpa using h)
      cases b <;> simp <;> omega

def headDone (n m : Nat) : Array Bool := Array.replicate n true ++ Array.replicate m false
theorem headDone_of {n : Nat} {listed : Array Bool} (hn : n < ops.size) (inv : HeadInv md ops n listed) (hall : ∀ i, i < n → listed.getD i true = true) : listed = headDone n (ops.size - n) := by
  have hs := inv.size
  apply Array.ext
  · simp [headDone]; omega
  · intro i h1 h2
    by_cases hi : i < n
    · have := hall i hi
      simp only [Array.getD_eq_getD_getElem?, Array.getElem?_eq_getElem h1, Option.getD_some] at this
      rw [this]
      simp [headDone, hi]
    · have := inv.tail i (by omega) (by omega)
      simp only [Array.getD_eq_getD_getElem?, Array.getElem?_eq_getElem h1, Option.getD_some] at this
      rw [this]
      simp [headDone, Array.getElem_append, hi]

/-- How one operation of the head ends; those of 'Fr' leave what none of the others of 'Fr' has. -/
def FlowEndF (a : Act) (o : Oper) (R : World → World → Prop) (G : Nat → Value → World → Prop) (Fr : Nat → Prop) (i : Nat) (w : World) (e : Exit) (a' : Act) (w' : World) : Prop :=
  e = .normal ∧ ∃ v, a' = a.put o.dst v ∧ R w w' ∧ G i v w' ∧ (Fr i → ∀ j, Fr j → ∀ u, G j u w → u ≠ v)

theorem wpAny_flow_tail {Q : Exit → Act → World → Prop} (act : (Nat → Value) → Act) (R : World → World → Prop) (G : Nat → Value → World → Prop) (Fr : Nat → Prop) (w0 : World) (n : Nat) (l : List Oper) (hl : l.toArray = ops)
    (hn : n < ops.size) (hs : Region.sinkB md ops n = true) (hc : Region.chainB md ops n = true) (hseq : Region.seqB md ops (ops.size - n) n (headDone n (ops.size - n)) = true)
    (hR : ∀ a b c, R a b → R b c → R a c) (hG : ∀ i v w w', R w0 w → R w w' → G i v w → G i v w')
    (hwf : ∀ i o, ops[i]? = some o → i < n → ∀ e ∈ o.after, Region.binds md e = true → e.on < i)
    (hput : ∀ i o xs v, ops[i]? = some o → i < n → (act xs).put o.dst v = act (fun j => if j = i then v else xs j))
    (hop : ∀ i o, ops[i]? = some o → i < n → ∀ xs w, R w0 w → (∀ e ∈ o.after, Region.binds md e = true → G e.on (xs e.on) w) → wpList P ops (FlowEndF (act xs) o R G Fr i w) [o] (act xs) w)
    (hend : ∀ xs w, R w0 w → (∀ i, i < n → G i (xs i) w) → (∀ i j, i < n → j < n → i ≠ j → Fr i → Fr j → xs i ≠ xs j) → wpList P ops Q (l.drop n) (act xs) w) :
    ∀ (f : Nat) (listed : Array Bool) (xs : Nat → Value) (w : World), R w0 w → HeadInv md ops n listed → listed.toList.count false = f → (∀ i, i < n → listed.getD i true = true → G i (xs i) w) →
      (∀ i j, i < n → j < n → i ≠ j → Fr i → Fr j → listed.getD i true = true → listed.getD j true = true → xs i ≠ xs j) → wpAny P md ops Q f listed (act xs) w := by
  intro f
  induction f with
  | zero =>
    intro listed xs w hw inv hcn hg hfr
    exfalso
    have hsz := inv.size
    have h1 := inv.tail n (Nat.le_refl _) hn
    have h2 : n < listed.size := by omega
    simp only [Array.getD_eq_getD_getElem?, Array.getElem?_eq_getElem h2, Option.getD_some] at h1
    have : false ∈ listed.toList := by rw [← h1]; simp
    have := List.count_pos_iff.2 this
    omega
  | succ f ih =>
    intro listed xs w hw inv hcn hg hfr
    have hsz := inv.size
    by_cases hall : ∀ i, i < n → listed.getD i true = true
    · have hd := headDone_of hn inv hall
      have hcount : (headDone n (ops.size - n)).toList.count false = ops.size - n := by
        simp [headDone, List.count_replicate]
      rw [hd, hcount] at hcn
      have hlen : (l.drop n).length = ops.size - n := by rw [← hl]; simp
      have := wpAny_of_seq (P := P) (md := md) (ops := ops) (Q' := Q) (l.drop n) n (headDone n (ops.size - n)) (act xs) w (fun j => by rw [← hl]; simp [List.getElem?_drop]) (by rw [hlen]; exact hseq) (hend xs w hw (fun i hi => hg i hi (hall i hi)) fun i j hi hj hne fi fj => hfr i j hi hj hne fi fj (hall i hi) (hall j hj))
      rw [hlen] at this
      rw [hd]
      rw [hcn] at this ⊢
      exact this
    · have hex : ∃ i, i < n ∧ listed.getD i true = false := by
        apply Classical.byContradiction
        intro hne
        apply hall
        intro i hi
        cases hx : listed.getD i true with
        | true => rfl
        | false => exact absurd ⟨i, hi, hx⟩ hne
      refine ⟨fun hr => ?_, fun i hi => ?_⟩
      · exfalso
        apply hall
        intro i
        induction i using Nat.strongRecOn with
        | _ i ihi =>
          intro hi
          cases hlx : listed.getD i true with
          | true => rfl
          | false =>
            have hio : i < ops.size := by omega
            have : i ∈ Region.ready md ops listed := by
              refine mem_ready.2 ⟨hlx, ops[i], by simp [hio], fun e he hb => ?_⟩
              have hlt := hwf i ops[i] (by simp [hio]) hi e he hb
              have h1 := ihi e.on hlt (by omega)
              have h2 : e.on < listed.size := by omega
              simp only [Array.getD_eq_getD_getElem?, Array.getElem?_eq_getElem h2, Option.getD_some] at h1 ⊢
              exact h1
            rw [hr] at this
            cases this
      · obtain ⟨i0, hi0, hx0⟩ := hex
        have hin : i < n := Nat.lt_of_not_le fun h => tail_waits hs hc hn inv (n - i0) i0 rfl hi0 hx0 i h hi
        obtain ⟨hun, o, ho, hdep⟩ := mem_ready.1 hi
        have hilt := (Array.getElem?_eq_some_iff.1 ho).1
        refine wpOp_of_one ho (fun a' w' h => ?_) (fun e a' w' h => h.1) (hop i o ho hin xs w hw fun e he hb => ?_)
        · obtain ⟨_, v, rfl, hww, hv, hfv⟩ := h
          rw [hput i o xs v ho hin]
          refine ih _ _ w' (hR _ _ _ hw hww) (inv.set hi hin) ?_ (fun j hj hlj => ?_) fun j k hj hk hne fj fk lj lk => ?_
          · have h2 : i < listed.size := by omega
            have h3 : listed[i] = false := by simpa [Array.getD_eq_getD_getElem?, Array.getElem?_eq_getElem h2] using hun
            have := count_set_one listed.toList i (by simp [h2, h3])
            rw [Array.toList_setIfInBounds]
            omega
          · by_cases hji : j = i
            · subst hji
              simpa using hv
            · rw [getD_set_ne true (Ne.symm hji)] at hlj
              simp only [if_neg hji]
              exact hG j _ w w' hw hww (hg j hj hlj)
          · by_cases hji : j = i
            · subst hji
              rw [getD_set_ne true hne] at lk
              simp only [if_neg (Ne.symm hne)]
              exact (hfv fj k fk _ (hg k hk lk)).symm
            · rw [getD_set_ne true (Ne.symm hji)] at lj
              by_cases hki : k = i
              · subst hki
                simp only [if_neg hne]
                exact hfv fk j fj _ (hg j hj lj)
              · rw [getD_set_ne true (Ne.symm hki)] at lk
                simp only [if_neg hji, if_neg hki]
                exact hfr j k hj hk hne fj fk lj lk
        · have h1 := hdep e he hb
          have hlt := hwf i o ho hin e he hb
          refine hg e.on (by omega) ?_
          have h3 : e.on < listed.size := by omega
          simp only [Array.getD_eq_getD_getElem?, Array.getElem?_eq_getElem h3, Option.getD_some] at h1 ⊢
          exact h1

def flowTB (md : Region.Mode) (ops : Array Oper) (n : Nat) (srcs : List (Option Nat)) : Bool :=
  (List.range n).all fun i => ((ops[i]?).map (fun o => (o.after.all fun e => !Region.binds md e || decide (e.on < i)) &&
    (List.range srcs.length).all fun s => decide ((srcs.getD s none = some i) ↔ (o.dst = some s)))).getD true
theorem flowTB_take {l : List Oper} {n : Nat} {srcs : List (Option Nat)} (h : flowTB md l.toArray n srcs = true) : flowB md (l.take n).toArray srcs = true := by
  refine List.all_eq_true.2 fun i hi => ?_
  have hlt : i < (l.take n).length := by simpa using List.mem_range.1 hi
  have h1 := List.all_eq_true.1 h i (List.mem_range.2 (by simp at hlt; omega))
  have e : (l.take n).toArray[i]? = l.toArray[i]? := by simp [List.getElem?_take]; intro hh; simp at hlt; omega
  rw [e]
  exact h1

def flowOpsF (P : Program) (md : Region.Mode) (ops : Array Oper) (a : Act) (srcs : List (Option Nat)) (Gs : List (Value → World → Prop)) (Fr : Nat → Prop) (w0 : World) : List Oper → Nat → Prop
  | [], _ => True
  | o :: l, k => (∀ xs w, Below w0.heap.size w0 w → flowNeeds md Gs xs w o.after.toList → wpList P ops (FlowEndF (flowAct a srcs xs) o (fun x y => Below x.heap.size x y) (fun i => Gs.getD i fun _ _ => True) Fr k w) [o] (flowAct a srcs xs) w) ∧ flowOpsF P md ops a srcs Gs Fr w0 l (k + 1)
theorem flowOpsF_get {a : Act} {srcs : List (Option Nat)} {Gs : List (Value → World → Prop)} {Fr : Nat → Prop} {w0 : World} : ∀ (l : List Oper) (k : Nat), flowOpsF P md ops a srcs Gs Fr w0 l k → ∀ i o, l[i]? = some o →
    ∀ xs w, Below w0.heap.size w0 w → flowNeeds md Gs xs w o.after.toList → wpList P ops (FlowEndF (flowAct a srcs xs) o (fun x y => Below x.heap.size x y) (fun i => Gs.getD i fun _ _ => True) Fr (k + i) w) [o] (flowAct a srcs xs) w
  | [], _, _, i, o, h => by simp at h
  | o' :: l, k, hh, 0, o, h => by
    obtain rfl : o' = o := by simpa using h
    exact hh.1
  | o' :: l, k, hh, i + 1, o, h => by
    have := flowOpsF_get l (k + 1) hh.2 i o (by simpa using h)
    rwa [show k + 1 + i = k + (i + 1) by omega] at this

theorem wp_region_flow_tail {id : Nat} {Q : Exit → Act → World → Prop} {l : List Oper} {a : Act} {w : World} (n : Nat) (srcs : List (Option Nat)) (xs0 : Nat → Value) (Gs : List (Value → World → Prop)) (Fr : Nat → Prop) (hm : P.follows .mixedOrders = true)
    (hB : flowTB .any l.toArray n srcs = true) (hT : (decide (n < l.toArray.size) && Region.sinkB .any l.toArray n && Region.chainB .any l.toArray n && Region.seqB .any l.toArray (l.toArray.size - n) n (headDone n (l.toArray.size - n))) = true)
    (hl : a.tmps.size = srcs.length) (h0 : flowAct a srcs xs0 = a) (hn : Gs.length = n)
    (hG : ∀ g ∈ Gs, ∀ v x y, Below w.heap.size w x → Below x.heap.size x y → g v x → g v y)
    (hops : flowOpsF P .any l.toArray a srcs Gs Fr w (l.take n) 0)
    (hend : ∀ xs w', Below w.heap.size w w' → flowAll xs w' Gs 0 → (∀ i j, i < n → j < n → i ≠ j → Fr i → Fr j → xs i ≠ xs j) → wpList P l.toArray Q (l.drop n) (flowAct a srcs xs) w') : (Code.region id l.toArray true).wp P Q a w := by
  simp only [Bool.and_eq_true, decide_eq_true_eq] at hT
  obtain ⟨⟨⟨t1, t2⟩, t3⟩, t4⟩ := hT
  have hB' := flowTB_take hB
  have tk : ∀ i o, l.toArray[i]? = some o → i < n → (l.take n).toArray[i]? = some o := fun i o ho hi => by
    simp only [List.getElem?_toArray] at ho ⊢
    rw [List.getElem?_take, if_pos hi]
    exact ho
  refine wp_region_any hm ?_
  have := wpAny_flow_tail (P := P) (ops := l.toArray) (md := .any) (Q := Q) (flowAct a srcs) (fun x y => Below x.heap.size x y) (fun i => Gs.getD i fun _ _ => True) Fr w n l rfl t1 t2 t3 t4
    (fun a b c h1 h2 => h1.trans (h2.mono h1.size)) (fun i v x y h1 h2 h3 => ?_) (fun i o ho hi => (flowB_spec hB' (tk i o ho hi)).1) (fun i o xs v ho hi => flowAct_put hB' hl (tk i o ho hi) xs v)
    (fun i o ho hi xs x hx hn => by
      have := flowOpsF_get (l.take n) 0 hops i o (by simpa using tk i o ho hi) xs x hx (flowNeeds_of _ fun e he hb => hn e (by simpa using he) hb)
      rwa [Nat.zero_add] at this)
    (fun xs x hx hg hf => hend xs x hx (flowAll_of Gs 0 fun i hi => by rw [Nat.zero_add]; exact hg i (by omega)) hf)
    l.toArray.size (Array.replicate l.toArray.size false) xs0 { w with drawn := w.drawn + 1 } ⟨rfl, rfl, rfl, Nat.le_refl _, fun _ _ => rfl⟩
    ⟨by simp, fun j oj hj hl => (by rw [getD_replicate_false] at hl; cases hl), fun t _ ht => by
      rw [Array.getD_eq_getD_getElem?, Array.getElem?_eq_getElem (by simpa using ht)]; simp⟩ (by simp) (fun i hi hl => by
      exfalso
      rw [Array.getD_eq_getD_getElem?, Array.getElem?_eq_getElem (by simp at t1 ⊢; omega)] at hl
      simp at hl) (fun i j hi hj hne fi fj li lj => by
      exfalso
      rw [Array.getD_eq_getD_getElem?, Array.getElem?_eq_getElem (by simp at t1 ⊢; omega)] at li
      simp at li)
  · rwa [h0] at this
  · by_cases hi : i < Gs.length
    · have hm := List.getElem_mem hi
      rw [List.getD_eq_getElem?_getD, List.getElem?_eq_getElem hi] at h3 ⊢
      exact hG _ hm v x y h1 h2 h3
    · rw [List.getD_eq_getElem?_getD, List.getElem?_eq_none (by omega)]
      trivial
end
end Go.Proofs.YtfkmfccdhmnllaaDoor
end

section
namespace Go.Proofs.YtfkmfccdhmnllaaDoor
open Go.RowKit Go Go.Sort
set_option linter.unusedVariables false
set_option maxRecDepth 20000

def sgood (n s : Int) : Bool := decide ((n = 0 ∧ s = 0) ∨ (1 ≤ n ∧ n ≤ 281474976710656 ∧ (s = 1 ∨ s = 2)))
def scode (n s : Int) : Int := if n = 0 then 0 else 2 * n + s - 1
theorem size2s (a b : Int) : (Tryd.prog.info? 24).map (·.size) = some (#[Value.int .i64 a, Value.int .i64 b] : Array Value).size := by
  show _ = some 2
  kernel_rfl
set_option maxHeartbeats 1600000 in
theorem rsgood_c (n s : Int) (w : World) : Calls Tryd.prog 37 #[.agg #[.int .i64 n, .int .i64 s]] w (Tells (.bool (sgood n s)) w) := by
  have hp := Pair.new w 24 n s
  have hb := alloc_below w (.cells #[.int .i64 n, .int .i64 s] 24)
  have h0 := hp.c0
  have h1 := hp.c1
  have HB := Lib.hid hb
  have HV := Lib.hid (show sgood n s = decide ((n = 0 ∧ s = 0) ∨ (1 ≤ n ∧ n ≤ 281474976710656 ∧ (s = 1 ∨ s = 2))) from rfl)
  clear hp hb
  by_cases n0 : n = 0
  · subst n0
    by_cases s0 : s = 0
    · subst s0
      go_enter Tryd.func37, Tryd.ntmps37
      go_wp2
      go_ret
      exact ⟨by rw [HV.out]; simp; try omega, HB.out⟩
    · have e0 : (s == 0) = false := by simpa using s0
      go_enter Tryd.func37, Tryd.ntmps37
      go_wp2
      go_ret
      exact ⟨by rw [HV.out]; simp; try omega, HB.out⟩
  · have e0 : (n == 0) = false := by simpa using n0
    by_cases n1 : 1 ≤ n
    · by_cases n2 : n ≤ 281474976710656
      · by_cases s1 : s = 1
        · subst s1
          go_enter Tryd.func37, Tryd.ntmps37
          go_wp2
          go_ret
          exact ⟨by rw [HV.out]; simp; try omega, HB.out⟩
        · have e1 : (s == 1) = false := by simpa using s1
          by_cases s2 : s = 2
          · subst s2
            go_enter Tryd.func37, Tryd.ntmps37
            go_wp2
            go_ret
            exact ⟨by rw [HV.out]; simp; try omega, HB.out⟩
          · have e2 : (s == 2) = false := by simpa using s2
            go_enter Tryd.func37, Tryd.ntmps37
            go_wp2
            go_ret
            exact ⟨by rw [HV.out]; simp; try omega, HB.out⟩
      · go_enter Tryd.func37, Tryd.ntmps37
        go_wp2
        go_ret
        exact ⟨by rw [HV.out]; simp; try omega, HB.out⟩
    · go_enter Tryd.func37, Tryd.ntmps37
      go_wp2
      go_ret
      exact ⟨by rw [HV.out]; simp; try omega, HB.out⟩
set_option maxHeartbeats 1600000 in
theorem rscode_c (n s : Int) (hg : sgood n s = true) (w : World) : Calls Tryd.prog 93 #[.agg #[.int .i64 n, .int .i64 s]] w (Tells (.int .i64 (scode n s)) w) := by
  have hp := Pair.new w 24 n s
  have hb := alloc_below w (.cells #[.int .i64 n, .int .i64 s] 24)
  have h0 := hp.c0
  have h1 := hp.c1
  have HB := Lib.hid hb
  have HV := Lib.hid (show scode n s = if n = 0 then 0 else 2 * n + s - 1 from rfl)
  have hgd : (n = 0 ∧ s = 0) ∨ (1 ≤ n ∧ n ≤ 281474976710656 ∧ (s = 1 ∨ s = 2)) := by simpa [sgood] using hg
  clear hp hb hg
  by_cases e : n = 0
  · subst e
    go_enter Tryd.func93, Tryd.ntmps93
    go_wp2
    go_ret
    exact ⟨by rw [HV.out]; rfl, HB.out⟩
  · have e0 : (n == 0) = false := by simpa using e
    have b1 : 1 ≤ n ∧ n ≤ 281474976710656 ∧ 1 ≤ s ∧ s ≤ 2 := by omega
    clear hgd
    go_enter Tryd.func93, Tryd.ntmps93
    go_wp2
    go_ret
    exact ⟨by rw [HV.out, if_neg e]; rfl, HB.out⟩
/-- Bytes with a stamp behind them. -/
def sputS (l : List UInt8) (n s : Int) : List UInt8 := if sgood n s = true then l ++ numB (scode n s) else l
/-- The stamp with which bytes begin. -/
def sgetS (l : List UInt8) : (Int × Int) × Int × Int :=
  if ¬ (getS l).2.2 = 0 then ((0, 0), 0, (getS l).2.2)
  else if (getS l).1 = 0 then ((0, 0), (getS l).2.1, 0)
  else if sgood ((getS l).1 / 2) (1 + (getS l).1 % 2) = true then (((getS l).1 / 2, 1 + (getS l).1 % 2), (getS l).2.1, 0) else ((0, 0), 0, 11)
theorem res_cell_tmp2 {P : Program} {fn : Func} {p q r : Tmp} {ty : TypeId} (h : fn.results = #[.cell p ty, .tmp q, .tmp r]) (tmps : Array Value) (w : World) (g : Nat) (t : TypeId) (cs : Array Value) (fr : Nat × Nat) (d : TypeDesc) (v u : Value)
    (hp : tmps.getD p undef = .pointer (some ⟨g, 0, none⟩)) (hq : tmps.getD q undef = v) (hr : tmps.getD r undef = u) (hg : w.heap[g]? = some (.cells cs t fr))
    (hu : P.underlying ty = some d) (hd : (match d with | .struct _ | .array _ _ => true | _ => false) = true) (hi : (P.info? ty).map (·.size) = some cs.size) :
    (results fn tmps).run P w = .ok (.tuple #[.agg cs, v, u]) w := by
  have hp' : tmps[p]?.getD undef = .pointer (some ⟨g, 0, none⟩) := by simpa using hp
  have hq' : tmps[q]?.getD undef = v := by simpa using hq
  have hr' : tmps[r]?.getD undef = u := by simpa using hr
  simp [results, h, hp', hq', hr', asAddr, run_loadVar_row w g t ty cs fr d hg hu hd hi]
set_option maxHeartbeats 1600000 in
theorem rsput_c {w : World} {a : Option Addr} {m cap : Nat} {l : List UInt8} (hl : Bys w a m cap l) (hn : m ≤ 1000000) (n s : Int) :
    Calls Tryd.prog 54 #[.slice a m cap, .agg #[.int .i64 n, .int .i64 s]] w (BytesPost (sputS l n s) w) := by
  obtain ⟨i0, hi, hz0, hz1, hz2⟩ := info_parts Tryd.info5
  have hp := Pair.new w 24 n s
  have hb := alloc_below w (.cells #[.int .i64 n, .int .i64 s] 24)
  have HL := Lib.hid (hl.below hb)
  have HP := Lib.hid hp
  have HB := Lib.hid hb
  have G := rsgood_c n s
  have C := rscode_c n s
  have l0 := HP.out.c0
  have l1 := HP.out.c1
  have HV := Lib.hid (show sputS l n s = if sgood n s = true then l ++ numB (scode n s) else l from rfl)
  clear hp hb hl
  cases hg : sgood n s with
  | false =>
    rw [hg] at G
    have HG := Lib.hid G
    have hv : sputS l n s = l := by rw [HV.out, if_neg (by simp [hg])]
    rw [hv]
    clear hv HV G C hg
    go_enter Tryd.func54, Tryd.ntmps54
    go_upto_region 1 with (fail)
    generalize w.alloc (.cells #[.int .i64 n, .int .i64 s] 24) = W1 at *
    go_upto_region 2 with (go_at_call 37; (with_reducible refine (HG.out _).mono ?_); rintro e w1 ⟨rfl, hb1⟩)
    have HB1 := Lib.hid (HB.out.trans (hb1.mono HB.out.size))
    have hla := (HL.out.below hb1).below (alloc_below w1 (.cells #[] 5))
    have hoe := OwnB.empty w1 w1.heap.size 5 (Nat.le_refl _)
    clear hb1 l0 l1 HP HL HB
    go_wp2_with (at_builtin; refine wpList_append_bys rfl (.tmp 8) (.tmp 9) 50 rfl Tryd.underlying50 hi hz0 hz1 hz2 rfl rfl hoe rfl hla (by simp; omega) (by simp) ?_; intro v1 w2 ho1 hg1)
    have b1 : Below w1.heap.size w1 w2 := ((Below.refl w1.heap.size w1).alloc (Nat.le_refl _) (.cells #[] 5)).grown hg1 (by simp) (fun k hk => (hoe.lt k hk).1)
    rw [List.nil_append] at ho1
    go_ret
    exact ⟨_, rfl, ho1.mono HB1.out.size, HB1.out.trans (b1.mono HB1.out.size)⟩
  | true =>
    rw [hg] at G
    have hgd : (n = 0 ∧ s = 0) ∨ (1 ≤ n ∧ n ≤ 281474976710656 ∧ (s = 1 ∨ s = 2)) := by simpa [sgood] using hg
    have hbd : 0 ≤ scode n s ∧ scode n s ≤ 4611686018427387903 := by unfold scode; split <;> omega
    have HG := Lib.hid G
    have HC := Lib.hid (C hg)
    have hv : sputS l n s = l ++ numB (scode n s) := by rw [HV.out, if_pos (by simp [hg])]
    rw [hv]
    clear hv HV G C hg hgd
    obtain ⟨c, hc⟩ : ∃ c, scode n s = c := ⟨_, rfl⟩
    rw [hc] at HC hbd ⊢
    clear hc
    have hc0 : -9223372036854775808 ≤ c := by omega
    have hc1 : c ≤ 9223372036854775807 := by omega
    have HR := Lib.hid (fun (W : World) (h : Bys W a m cap l) => rput_c h hn c hc0 hc1)
    go_enter Tryd.func54, Tryd.ntmps54
    go_upto_region 1 with (fail)
    generalize w.alloc (.cells #[.int .i64 n, .int .i64 s] 24) = W1 at *
    go_wp2_with (first
      | (go_at_call 37; (with_reducible refine (HG.out _).mono ?_); rintro e w1 ⟨rfl, hb1⟩; have a0 := (HP.out.kept hb1).c0; have a1 := (HP.out.kept hb1).c1)
      | (go_at_call 93; (with_reducible refine (HC.out _).mono ?_); rintro e w2 ⟨rfl, hb2⟩)
      | (go_at_call 52; (with_reducible refine (HR.out _ ((HL.out.below hb1).below hb2)).mono ?_); rintro e w3 ⟨v, rfl, ho, hb3⟩))
    go_ret
    have h1 := HB.out.trans (hb1.mono HB.out.size)
    have h2 := h1.trans (hb2.mono h1.size)
    exact ⟨_, rfl, ho.mono h2.size, h2.trans (hb3.mono h2.size)⟩
set_option maxHeartbeats 1600000 in
theorem rsget_c {w : World} {a : Option Addr} {m cap : Nat} {l : List UInt8} (hl : Bys w a m cap l) :
    Calls Tryd.prog 84 #[.slice a m cap] w (Tells (.tuple #[.agg #[.int .i64 (sgetS l).1.1, .int .i64 (sgetS l).1.2], .int .i64 (sgetS l).2.1, .int .i64 (sgetS l).2.2]) w) := by
  have ho := Pair.new w 24 0 0
  have hb := alloc_below w (.cells #[.int .i64 0, .int .i64 0] 24)
  have HR := Lib.hid (rget_c (hl.below hb))
  have HV := Lib.hid (show sgetS l = if ¬ (getS l).2.2 = 0 then ((0, 0), 0, (getS l).2.2)
    else if (getS l).1 = 0 then ((0, 0), (getS l).2.1, 0)
    else if sgood ((getS l).1 / 2) (1 + (getS l).1 % 2) = true then (((getS l).1 / 2, 1 + (getS l).1 % 2), (getS l).2.1, 0) else ((0, 0), 0, 11) from rfl)
  have hok := getS_ok l
  have HO := Lib.hid ho
  have HB := Lib.hid hb
  obtain ⟨⟨x, k, f⟩, hx⟩ : ∃ q, getS l = q := ⟨_, rfl⟩
  rw [hx] at HR HV hok
  simp only at HR HV hok
  clear hl ho hb hx
  go_enter Tryd.func84, Tryd.ntmps84
  go_upto_region 1 with (fail)
  generalize w.alloc (.cells #[.int .i64 0, .int .i64 0] 24) = W1 at *
  have o0 := HO.out.c0
  have o1 := HO.out.c1
  have z0 := HO.out.fz 0
  have z1 := HO.out.fz 1
  by_cases hf : f = 0
  · subst hf
    obtain ⟨q, rfl, hq1, hq2, x0, x1⟩ := hok rfl
    clear hok hq2
    go_upto_region 4 with (go_at_call 83; (with_reducible refine HR.out.mono ?_); rintro e w1 ⟨rfl, rfl⟩)
    by_cases hx : x = 0
    · subst hx
      have hv : sgetS l = ((0, 0), (q : Int), 0) := by rw [HV.out, if_neg (by simp), if_pos rfl]
      have HV2 := Lib.hid hv
      have HO2 := Lib.hid (HO.out.alloc (.cells #[.int .i64 0, .int .i64 0] 24))
      have HX2 := Lib.hid (Pair.new W1 24 0 0)
      have HB2 := Lib.hid (HB.out.alloc HB.out.size (.cells #[.int .i64 0, .int .i64 0] 24))
      have G := rsgood_c 0 0
      rw [show sgood 0 0 = true by decide] at G
      have HG := Lib.hid G
      clear hv HV G o0 o1 z0 z1 HR
      go_upto_region 5 with (fail)
      obtain ⟨gx, hgx⟩ : ∃ g, W1.heap.size = g := ⟨_, rfl⟩
      rw [hgx] at HX2 ⊢
      generalize W1.alloc (.cells #[.int .i64 0, .int .i64 0] 24) = W2 at *
      have x0 := HX2.out.c0
      have x1 := HX2.out.c1
      go_wp2_with (go_at_call 37; (with_reducible refine (HG.out _).mono ?_); rintro e w3 ⟨rfl, hb3⟩; have y0 := (HX2.out.kept hb3).c0; have y1 := (HX2.out.kept hb3).c1; have o0 := (HO2.out.kept hb3).c0; have o1 := (HO2.out.kept hb3).c1; have z0 := (HO2.out.kept hb3).fz 0; have z1 := (HO2.out.kept hb3).fz 1)
      refine bodyPost_ret (res_cell_tmp2 rfl _ _ w.heap.size 24 _ (0, 0) _ (.int .i64 (q : Int)) (.int .i64 0) rfl rfl rfl (((HO2.out.kept hb3).set0 _).set1 _) Tryd.underlying24 rfl (size2s _ _)) rfl ⟨by rw [HV2.out], ((HB2.out.trans (hb3.mono HB2.out.size)).setCell (by simp) _).setCell (by simp) _⟩
    · have hx0 : (0 : Int) < x := by omega
      have hdv : Int.tdiv x 2 = x / 2 := Int.tdiv_eq_ediv_of_nonneg (by omega)
      have hmd : Int.tmod x 2 = x % 2 := Int.tmod_eq_emod_of_nonneg (by omega)
      obtain ⟨d, hd⟩ : ∃ d, x / 2 = d := ⟨_, rfl⟩
      obtain ⟨r, hr⟩ : ∃ r, x % 2 = r := ⟨_, rfl⟩
      have hd1 : 0 ≤ d ∧ d ≤ 4611686018427387903 := by omega
      have hr1 : 0 ≤ r ∧ r ≤ 1 := by omega
      rw [hd] at HV hdv
      rw [hr] at HV hmd
      clear hd hr
      have HO2 := Lib.hid (HO.out.alloc (.cells #[.int .i64 0, .int .i64 0] 24))
      have HX2 := Lib.hid (Pair.new W1 24 0 0)
      have HB2 := Lib.hid (HB.out.alloc HB.out.size (.cells #[.int .i64 0, .int .i64 0] 24))
      have hlt := HO.out.lt
      have G := rsgood_c d (1 + r)
      go_upto_region 5 with (fail)
      obtain ⟨gx, hgx⟩ : ∃ g, W1.heap.size = g := ⟨_, rfl⟩
      rw [hgx] at HX2 hlt ⊢
      generalize W1.alloc (.cells #[.int .i64 0, .int .i64 0] 24) = W2 at *
      have HB3 := Lib.hid ((HB2.out.setCell (p := ⟨gx, 0, none⟩) (by simp; omega) (.int .i64 d)).setCell (p := ⟨gx, 1, none⟩) (by simp; omega) (.int .i64 (1 + r)))
      have HO3 := Lib.hid ((HO2.out.other ⟨gx, 0, none⟩ (.int .i64 d) (by simp; omega)).other ⟨gx, 1, none⟩ (.int .i64 (1 + r)) (by simp; omega))
      have HX3 := Lib.hid ((HX2.out.set0 d).set1 (1 + r))
      have u0 := HX2.out.c0
      have u1 := HX2.out.c1
      have t0 := HX2.out.fz 0
      have t1 := HX2.out.fz 1
      clear o0 o1 z0 z1 HR hlt
      go_upto_region 7 with (fail)
      generalize (W2.setCell ⟨gx, 0, none⟩ (.int .i64 d)).setCell ⟨gx, 1, none⟩ (.int .i64 (1 + r)) = W3 at *
      clear u0 u1 t0 t1 HX2 HO2 HB2
      have u0 := HX3.out.c0
      have u1 := HX3.out.c1
      cases hg : sgood d (1 + r) with
      | true =>
        rw [hg] at G HV
        have HG := Lib.hid G
        have hv : sgetS l = ((d, 1 + r), (q : Int), 0) := by rw [HV.out, if_neg (by simp), if_neg hx, if_pos rfl]
        have HV2 := Lib.hid hv
        clear hv HV G hg
        go_wp2_with (go_at_call 37; (with_reducible refine (HG.out _).mono ?_); rintro e w3 ⟨rfl, hb3⟩; have y0 := (HX3.out.kept hb3).c0; have y1 := (HX3.out.kept hb3).c1; have o0 := (HO3.out.kept hb3).c0; have o1 := (HO3.out.kept hb3).c1; have z0 := (HO3.out.kept hb3).fz 0; have z1 := (HO3.out.kept hb3).fz 1)
        refine bodyPost_ret (res_cell_tmp2 rfl _ _ w.heap.size 24 _ (0, 0) _ (.int .i64 (q : Int)) (.int .i64 0) rfl rfl rfl (((HO3.out.kept hb3).set0 _).set1 _) Tryd.underlying24 rfl (size2s _ _)) rfl ⟨by rw [HV2.out], ((HB3.out.trans (hb3.mono HB3.out.size)).setCell (by simp) _).setCell (by simp) _⟩
      | false =>
        rw [hg] at G HV
        have HG := Lib.hid G
        have hv : sgetS l = ((0, 0), 0, 11) := by rw [HV.out, if_neg (by simp), if_neg hx, if_neg (by simp)]
        have HV2 := Lib.hid hv
        clear hv HV G hg
        go_wp2_with (go_at_call 37; (with_reducible refine (HG.out _).mono ?_); rintro e w3 ⟨rfl, hb3⟩; have y0 := (HX3.out.kept hb3).c0; have y1 := (HX3.out.kept hb3).c1; have o0 := (HO3.out.kept hb3).c0; have o1 := (HO3.out.kept hb3).c1; have z0 := (HO3.out.kept hb3).fz 0; have z1 := (HO3.out.kept hb3).fz 1)
        refine bodyPost_ret (res_cell_tmp2 rfl _ _ w.heap.size 24 _ (0, 0) _ (.int .i64 0) (.int .i64 11) rfl rfl rfl (((HO3.out.kept hb3).set0 _).set1 _) Tryd.underlying24 rfl (size2s _ _)) rfl ⟨by rw [HV2.out], ((HB3.out.trans (hb3.mono HB3.out.size)).setCell (by simp) _).setCell (by simp) _⟩
  · have hf1 : (f != 0) = true := by simpa using hf
    have hv : sgetS l = ((0, 0), 0, f) := by rw [HV.out, if_pos hf]
    have HV2 := Lib.hid hv
    clear hv HV hok
    go_wp2_with (go_at_call 83; (with_reducible refine HR.out.mono ?_); rintro e w1 ⟨rfl, rfl⟩)
    refine bodyPost_ret (res_cell_tmp2 rfl _ _ w.heap.size 24 _ (0, 0) _ (.int .i64 0) (.int .i64 f) rfl rfl rfl ((HO.out.set0 _).set1 _) Tryd.underlying24 rfl (size2s _ _)) rfl ⟨by rw [HV2.out], (HB.out.setCell (by simp) _).setCell (by simp) _⟩
def vgood (a b : Int) : Bool := decide (0 ≤ a) && (decide (a ≤ 1099511627776) && (decide (0 ≤ b) && decide (b ≤ 1099511627776)))
def vcov (a b c d : Int) : Bool := decide (c ≤ a) && decide (d ≤ b)
set_option maxHeartbeats 1600000 in
theorem rvgood_c (a b : Int) (w : World) : Calls Tryd.prog 38 #[.agg #[.int .i64 a, .int .i64 b]] w (Tells (.bool (vgood a b)) w) := by
  have hp := Pair.new w 26 a b
  have hb := alloc_below w (.cells #[.int .i64 a, .int .i64 b] 26)
  have h0 := hp.c0
  have h1 := hp.c1
  have HB := Lib.hid hb
  have HV := Lib.hid (show vgood a b = (decide (0 ≤ a) && (decide (a ≤ 1099511627776) && (decide (0 ≤ b) && decide (b ≤ 1099511627776)))) from rfl)
  clear hp hb
  by_cases g0 : 0 ≤ a
  · by_cases g1 : a ≤ 1099511627776
    · by_cases g2 : 0 ≤ b
      · by_cases g3 : b ≤ 1099511627776
        · go_enter Tryd.func38, Tryd.ntmps38
          go_wp2
          go_ret
          exact ⟨by rw [HV.out]; simp; omega, HB.out⟩
        · go_enter Tryd.func38, Tryd.ntmps38
          go_wp2
          go_ret
          exact ⟨by rw [HV.out]; simp; omega, HB.out⟩
      · go_enter Tryd.func38, Tryd.ntmps38
        go_wp2
        go_ret
        exact ⟨by rw [HV.out]; simp; omega, HB.out⟩
    · go_enter Tryd.func38, Tryd.ntmps38
      go_wp2
      go_ret
      exact ⟨by rw [HV.out]; simp; omega, HB.out⟩
  · go_enter Tryd.func38, Tryd.ntmps38
    go_wp2
    go_ret
    exact ⟨by rw [HV.out]; simp; omega, HB.out⟩
theorem size2 (a b : Int) : (Tryd.prog.info? 26).map (·.size) = some (#[Value.int .i64 a, Value.int .i64 b] : Array Value).size := by
  show _ = some 2
  kernel_rfl
/-- The greatest counts of a list. -/
def joinS (l : List (Int × Int)) : Int × Int := l.foldl (fun r p => (Max.max r.1 p.1, Max.max r.2 p.2)) (0, 0)
def vputS (l : List UInt8) (a b : Int) : List UInt8 := if vgood a b = true then l ++ numB a ++ numB b else l
theorem vgood_bd {a b : Int} (h : vgood a b = true) : 0 ≤ a ∧ a ≤ 1099511627776 ∧ 0 ≤ b ∧ b ≤ 1099511627776 := by simpa [vgood] using h
set_option maxRecDepth 100000 in
set_option maxHeartbeats 3200000 in
theorem rvput_c {w : World} {a : Option Addr} {m cap : Nat} {l : List UInt8} (hl : Bys w a m cap l) (hn : m ≤ 100000)  (x y : Int) :
    Calls Tryd.prog 53 #[.slice a m cap, .agg #[.int .i64 x, .int .i64 y]] w (BytesPost (vputS l x y) w) := by
  obtain ⟨i0, hi, hz0, hz1, hz2⟩ := info_parts Tryd.info5
  have hp := Pair.new w 26 x y
  have hb := alloc_below w (.cells #[.int .i64 x, .int .i64 y] 26)
  have hln := hl.len
  have HL := Lib.hid (hl.below hb)
  have HP := Lib.hid hp
  have HB := Lib.hid hb
  have G := rvgood_c x y
  have HV := Lib.hid (show vputS l x y = if vgood x y = true then l ++ numB x ++ numB y else l from rfl)
  have l0 := HP.out.c0
  have l1 := HP.out.c1
  clear hp hb hl
  cases hg : vgood x y with
  | false =>
    rw [hg] at G
    have HG := Lib.hid G
    have hv : vputS l x y = l := by rw [HV.out, if_neg (by simp [hg])]
    rw [hv]
    clear hv HV G hg
    go_enter Tryd.func53, Tryd.ntmps53
    go_upto_region 1 with (fail)
    generalize w.alloc (.cells #[.int .i64 x, .int .i64 y] 26) = W1 at *
    go_upto_region 2 with (go_at_call 38; (with_reducible refine (HG.out _).mono ?_); rintro e w1 ⟨rfl, hb1⟩)
    have HB1 := Lib.hid (HB.out.trans (hb1.mono HB.out.size))
    have hla := (HL.out.below hb1).below (alloc_below w1 (.cells #[] 5))
    have hoe := OwnB.empty w1 w1.heap.size 5 (Nat.le_refl _)
    clear hb1 l0 l1 HP HL HB
    go_wp2_with (at_builtin; refine wpList_append_bys rfl (.tmp 8) (.tmp 9) 50 rfl Tryd.underlying50 hi hz0 hz1 hz2 rfl rfl hoe rfl hla (by simp; omega) (by simp) ?_; intro v1 w2 ho1 hg1)
    have b1 : Below w1.heap.size w1 w2 := ((Below.refl w1.heap.size w1).alloc (Nat.le_refl _) (.cells #[] 5)).grown hg1 (by simp) (fun k hk => (hoe.lt k hk).1)
    rw [List.nil_append] at ho1
    go_ret
    exact ⟨_, rfl, ho1.mono HB1.out.size, HB1.out.trans (b1.mono HB1.out.size)⟩
  | true =>
    rw [hg] at G
    have HG := Lib.hid G
    have hv : vputS l x y = l ++ numB x ++ numB y := by rw [HV.out, if_pos (by simp [hg])]
    rw [hv]
    obtain ⟨x0, x1, y0, y1⟩ := vgood_bd hg
    have hx8 := numB_length x
    obtain ⟨lx, hlx⟩ : ∃ q, l ++ numB x = q := ⟨_, rfl⟩
    have hxl : lx.length ≤ 1000000 := by rw [← hlx, List.length_append]; omega
    obtain ⟨ly, hly⟩ : ∃ q, lx ++ numB y = q := ⟨_, rfl⟩
    rw [hlx, hly]
    clear hv HV G hg
    go_enter Tryd.func53, Tryd.ntmps53
    go_upto_region 1 with (fail)
    generalize w.alloc (.cells #[.int .i64 x, .int .i64 y] 26) = W1 at *
    go_upto_region 3 with (go_at_call 38; (with_reducible refine (HG.out _).mono ?_); rintro e w2 ⟨rfl, hb2⟩)
    have HP2 := Lib.hid (HP.out.kept hb2)
    have HL2 := Lib.hid (HL.out.below hb2)
    have HB2 := Lib.hid (HB.out.trans (hb2.mono HB.out.size))
    clear l0 l1 hb2 HP HL HB
    have HC := Lib.hid (fun W (h : Below w2.heap.size w2 W) => And.intro (HP2.out.kept h).c0 (HP2.out.kept h).c1)
    have HPut := Lib.hid (fun W (h : Below w2.heap.size w2 W) => rput_c (HL2.out.below h) (show m ≤ 1000000 by omega) x (by omega) (by omega) )
    rw [hlx] at HPut
    have HPut2 := Lib.hid (fun (W : World) (h : Below w2.heap.size w2 W) (a' : Option Addr) (c' : Nat) (hy : Bys W a' lx.length c' lx) => rput_c hy hxl y (by omega) (by omega) )
    rw [hly] at HPut2
    clear hlx hly hln
    refine wp_region_flow [none, none, none, none, some 7, none, none, none, none, none, none, some 0, some 1, some 2, some 3, some 4, some 5, some 6] (fun i => if i = 7 then .slice none 0 0 else undef) [(fun v _ => v = .slice a m cap), (fun v _ => v = .pointer (some ⟨w.heap.size, 0, none⟩)), (fun v _ => v = .int .i64 x), (fun v W => OwnB W w.heap.size 5 v lx), (fun v _ => v = .pointer (some ⟨w.heap.size, 1, none⟩)), (fun v _ => v = .int .i64 y), (fun v W => OwnB W w.heap.size 5 v ly), (fun v W => OwnB W w.heap.size 5 v ly)] (by kernel_rfl) (by kernel_rfl) rfl rfl rfl ?_ ?_ ?_
    · intro g hg v X Y hX hY hv
      simp only [List.mem_cons, List.not_mem_nil, or_false] at hg
      rcases hg with rfl | rfl | rfl | rfl | rfl | rfl | rfl | rfl
      all_goals first
        | exact hv
        | exact hv.kept hY
    · simp only [flowOps, and_true]
      refine ⟨?_, ?_, ?_, ?_, ?_, ?_, ?_, ?_⟩
      · intro xs W hW hn
        simp only [flowAct, List.zipWith_cons_cons, List.zipWith_nil_left]
        go_wp2_with (fail)
        exact ⟨rfl, _, rfl, Below.refl _ _, rfl⟩
      · intro xs W hW hn
        obtain ⟨p0, p1⟩ := HC.out W hW
        simp only [flowAct, List.zipWith_cons_cons, List.zipWith_nil_left]
        go_wp2_with (fail)
        exact ⟨rfl, _, rfl, Below.refl _ _, rfl⟩
      · intro xs W hW hn
        obtain ⟨p0, p1⟩ := HC.out W hW
        simp [flowNeeds, Region.binds] at hn
        simp only [flowAct, List.zipWith_cons_cons, List.zipWith_nil_left, hn]
        go_wp2_with (fail)
        exact ⟨rfl, _, rfl, Below.refl _ _, rfl⟩
      · intro xs W hW hn
        simp [flowNeeds, Region.binds] at hn
        simp only [flowAct, List.zipWith_cons_cons, List.zipWith_nil_left, hn]
        go_wp2_with (go_at_call 52; (with_reducible refine (HPut.out _ hW).mono ?_); rintro e w9 ⟨v, rfl, ho, hb9⟩)
        exact ⟨rfl, _, rfl, hb9, ho.mono (Nat.le_trans HB2.out.size hW.size)⟩
      · intro xs W hW hn
        obtain ⟨p0, p1⟩ := HC.out W hW
        simp only [flowAct, List.zipWith_cons_cons, List.zipWith_nil_left]
        go_wp2_with (fail)
        exact ⟨rfl, _, rfl, Below.refl _ _, rfl⟩
      · intro xs W hW hn
        obtain ⟨p0, p1⟩ := HC.out W hW
        simp [flowNeeds, Region.binds] at hn
        simp only [flowAct, List.zipWith_cons_cons, List.zipWith_nil_left, hn]
        go_wp2_with (fail)
        exact ⟨rfl, _, rfl, Below.refl _ _, rfl⟩
      · intro xs W hW hn
        simp [flowNeeds, Region.binds] at hn
        obtain ⟨ho3, e5⟩ := hn
        obtain ⟨a', c', e3, hy3⟩ := ho3.bys
        simp only [flowAct, List.zipWith_cons_cons, List.zipWith_nil_left, e3, e5]
        go_wp2_with (go_at_call 52; (with_reducible refine (HPut2.out _ hW _ _ hy3).mono ?_); rintro e w9 ⟨v, rfl, ho, hb9⟩)
        exact ⟨rfl, _, rfl, hb9, ho.mono (Nat.le_trans HB2.out.size hW.size)⟩
      · intro xs W hW hn
        simp [flowNeeds, Region.binds] at hn
        simp only [flowAct, List.zipWith_cons_cons, List.zipWith_nil_left]
        go_wp2_with (fail)
        exact ⟨rfl, _, rfl, Below.refl _ _, hn.1⟩
    · intro xs W hW hall
      simp only [flowAll, and_true, Nat.zero_add, Nat.reduceAdd] at hall
      obtain ⟨-, -, -, -, -, -, -, e7⟩ := hall
      simp only [flowAct, List.zipWith_cons_cons, List.zipWith_nil_left]
      go_wp2
      go_ret
      exact ⟨_, rfl, e7, HB2.out.trans (hW.mono HB2.out.size)⟩
theorem slice_bys {W : World} {a : Option Addr} {n cap : Nat} {l : List UInt8} (h : Bys W a n cap l) {q : Nat} (hq : q ≤ n) :
    ∃ a', (∀ W', (Instr.slice 50 (.slice a n cap) (some (.int .i64 (q : Int))) none none).run Tryd.prog W' = .ok (.slice a' (n - q) (cap - q)) W') ∧
      (∀ W', (Instr.sliceAt 50 (.slice a n cap) (some (.int .i64 (q : Int))) none none).run Tryd.prog W' = .ok (.slice a' (n - q) (cap - q)) W') ∧ Bys W a' (n - q) (cap - q) (l.drop q) := by
  have hle := h.le
  have he : Tryd.prog.elem 50 = 5 := by kernel_rfl
  obtain ⟨i0, hi, hz0, hz1, hz2⟩ := info_parts Tryd.info5
  have key : ∃ a', (∀ W', (Instr.slice 50 (.slice a n cap) (some (.int .i64 (q : Int))) none none).run Tryd.prog W' = .ok (.slice a' (n - q) (cap - q)) W') ∧ Bys W a' (n - q) (cap - q) (l.drop q) := by
    by_cases hc : cap = q
    · refine ⟨a, fun W' => ?_, h.dropEnd hq hc⟩
      rw [run_slice_l W' 50 a n cap (by kernel_rfl) .i64 (q : Int) (by omega) (by omega), he]
      have hsz : (sizeOf 5).run Tryd.prog W' = .ok 1 W' := by simp [sizeOf, typeInfo, hi, hz1, go_sem]
      rw [hsz]
      simp only [Result.andThen_ok, sliced, Int.toNat_natCast, Nat.mul_one]
      rw [if_pos hc]
    · refine ⟨a.map (fun x => x.add q), fun W' => ?_, h.drop hq⟩
      rw [run_slice_l W' 50 a n cap (by kernel_rfl) .i64 (q : Int) (by omega) (by omega), he]
      have hsz : (sizeOf 5).run Tryd.prog W' = .ok 1 W' := by simp [sizeOf, typeInfo, hi, hz1, go_sem]
      rw [hsz]
      simp only [Result.andThen_ok, sliced, Int.toNat_natCast, Nat.mul_one]
      rw [if_neg hc]
  obtain ⟨a', h1, h2⟩ := key
  refine ⟨a', h1, fun W' => ?_, h2⟩
  rw [run_sliceAt_slice _ _ _ _ _ _ (by kernel_rfl)]
  exact h1 W'
/-- The counts with which bytes begin. -/
def vgetS (l : List UInt8) : (Int × Int) × Int × Int :=
  if ¬ (getS l).2.2 = 0 then ((0, 0), 0, (getS l).2.2)
  else if ¬ (getS (l.drop (getS l).2.1.toNat)).2.2 = 0 then ((0, 0), 0, (getS (l.drop (getS l).2.1.toNat)).2.2)
  else if vgood (getS l).1 (getS (l.drop (getS l).2.1.toNat)).1 = true then (((getS l).1, (getS (l.drop (getS l).2.1.toNat)).1), (getS l).2.1 + (getS (l.drop (getS l).2.1.toNat)).2.1, 0) else ((0, 0), 0, 11)
theorem vget_err1 {l : List UInt8} {x k f : Int} (h : getS l = (x, k, f)) (hf : f ≠ 0) : vgetS l = ((0, 0), 0, f) := by
  unfold vgetS; rw [h]; simp [hf]
theorem vget_err2 {l : List UInt8} {x y k2 f : Int} {q : Nat} (h : getS l = (x, (q : Int), 0)) (h2 : getS (l.drop q) = (y, k2, f)) (hf : f ≠ 0) : vgetS l = ((0, 0), 0, f) := by
  unfold vgetS; rw [h]; simp [h2, hf]
theorem vget_two {l : List UInt8} {x y : Int} {q q2 : Nat} (h : getS l = (x, (q : Int), 0)) (h2 : getS (l.drop q) = (y, (q2 : Int), 0)) :
    vgetS l = if vgood x y = true then ((x, y), (q : Int) + (q2 : Int), 0) else ((0, 0), 0, 11) := by
  unfold vgetS; rw [h]; simp [h2]
set_option maxHeartbeats 1600000 in
theorem rvget_c {w : World} {a : Option Addr} {n cap : Nat} {l : List UInt8} (hl : Bys w a n cap l) :
    Calls Tryd.prog 85 #[.slice a n cap] w (Tells (.tuple #[.agg #[.int .i64 (vgetS l).1.1, .int .i64 (vgetS l).1.2], .int .i64 (vgetS l).2.1, .int .i64 (vgetS l).2.2]) w) := by
  have ho := Pair.new w 26 0 0
  have hb := alloc_below w (.cells #[.int .i64 0, .int .i64 0] 26)
  have hl1 := hl.below hb
  have HR := Lib.hid (rget_c hl1)
  have hok := getS_ok l
  have hlen := hl.len
  have hmx : n ≤ 9223372036854775807 := Nat.le_trans hl.le hl.max
  have HO := Lib.hid ho
  have HB := Lib.hid hb
  clear ho hb hl
  obtain ⟨⟨x, k, f⟩, hx⟩ : ∃ q, getS l = q := ⟨_, rfl⟩
  rw [hx] at HR hok
  simp only at HR hok
  by_cases hf : f = 0
  · subst hf
    obtain ⟨q, rfl, hq1, hq2, x0, x1⟩ := hok rfl
    obtain ⟨a', hs1, hs2, hl2⟩ := slice_bys hl1 (q := q) (by omega)
    have HR2 := Lib.hid (rget_c hl2)
    have hok2 := getS_ok (l.drop q)
    obtain ⟨⟨y, k2, f2⟩, hy⟩ : ∃ z, getS (l.drop q) = z := ⟨_, rfl⟩
    rw [hy] at HR2 hok2
    simp only at HR2 hok2
    have hq3 : q ≤ n := by omega
    clear hl1 hl2 hok
    by_cases hf2 : f2 = 0
    · subst hf2
      obtain ⟨q2, rfl, hq4, hq5, y0, y1⟩ := hok2 rfl
      have HV := Lib.hid (vget_two hx hy)
      have hsum : ((q : Int) + (q2 : Int)) ≤ 9223372036854775807 := by rw [List.length_drop] at hq5; omega
      have G := rvgood_c x y
      clear hok2 hq5 hx hy hlen hmx
      go_enter Tryd.func85, Tryd.ntmps85
      go_upto_region 1 with (fail)
      generalize w.alloc (.cells #[.int .i64 0, .int .i64 0] 26) = W1 at *
      go_upto_region 8 with (first
        | (go_at_call 83; (with_reducible refine HR.out.mono ?_); rintro e w1 ⟨rfl, rfl⟩)
        | (go_at_call 83; (with_reducible refine HR2.out.mono ?_); rintro e w1 ⟨rfl, rfl⟩))
      have HO2 := Lib.hid (HO.out.alloc (.cells #[.int .i64 x, .int .i64 y] 26))
      have hx2 := Pair.new W1 26 x y
      have HB2 := Lib.hid (HB.out.alloc HB.out.size (.cells #[.int .i64 x, .int .i64 y] 26))
      obtain ⟨gx, hgx⟩ : ∃ g, W1.heap.size = g := ⟨_, rfl⟩
      rw [hgx] at hx2 ⊢
      generalize W1.alloc (.cells #[.int .i64 x, .int .i64 y] 26) = W2 at *
      have u0 := hx2.c0
      have u1 := hx2.c1
      have HX2 := Lib.hid hx2
      clear hx2 hgx HO HB
      cases hg : vgood x y with
      | true =>
        rw [hg] at G HV
        have HG := Lib.hid G
        have HV3 := Lib.hid (show vgetS l = ((x, y), (q : Int) + (q2 : Int), 0) by rw [HV.out, if_pos rfl])
        clear G hg HV
        go_wp2_with (go_at_call 38; (with_reducible refine (HG.out _).mono ?_); rintro e w3 ⟨rfl, hb3⟩; have y0 := (HX2.out.kept hb3).c0; have y1 := (HX2.out.kept hb3).c1; have o0 := (HO2.out.kept hb3).c0; have o1 := (HO2.out.kept hb3).c1; have z0 := (HO2.out.kept hb3).fz 0; have z1 := (HO2.out.kept hb3).fz 1)
        refine bodyPost_ret (res_cell_tmp2 rfl _ _ w.heap.size 26 _ (0, 0) _ (.int .i64 ((q : Int) + (q2 : Int))) (.int .i64 0) rfl rfl rfl (((HO2.out.kept hb3).set0 _).set1 _) Tryd.underlying26 rfl (size2 _ _)) rfl ⟨by rw [HV3.out], ((HB2.out.trans (hb3.mono HB2.out.size)).setCell (by simp) _).setCell (by simp) _⟩
      | false =>
        rw [hg] at G HV
        have HG := Lib.hid G
        have HV3 := Lib.hid (show vgetS l = ((0, 0), 0, 11) by rw [HV.out, if_neg (by simp)])
        clear G hg HV
        go_wp2_with (go_at_call 38; (with_reducible refine (HG.out _).mono ?_); rintro e w3 ⟨rfl, hb3⟩; have y0 := (HX2.out.kept hb3).c0; have y1 := (HX2.out.kept hb3).c1; have o0 := (HO2.out.kept hb3).c0; have o1 := (HO2.out.kept hb3).c1; have z0 := (HO2.out.kept hb3).fz 0; have z1 := (HO2.out.kept hb3).fz 1)
        refine bodyPost_ret (res_cell_tmp2 rfl _ _ w.heap.size 26 _ (0, 0) _ (.int .i64 0) (.int .i64 11) rfl rfl rfl (((HO2.out.kept hb3).set0 _).set1 _) Tryd.underlying26 rfl (size2 _ _)) rfl ⟨by rw [HV3.out], ((HB2.out.trans (hb3.mono HB2.out.size)).setCell (by simp) _).setCell (by simp) _⟩
    · have hf1 : (f2 != 0) = true := by simpa using hf2
      have HV2 := Lib.hid (vget_err2 hx hy hf2)
      clear hok2 hx hy hlen hf2 hmx
      go_enter Tryd.func85, Tryd.ntmps85
      go_upto_region 1 with (fail)
      generalize w.alloc (.cells #[.int .i64 0, .int .i64 0] 26) = W1 at *
      have o0 := HO.out.c0
      have o1 := HO.out.c1
      have z0 := HO.out.fz 0
      have z1 := HO.out.fz 1
      go_wp2_with (first
        | (go_at_call 83; (with_reducible refine HR.out.mono ?_); rintro e w1 ⟨rfl, rfl⟩)
        | (go_at_call 83; (with_reducible refine HR2.out.mono ?_); rintro e w1 ⟨rfl, rfl⟩))
      refine bodyPost_ret (res_cell_tmp2 rfl _ _ w.heap.size 26 _ (0, 0) _ (.int .i64 0) (.int .i64 f2) rfl rfl rfl ((HO.out.set0 _).set1 _) Tryd.underlying26 rfl (size2 _ _)) rfl ⟨by rw [HV2.out], (HB.out.setCell (by simp) _).setCell (by simp) _⟩
  · have hf1 : (f != 0) = true := by simpa using hf
    have HV2 := Lib.hid (vget_err1 hx hf)
    clear hok hx hlen hf hl1 hmx
    go_enter Tryd.func85, Tryd.ntmps85
    go_upto_region 1 with (fail)
    generalize w.alloc (.cells #[.int .i64 0, .int .i64 0] 26) = W1 at *
    have o0 := HO.out.c0
    have o1 := HO.out.c1
    have z0 := HO.out.fz 0
    have z1 := HO.out.fz 1
    go_wp2_with (go_at_call 83; (with_reducible refine HR.out.mono ?_); rintro e w1 ⟨rfl, rfl⟩)
    refine bodyPost_ret (res_cell_tmp2 rfl _ _ w.heap.size 26 _ (0, 0) _ (.int .i64 0) (.int .i64 f) rfl rfl rfl ((HO.out.set0 _).set1 _) Tryd.underlying26 rfl (size2 _ _)) rfl ⟨by rw [HV2.out], (HB.out.setCell (by simp) _).setCell (by simp) _⟩
end Go.Proofs.YtfkmfccdhmnllaaDoor
end

section
namespace Go.Proofs.YtfkmfccdhmnllaaDoor
open Go.RowKit
set_option linter.unusedVariables false

set_option maxHeartbeats 400000 in
theorem get_nil (a : Option Addr) (cap : Nat) (w : World) :
    Calls Tryd.prog 107 #[.slice a 0 cap] w (Ret3 (0, 0, 10) w) := by
  go_enter Tryd.func107, Tryd.ntmps107
  go_wp2
  go_ret3
  exact Ret3.mk rfl

set_option maxHeartbeats 800000 in
theorem get_at0a (b off n cap : Nat) (c0 : UInt8) (r : List UInt8) (w : World) (hr : 0 ≤ r.length) (hlt : 1 ≤ n) (h1 : n ≤ cap) (h2 : cap ≤ 9223372036854775807)
    (hcp : 1 < cap) (hq : c0.toNat / 64 = 0)
    (hc0 : w.cell? ⟨b, off, none⟩ = some (.int .u8 (c0.toNat : Int)))
    (hc : ∀ i, i < 0 → w.cell? ⟨b, off + 1 + i, none⟩ = some (.int .u8 (by8 r i))) :
    Calls Tryd.prog 107 #[.slice (some ⟨b, off, none⟩) n cap] w (Ret3 (outS 1 (valS ((c0.toNat : Int) % 64) r 0)) w) := by
  have e1 : (c0.toNat : Int) / 64 = 0 := by omega
  have hp : (0 : Int) < (n : Int) := by omega
  have hne : ((n : Int) == 0) = false := by simp; omega
  have hm : 0 ≤ ((c0.toNat : Int) % 64) ∧ ((c0.toNat : Int) % 64) < 64 := by omega
  have hd : decide ((n : Int) < 1) = false := by simp; omega
  clear hq
  go_enter Tryd.func107, Tryd.ntmps107
  go_wp2
  go_loop [6, 30] (fun v i => ∃ k : Nat, k ≤ 0 ∧ i = .int .i64 k ∧ v = .int .i64 (valS ((c0.toNat : Int) % 64) r k)) (fun _ i => 0 - (intOf i).toNat)
  case atStart => exact ⟨0, by omega, rfl, by rw [valS_zero]⟩
  case round =>
    obtain ⟨k, hk, rfl, rfl⟩ := hrel
    by_cases hlt2 : k < 0
    · omega
    · obtain rfl : k = 0 := by omega
      have hb := valS_bd ((c0.toNat : Int) % 64) r 0 hm.1 hm.2 (by omega)
      clear hc hlt2
      generalize valS ((c0.toNat : Int) % 64) r 0 = v at *
      have hv0 : -9223372036854775808 ≤ v ∧ v ≤ 9223372036854775807 := by omega
      by_cases hv : sizeS v = 1
      · have hz : (sizeS v != 1) = false := by rw [hv]; rfl
        have HV := Lib.hid hv
        clear hv
        go_wp2_with (go_at_call 117; refine (size_c v hv0.1 hv0.2 _).mono ?_; rintro e w' ⟨rfl, rfl⟩)
        go_ret3
        exact Ret3.mk (outS_yes HV.out)
      · have hz : (sizeS v != 1) = true := by rw [bne_iff_ne]; exact hv
        have HV := Lib.hid hv
        clear hv
        go_wp2_with (go_at_call 117; refine (size_c v hv0.1 hv0.2 _).mono ?_; rintro e w' ⟨rfl, rfl⟩)
        go_ret3
        exact Ret3.mk (outS_no HV.out)

set_option maxHeartbeats 800000 in
theorem get_at0b (b off n : Nat) (c0 : UInt8) (r : List UInt8) (w : World) (hr : 0 ≤ r.length) (hlt : 1 ≤ n) (h1 : n ≤ 1)
    (hq : c0.toNat / 64 = 0)
    (hc0 : w.cell? ⟨b, off, none⟩ = some (.int .u8 (c0.toNat : Int)))
    (hc : ∀ i, i < 0 → w.cell? ⟨b, off + 1 + i, none⟩ = some (.int .u8 (by8 r i))) :
    Calls Tryd.prog 107 #[.slice (some ⟨b, off, none⟩) n 1] w (Ret3 (outS 1 (valS ((c0.toNat : Int) % 64) r 0)) w) := by
  have e1 : (c0.toNat : Int) / 64 = 0 := by omega
  have hp : (0 : Int) < (n : Int) := by omega
  have hne : ((n : Int) == 0) = false := by simp; omega
  have hm : 0 ≤ ((c0.toNat : Int) % 64) ∧ ((c0.toNat : Int) % 64) < 64 := by omega
  have hd : decide ((n : Int) < 1) = false := by simp; omega
  clear hq
  go_enter Tryd.func107, Tryd.ntmps107
  go_wp2
  go_loop [6, 30] (fun v i => ∃ k : Nat, k ≤ 0 ∧ i = .int .i64 k ∧ v = .int .i64 (valS ((c0.toNat : Int) % 64) r k)) (fun _ i => 0 - (intOf i).toNat)
  case atStart => exact ⟨0, by omega, rfl, by rw [valS_zero]⟩
  case round =>
    obtain ⟨k, hk, rfl, rfl⟩ := hrel
    by_cases hlt2 : k < 0
    · omega
    · obtain rfl : k = 0 := by omega
      have hb := valS_bd ((c0.toNat : Int) % 64) r 0 hm.1 hm.2 (by omega)
      clear hc hlt2
      generalize valS ((c0.toNat : Int) % 64) r 0 = v at *
      have hv0 : -9223372036854775808 ≤ v ∧ v ≤ 9223372036854775807 := by omega
      by_cases hv : sizeS v = 1
      · have hz : (sizeS v != 1) = false := by rw [hv]; rfl
        have HV := Lib.hid hv
        clear hv
        go_wp2_with (go_at_call 117; refine (size_c v hv0.1 hv0.2 _).mono ?_; rintro e w' ⟨rfl, rfl⟩)
        go_ret3
        exact Ret3.mk (outS_yes HV.out)
      · have hz : (sizeS v != 1) = true := by rw [bne_iff_ne]; exact hv
        have HV := Lib.hid hv
        clear hv
        go_wp2_with (go_at_call 117; refine (size_c v hv0.1 hv0.2 _).mono ?_; rintro e w' ⟨rfl, rfl⟩)
        go_ret3
        exact Ret3.mk (outS_no HV.out)

set_option maxHeartbeats 400000 in
theorem get_cut1 (b off n cap : Nat) (c0 : UInt8) (w : World) (hn : 0 < n) (hlt : n < 2) (h1 : n ≤ cap) (h2 : cap ≤ 9223372036854775807)
    (hq : c0.toNat / 64 = 1)
    (hc0 : w.cell? ⟨b, off, none⟩ = some (.int .u8 (c0.toNat : Int))) :
    Calls Tryd.prog 107 #[.slice (some ⟨b, off, none⟩) n cap] w (Ret3 (0, 0, 10) w) := by
  have e1 : (c0.toNat : Int) / 64 = 1 := by omega
  have hp : (0 : Int) < (n : Int) := by omega
  have hne : ((n : Int) == 0) = false := by simp; omega
  clear hq
  go_enter Tryd.func107, Tryd.ntmps107
  go_wp2
  go_ret3
  exact Ret3.mk rfl

set_option maxHeartbeats 800000 in
theorem get_at1 (b off n cap : Nat) (c0 : UInt8) (r : List UInt8) (w : World) (hr : 1 ≤ r.length) (hlt : 2 ≤ n) (h1 : n ≤ cap) (h2 : cap ≤ 9223372036854775807)
    (hq : c0.toNat / 64 = 1)
    (hc0 : w.cell? ⟨b, off, none⟩ = some (.int .u8 (c0.toNat : Int)))
    (hc : ∀ i, i < 1 → w.cell? ⟨b, off + 1 + i, none⟩ = some (.int .u8 (by8 r i))) :
    Calls Tryd.prog 107 #[.slice (some ⟨b, off, none⟩) n cap] w (Ret3 (outS 2 (valS ((c0.toNat : Int) % 64) r 1)) w) := by
  have e1 : (c0.toNat : Int) / 64 = 1 := by omega
  have hp : (0 : Int) < (n : Int) := by omega
  have hne : ((n : Int) == 0) = false := by simp; omega
  have hm : 0 ≤ ((c0.toNat : Int) % 64) ∧ ((c0.toNat : Int) % 64) < 64 := by omega
  have hd : decide ((n : Int) < 2) = false := by simp; omega
  clear hq
  go_enter Tryd.func107, Tryd.ntmps107
  go_wp2
  go_loop [6, 30] (fun v i => ∃ k : Nat, k ≤ 1 ∧ i = .int .i64 k ∧ v = .int .i64 (valS ((c0.toNat : Int) % 64) r k)) (fun _ i => 1 - (intOf i).toNat)
  case atStart => exact ⟨0, by omega, rfl, by rw [valS_zero]⟩
  case round =>
    obtain ⟨k, hk, rfl, rfl⟩ := hrel
    by_cases hlt2 : k < 1
    · have hb := valS_lt54 ((c0.toNat : Int) % 64) r k hm.1 hm.2 (by omega) (by omega)
      have hcell := hc k hlt2
      have hs := Lib.hid (valS_succ ((c0.toNat : Int) % 64) r k (by omega))
      have h8 := by8_bd r k
      have ho := or_i64 (valS ((c0.toNat : Int) % 64) r k) (by8 r k) hb.1 hb.2 h8.1 h8.2
      go_wp2
      go_round
      case rel => exact ⟨k + 1, by omega, by go_num, by rw [hs.out]⟩
      case measure => simp [intOf]; omega
    · obtain rfl : k = 1 := by omega
      have hb := valS_bd ((c0.toNat : Int) % 64) r 1 hm.1 hm.2 (by omega)
      clear hc hlt2
      generalize valS ((c0.toNat : Int) % 64) r 1 = v at *
      have hv0 : -9223372036854775808 ≤ v ∧ v ≤ 9223372036854775807 := by omega
      by_cases hv : sizeS v = 2
      · have hz : (sizeS v != 2) = false := by rw [hv]; rfl
        have HV := Lib.hid hv
        clear hv
        go_wp2_with (go_at_call 117; refine (size_c v hv0.1 hv0.2 _).mono ?_; rintro e w' ⟨rfl, rfl⟩)
        go_ret3
        exact Ret3.mk (outS_yes HV.out)
      · have hz : (sizeS v != 2) = true := by rw [bne_iff_ne]; exact hv
        have HV := Lib.hid hv
        clear hv
        go_wp2_with (go_at_call 117; refine (size_c v hv0.1 hv0.2 _).mono ?_; rintro e w' ⟨rfl, rfl⟩)
        go_ret3
        exact Ret3.mk (outS_no HV.out)

set_option maxHeartbeats 400000 in
theorem get_cut2 (b off n cap : Nat) (c0 : UInt8) (w : World) (hn : 0 < n) (hlt : n < 4) (h1 : n ≤ cap) (h2 : cap ≤ 9223372036854775807)
    (hq : c0.toNat / 64 = 2)
    (hc0 : w.cell? ⟨b, off, none⟩ = some (.int .u8 (c0.toNat : Int))) :
    Calls Tryd.prog 107 #[.slice (some ⟨b, off, none⟩) n cap] w (Ret3 (0, 0, 10) w) := by
  have e1 : (c0.toNat : Int) / 64 = 2 := by omega
  have hp : (0 : Int) < (n : Int) := by omega
  have hne : ((n : Int) == 0) = false := by simp; omega
  clear hq
  go_enter Tryd.func107, Tryd.ntmps107
  go_wp2
  go_ret3
  exact Ret3.mk rfl

set_option maxHeartbeats 800000 in
theorem get_at2 (b off n cap : Nat) (c0 : UInt8) (r : List UInt8) (w : World) (hr : 3 ≤ r.length) (hlt : 4 ≤ n) (h1 : n ≤ cap) (h2 : cap ≤ 9223372036854775807)
    (hq : c0.toNat / 64 = 2)
    (hc0 : w.cell? ⟨b, off, none⟩ = some (.int .u8 (c0.toNat : Int)))
    (hc : ∀ i, i < 3 → w.cell? ⟨b, off + 1 + i, none⟩ = some (.int .u8 (by8 r i))) :
    Calls Tryd.prog 107 #[.slice (some ⟨b, off, none⟩) n cap] w (Ret3 (outS 4 (valS ((c0.toNat : Int) % 64) r 3)) w) := by
  have e1 : (c0.toNat : Int) / 64 = 2 := by omega
  have hp : (0 : Int) < (n : Int) := by omega
  have hne : ((n : Int) == 0) = false := by simp; omega
  have hm : 0 ≤ ((c0.toNat : Int) % 64) ∧ ((c0.toNat : Int) % 64) < 64 := by omega
  have hd : decide ((n : Int) < 4) = false := by simp; omega
  clear hq
  go_enter Tryd.func107, Tryd.ntmps107
  go_wp2
  go_loop [6, 30] (fun v i => ∃ k : Nat, k ≤ 3 ∧ i = .int .i64 k ∧ v = .int .i64 (valS ((c0.toNat : Int) % 64) r k)) (fun _ i => 3 - (intOf i).toNat)
  case atStart => exact ⟨0, by omega, rfl, by rw [valS_zero]⟩
  case round =>
    obtain ⟨k, hk, rfl, rfl⟩ := hrel
    by_cases hlt2 : k < 3
    · have hb := valS_lt54 ((c0.toNat : Int) % 64) r k hm.1 hm.2 (by omega) (by omega)
      have hcell := hc k hlt2
      have hs := Lib.hid (valS_succ ((c0.toNat : Int) % 64) r k (by omega))
      have h8 := by8_bd r k
      have ho := or_i64 (valS ((c0.toNat : Int) % 64) r k) (by8 r k) hb.1 hb.2 h8.1 h8.2
      go_wp2
      go_round
      case rel => exact ⟨k + 1, by omega, by go_num, by rw [hs.out]⟩
      case measure => simp [intOf]; omega
    · obtain rfl : k = 3 := by omega
      have hb := valS_bd ((c0.toNat : Int) % 64) r 3 hm.1 hm.2 (by omega)
      clear hc hlt2
      generalize valS ((c0.toNat : Int) % 64) r 3 = v at *
      have hv0 : -9223372036854775808 ≤ v ∧ v ≤ 9223372036854775807 := by omega
      by_cases hv : sizeS v = 4
      · have hz : (sizeS v != 4) = false := by rw [hv]; rfl
        have HV := Lib.hid hv
        clear hv
        go_wp2_with (go_at_call 117; refine (size_c v hv0.1 hv0.2 _).mono ?_; rintro e w' ⟨rfl, rfl⟩)
        go_ret3
        exact Ret3.mk (outS_yes HV.out)
      · have hz : (sizeS v != 4) = true := by rw [bne_iff_ne]; exact hv
        have HV := Lib.hid hv
        clear hv
        go_wp2_with (go_at_call 117; refine (size_c v hv0.1 hv0.2 _).mono ?_; rintro e w' ⟨rfl, rfl⟩)
        go_ret3
        exact Ret3.mk (outS_no HV.out)

set_option maxHeartbeats 400000 in
theorem get_cut3 (b off n cap : Nat) (c0 : UInt8) (w : World) (hn : 0 < n) (hlt : n < 8) (h1 : n ≤ cap) (h2 : cap ≤ 9223372036854775807)
    (hq : c0.toNat / 64 = 3)
    (hc0 : w.cell? ⟨b, off, none⟩ = some (.int .u8 (c0.toNat : Int))) :
    Calls Tryd.prog 107 #[.slice (some ⟨b, off, none⟩) n cap] w (Ret3 (0, 0, 10) w) := by
  have e1 : (c0.toNat : Int) / 64 = 3 := by omega
  have hp : (0 : Int) < (n : Int) := by omega
  have hne : ((n : Int) == 0) = false := by simp; omega
  clear hq
  go_enter Tryd.func107, Tryd.ntmps107
  go_wp2
  go_ret3
  exact Ret3.mk rfl

set_option maxHeartbeats 800000 in
theorem get_at3 (b off n cap : Nat) (c0 : UInt8) (r : List UInt8) (w : World) (hr : 7 ≤ r.length) (hlt : 8 ≤ n) (h1 : n ≤ cap) (h2 : cap ≤ 9223372036854775807)
    (hq : c0.toNat / 64 = 3)
    (hc0 : w.cell? ⟨b, off, none⟩ = some (.int .u8 (c0.toNat : Int)))
    (hc : ∀ i, i < 7 → w.cell? ⟨b, off + 1 + i, none⟩ = some (.int .u8 (by8 r i))) :
    Calls Tryd.prog 107 #[.slice (some ⟨b, off, none⟩) n cap] w (Ret3 (outS 8 (valS ((c0.toNat : Int) % 64) r 7)) w) := by
  have e1 : (c0.toNat : Int) / 64 = 3 := by omega
  have hp : (0 : Int) < (n : Int) := by omega
  have hne : ((n : Int) == 0) = false := by simp; omega
  have hm : 0 ≤ ((c0.toNat : Int) % 64) ∧ ((c0.toNat : Int) % 64) < 64 := by omega
  have hd : decide ((n : Int) < 8) = false := by simp; omega
  clear hq
  go_enter Tryd.func107, Tryd.ntmps107
  go_wp2
  go_loop [6, 30] (fun v i => ∃ k : Nat, k ≤ 7 ∧ i = .int .i64 k ∧ v = .int .i64 (valS ((c0.toNat : Int) % 64) r k)) (fun _ i => 7 - (intOf i).toNat)
  case atStart => exact ⟨0, by omega, rfl, by rw [valS_zero]⟩
  case round =>
    obtain ⟨k, hk, rfl, rfl⟩ := hrel
    by_cases hlt2 : k < 7
    · have hb := valS_lt54 ((c0.toNat : Int) % 64) r k hm.1 hm.2 (by omega) (by omega)
      have hcell := hc k hlt2
      have hs := Lib.hid (valS_succ ((c0.toNat : Int) % 64) r k (by omega))
      have h8 := by8_bd r k
      have ho := or_i64 (valS ((c0.toNat : Int) % 64) r k) (by8 r k) hb.1 hb.2 h8.1 h8.2
      go_wp2
      go_round
      case rel => exact ⟨k + 1, by omega, by go_num, by rw [hs.out]⟩
      case measure => simp [intOf]; omega
    · obtain rfl : k = 7 := by omega
      have hb := valS_bd ((c0.toNat : Int) % 64) r 7 hm.1 hm.2 (by omega)
      clear hc hlt2
      generalize valS ((c0.toNat : Int) % 64) r 7 = v at *
      have hv0 : -9223372036854775808 ≤ v ∧ v ≤ 9223372036854775807 := by omega
      by_cases hv : sizeS v = 8
      · have hz : (sizeS v != 8) = false := by rw [hv]; rfl
        have HV := Lib.hid hv
        clear hv
        go_wp2_with (go_at_call 117; refine (size_c v hv0.1 hv0.2 _).mono ?_; rintro e w' ⟨rfl, rfl⟩)
        go_ret3
        exact Ret3.mk (outS_yes HV.out)
      · have hz : (sizeS v != 8) = true := by rw [bne_iff_ne]; exact hv
        have HV := Lib.hid hv
        clear hv
        go_wp2_with (go_at_call 117; refine (size_c v hv0.1 hv0.2 _).mono ?_; rintro e w' ⟨rfl, rfl⟩)
        go_ret3
        exact Ret3.mk (outS_no HV.out)

/-- get: what bytes begin with. -/
theorem get_c {w : World} {a : Option Addr} {n cap : Nat} {l : List UInt8} (h : Bys w a n cap l) : Calls Tryd.prog 107 #[.slice a n cap] w (Ret3 (getS l) w) := by
  obtain ⟨hlen, hle, hmax, hadr⟩ := h
  cases l with
  | nil => simp at hlen; subst hlen; exact get_nil a cap w
  | cons c0 r =>
    simp at hlen
    rcases hadr with h0 | ⟨b, off, rfl, hc⟩
    · omega
    have hc0 : w.cell? ⟨b, off, none⟩ = some (.int .u8 (c0.toNat : Int)) := by simpa [by8] using hc 0 (by omega)
    have hcs : ∀ i, i < n - 1 → w.cell? ⟨b, off + 1 + i, none⟩ = some (.int .u8 (by8 r i)) := fun i hi => by
      have := hc (i + 1) (by omega)
      rw [by8_cons] at this
      rw [show off + 1 + i = off + (i + 1) by omega]; exact this
    have hlt := c0.toNat_lt
    rcases (by omega : c0.toNat / 64 = 0 ∨ c0.toNat / 64 = 1 ∨ c0.toNat / 64 = 2 ∨ c0.toNat / 64 = 3) with hq | hq | hq | hq
    · simp only [getS, hq]; rw [if_neg (by omega)]
      by_cases hcp : 1 < cap
      · exact get_at0a b off n cap c0 r w (by omega) (by omega) hle hmax hcp hq hc0 (fun i hi => hcs i (by omega))
      · obtain rfl : cap = 1 := by omega
        exact get_at0b b off n c0 r w (by omega) (by omega) hle hq hc0 (fun i hi => hcs i (by omega))
    · simp only [getS, hq]
      by_cases hs : n < 2
      · rw [if_pos (by omega)]; exact get_cut1 b off n cap c0 w (by omega) hs hle hmax hq hc0
      · rw [if_neg (by omega)]; exact get_at1 b off n cap c0 r w (by omega) (by omega) hle hmax hq hc0 (fun i hi => hcs i (by omega))
    · simp only [getS, hq]
      by_cases hs : n < 4
      · rw [if_pos (by omega)]; exact get_cut2 b off n cap c0 w (by omega) hs hle hmax hq hc0
      · rw [if_neg (by omega)]; exact get_at2 b off n cap c0 r w (by omega) (by omega) hle hmax hq hc0 (fun i hi => hcs i (by omega))
    · simp only [getS, hq]
      by_cases hs : n < 8
      · rw [if_pos (by omega)]; exact get_cut3 b off n cap c0 w (by omega) hs hle hmax hq hc0
      · rw [if_neg (by omega)]; exact get_at3 b off n cap c0 r w (by omega) (by omega) hle hmax hq hc0 (fun i hi => hcs i (by omega))
end Go.Proofs.YtfkmfccdhmnllaaDoor
end

section
namespace Go.Proofs.YtfkmfccdhmnllaaDoor
open Go.RowKit Go Go.Sort Go.Deep
set_option linter.unusedVariables false
set_option maxRecDepth 20000

def IsI64 (n : Int) : Prop := -9223372036854775808 ≤ n ∧ n ≤ 9223372036854775807
theorem isI64_of_wf {n : Int} (h : (Lit.int .i64 n).wf = true) : IsI64 n := by
  simpa [IsI64, Lit.wf, IntKind.min, IntKind.max, IntKind.signed, IntKind.bits] using h
theorem stamp_cells {H : Type} {enc : TypeId × Value → H} {W : World} {base : Nat} {sp held : Bool} {fuel : Nat} {cs : List Value} {x : DataW H × List MemPlace} (h : DataW.trod enc Tryd.prog W base (fun _ => sp) held fuel 24 cs = some x) :
    ∃ a b, cs = [.int .i64 a, .int .i64 b] ∧ IsI64 a ∧ IsI64 b := by
  obtain ⟨xs, m, _, rfl, hl, hlen, hf⟩ := DataW.trod_struct Tryd.underlying24 h
  have h2 : Tryd.prog.cellsOf 24 = 2 := by kernel_rfl
  have h1 : Tryd.prog.cellsOf 3 = 1 := by kernel_rfl
  rw [h2] at hl
  match xs, hlen with
  | [y0, y1], _ =>
    have i0 := hf 0 _ rfl
    have i1 := hf 1 _ rfl
    match cs, hl with
    | [c0, c1], _ =>
      have j0 : DataW.trod enc Tryd.prog W base (fun _ => sp) held m 3 (([c0, c1].drop 0).take (Tryd.prog.cellsOf 3)) = some y0 := i0
      have j1 : DataW.trod enc Tryd.prog W base (fun _ => sp) held m 3 (([c0, c1].drop 1).take (Tryd.prog.cellsOf 3)) = some y1 := i1
      rw [h1] at j0 j1
      obtain ⟨a, ha, _, wa⟩ := DataW.trod_int Tryd.underlying3 j0
      obtain ⟨b, hb, _, wb⟩ := DataW.trod_int Tryd.underlying3 j1
      simp at ha hb
      subst ha
      subst hb
      exact ⟨a, b, rfl, isI64_of_wf wa, isI64_of_wf wb⟩
theorem vec_cells {H : Type} {enc : TypeId × Value → H} {W : World} {base : Nat} {sp : Nat → Bool} {held : Bool} {fuel : Nat} {cs : List Value} {x : DataW H × List MemPlace} (h : DataW.trod enc Tryd.prog W base sp held fuel 26 cs = some x) :
    ∃ a b, cs = [.int .i64 a, .int .i64 b] ∧ IsI64 a ∧ IsI64 b := by
  obtain ⟨xs, m, rfl, rfl, hl, hx, hi⟩ := DataW.trod_array Tryd.underlying26 h
  have h2 : Tryd.prog.cellsOf 26 = 2 := by kernel_rfl
  have h1 : Tryd.prog.cellsOf 3 = 1 := by kernel_rfl
  rw [h2] at hl
  rw [h1] at hi
  match cs, hl with
  | [c0, c1], _ =>
    have i0 := hi 0 (by omega)
    have i1 := hi 1 (by omega)
    rw [List.getElem?_eq_getElem (by omega)] at i0 i1
    obtain ⟨a, ha, _, wa⟩ := DataW.trod_int Tryd.underlying3 i0
    obtain ⟨b, hb, _, wb⟩ := DataW.trod_int Tryd.underlying3 i1
    simp at ha hb
    subst ha
    subst hb
    exact ⟨a, b, rfl, isI64_of_wf wa, isI64_of_wf wb⟩
theorem srun_part_int {W : World} (xs : Array Value) (k : Nat) {v : Value} (hv : xs[k]? = some v) : (part 3 xs k).run Tryd.prog W = .ok v W := by
  have hi : (Tryd.prog.info? 3).map (fun i => (i.zero, i.size, i.bytes)) = some (some (.int .i64 0), 1, 8) := by kernel_rfl
  obtain ⟨i0, hi, hz0, hz1, hz2⟩ := info_parts hi
  have hag : (isAgg 3).run Tryd.prog W = .ok false W := by
    unfold isAgg
    rw [Sem.run_bind, run_underlying Tryd.underlying3 W]
    rfl
  simp [part, hag, sizeOf, typeInfo, hi, hz1, hv, go_sem]
theorem stamp_eqIn (x y x' y' : Int) (W : World) : (Op.equalIn 10000 24 (.agg #[.int .i64 x, .int .i64 y]) (.agg #[.int .i64 x', .int .i64 y'])).run Tryd.prog W = .ok ((x == x') && (y == y')) W := by
  rw [run_equalIn_struct W 9999 _ _ _ Tryd.underlying24 (by kernel_rfl)]
  obtain ⟨f0, f1, hf, h0, h1, t0, t1, n0, n1⟩ : ∃ f0 f1, (Tryd.prog.fieldsOf 24).toList = [f0, f1] ∧ f0.offset = 0 ∧ f1.offset = 1 ∧ f0.type = 3 ∧ f1.type = 3 ∧ f0.name ≠ "_" ∧ f1.name ≠ "_" := ⟨_, _, rfl, rfl, rfl, rfl, rfl, by decide, by decide⟩
  rw [hf]
  have p0 := srun_part_int (W := W) #[.int .i64 x, .int .i64 y] 0 rfl
  have p1 := srun_part_int (W := W) #[.int .i64 x, .int .i64 y] 1 rfl
  have q0 := srun_part_int (W := W) #[.int .i64 x', .int .i64 y'] 0 rfl
  have q1 := srun_part_int (W := W) #[.int .i64 x', .int .i64 y'] 1 rfl
  cases e0 : (x == x') <;> cases e1 : (y == y') <;> simp [Op.eqFields, n0, n1, h0, h1, t0, t1, p0, q0, p1, q1, e0, e1, run_equalIn_int W 9998 3 .i64 .i64 _ _ Tryd.underlying3, Sem.run_bind, Result.andThen_ok]
theorem stamp_eql (x y : Int) (W : World) : (binOp .eql 24 (.agg #[.int .i64 x, .int .i64 y]) (.agg #[.int .i64 x, .int .i64 y])).run Tryd.prog W = .ok (.bool true) W := by
  rw [run_eql_struct, stamp_eqIn]; simp
theorem stamp_eqg (op : BinOp) (x y : Operand) (xs ys : Array Value) (W : World) : (eqGuard op 24 x y (.agg xs) (.agg ys)).run Tryd.prog W = .ok () W := run_eqGuard_agg W op _ x y xs ys (by kernel_rfl)
theorem stamp_eqb (x y x' y' : Int) (b : Bool) (h : ((x == x') && (y == y')) = b) (W : World) : (binOp .eql 24 (.agg #[.int .i64 x, .int .i64 y]) (.agg #[.int .i64 x', .int .i64 y'])).run Tryd.prog W = .ok (.bool b) W := by
  rw [run_eql_struct, stamp_eqIn, h]; rfl
set_option maxHeartbeats 800000 in
theorem issite_c (s : Int) (w : World) : Calls Tryd.prog 100 #[.int .i64 s] w (fun e w' => e = .returned (.bool (decide (s = 1 ∨ s = 2))) ∧ w' = w) := by
  by_cases h1 : s = 1
  · subst h1
    go_enter Tryd.func100, Tryd.ntmps100
    go_wp2
    go_ret
    exact ⟨rfl, rfl⟩
  · have e1 : (s == 1) = false := by simpa using h1
    by_cases h2 : s = 2
    · subst h2
      go_enter Tryd.func100, Tryd.ntmps100
      go_wp2
      go_ret
      exact ⟨rfl, rfl⟩
    · have e2 : (s == 2) = false := by simpa using h2
      have hd : decide (s = 1 ∨ s = 2) = false := by simp [h1, h2]
      rw [hd]
      clear h1 h2 hd
      go_enter Tryd.func100, Tryd.ntmps100
      go_wp2
      go_ret
      exact ⟨rfl, rfl⟩
set_option maxHeartbeats 1600000 in
theorem sgood_c (n s : Int) (w : World) : Calls Tryd.prog 65 #[.agg #[.int .i64 n, .int .i64 s]] w (Tells (.bool (sgood n s)) w) := by
  have hp := Pair.new w 24 n s
  have hb := alloc_below w (.cells #[.int .i64 n, .int .i64 s] 24)
  have h0 := hp.c0
  have h1 := hp.c1
  have HB := Lib.hid hb
  have HS := Lib.hid (issite_c s)
  have hEG := stamp_eqg
  clear hp hb
  by_cases z : n = 0 ∧ s = 0
  · obtain ⟨rfl, rfl⟩ := z
    have hEQ := stamp_eql
    rw [show sgood 0 0 = true by decide]
    go_enter Tryd.func65, Tryd.ntmps65
    go_wp2
    go_ret
    exact ⟨rfl, HB.out⟩
  · have hEQ := stamp_eqb n s 0 0 false (by rw [Bool.eq_false_iff]; simp; intro h1 h2; exact z ⟨h1, h2⟩)
    by_cases hs : s = 1 ∨ s = 2
    · rw [decide_eq_true hs] at HS
      by_cases n1 : 1 ≤ n
      · by_cases n2 : n ≤ 281474976710656
        · have hv : sgood n s = true := by unfold sgood; simp; omega
          rw [hv]
          clear hv z hs
          go_enter Tryd.func65, Tryd.ntmps65
          go_wp2_with (go_at_call 100; (with_reducible refine (HS.out _).mono ?_); rintro e w1 ⟨rfl, rfl⟩)
          go_ret
          exact ⟨rfl, HB.out⟩
        · have hv : sgood n s = false := by unfold sgood; simp; omega
          rw [hv]
          clear hv z hs
          go_enter Tryd.func65, Tryd.ntmps65
          go_wp2_with (go_at_call 100; (with_reducible refine (HS.out _).mono ?_); rintro e w1 ⟨rfl, rfl⟩)
          go_ret
          exact ⟨by simp; omega, HB.out⟩
      · have hv : sgood n s = false := by unfold sgood; simp; omega
        rw [hv]
        clear hv z hs
        go_enter Tryd.func65, Tryd.ntmps65
        go_wp2_with (go_at_call 100; (with_reducible refine (HS.out _).mono ?_); rintro e w1 ⟨rfl, rfl⟩)
        go_ret
        exact ⟨rfl, HB.out⟩
    · rw [decide_eq_false hs] at HS
      have hv : sgood n s = false := by unfold sgood; simp; omega
      rw [hv]
      clear hv z hs
      go_enter Tryd.func65, Tryd.ntmps65
      go_wp2_with (go_at_call 100; (with_reducible refine (HS.out _).mono ?_); rintro e w1 ⟨rfl, rfl⟩)
      go_ret
      exact ⟨rfl, HB.out⟩
def scodeP (n s : Int) : Int := if sgood n s = true then scode n s else -1
set_option maxHeartbeats 1600000 in
theorem scode_c (n s : Int) (w : World) : Calls Tryd.prog 119 #[.agg #[.int .i64 n, .int .i64 s]] w (Tells (.int .i64 (scodeP n s)) w) := by
  have hp := Pair.new w 24 n s
  have hb := alloc_below w (.cells #[.int .i64 n, .int .i64 s] 24)
  have hEG := stamp_eqg
  have HV := Lib.hid (show scodeP n s = if sgood n s = true then scode n s else -1 from rfl)
  have G := sgood_c n s
  have HP := Lib.hid hp
  have HB := Lib.hid hb
  have p0 := hp.c0
  have p1 := hp.c1
  clear hp hb
  cases hg : sgood n s with
  | false =>
    rw [hg] at G
    have HG := Lib.hid G
    have hv : scodeP n s = -1 := by rw [HV.out, if_neg (by simp [hg])]
    rw [hv]
    clear hv G hg
    go_enter Tryd.func119, Tryd.ntmps119
    go_wp2_with (go_at_call 65; (with_reducible refine (HG.out _).mono ?_); rintro e w1 ⟨rfl, hb1⟩)
    go_ret
    exact ⟨rfl, HB.out.trans (hb1.mono HB.out.size)⟩
  | true =>
    rw [hg] at G
    have HG := Lib.hid G
    have hgd : (n = 0 ∧ s = 0) ∨ (1 ≤ n ∧ n ≤ 281474976710656 ∧ (s = 1 ∨ s = 2)) := by simpa [sgood] using hg
    have hv : scodeP n s = scode n s := by rw [HV.out, if_pos (by simp [hg])]
    rw [hv]
    rcases hgd with ⟨rfl, rfl⟩ | ⟨h1, h2, h3⟩
    · have hEQ := stamp_eql
      rw [show scode 0 0 = 0 by decide]
      clear hv G hg
      go_enter Tryd.func119, Tryd.ntmps119
      go_wp2_with (go_at_call 65; (with_reducible refine (HG.out _).mono ?_); rintro e w1 ⟨rfl, hb1⟩; have q0 := (HP.out.kept hb1).c0; have q1 := (HP.out.kept hb1).c1)
      go_ret
      exact ⟨rfl, HB.out.trans (hb1.mono HB.out.size)⟩
    · have hEQ := stamp_eqb n s 0 0 false (by rw [Bool.eq_false_iff]; simp; omega)
      have hc : scode n s = 2 * n + s - 1 := by unfold scode; rw [if_neg (by omega)]
      rw [hc]
      have hs1 : 1 ≤ s ∧ s ≤ 2 := by omega
      clear hv G hg hc h3
      go_enter Tryd.func119, Tryd.ntmps119
      go_wp2_with (go_at_call 65; (with_reducible refine (HG.out _).mono ?_); rintro e w1 ⟨rfl, hb1⟩; have q0 := (HP.out.kept hb1).c0; have q1 := (HP.out.kept hb1).c1)
      go_ret
      exact ⟨rfl, HB.out.trans (hb1.mono HB.out.size)⟩
set_option maxHeartbeats 1600000 in
theorem decode_zero (w : World) : Calls Tryd.prog 130 #[.int .i64 0] w (Tells (.agg #[.int .i64 0, .int .i64 0]) w) := by
  have hp := Pair.new w 24 0 0
  have hb := alloc_below w (.cells #[.int .i64 0, .int .i64 0] 24)
  have HP := Lib.hid hp
  have HB := Lib.hid hb
  have p0 := hp.c0
  have p1 := hp.c1
  have z0 := hp.fz 0
  have z1 := hp.fz 1
  clear hp hb
  go_enter Tryd.func130, Tryd.ntmps130
  go_wp2
  refine bodyPost_ret (results_cell_row rfl _ _ w.heap.size 24 _ (0, 0) _ rfl HP.out Tryd.underlying24 rfl (size2s _ _)) rfl ⟨rfl, HB.out⟩
set_option maxHeartbeats 1600000 in
theorem decode_c (x d r : Int) (hx : 0 < x) (hm : x ≤ 4611686018427387903) (hd : x / 2 = d) (hr : x % 2 = r) (w : World) : Calls Tryd.prog 130 #[.int .i64 x] w (Tells (.agg #[.int .i64 d, .int .i64 (r + 1)]) w) := by
  have hdv : Int.tdiv x 2 = d := by rw [← hd]; exact Int.tdiv_eq_ediv_of_nonneg (by omega)
  have hmd : Int.tmod x 2 = r := by rw [← hr]; exact Int.tmod_eq_emod_of_nonneg (by omega)
  have hd1 : 0 ≤ d ∧ d ≤ 4611686018427387903 := by omega
  have hr1 : 0 ≤ r ∧ r ≤ 1 := by omega
  have e0 : (x == 0) = false := by rw [beq_eq_false_iff_ne]; omega
  have hp := Pair.new w 24 0 0
  have hb := alloc_below w (.cells #[.int .i64 0, .int .i64 0] 24)
  have HP := Lib.hid hp
  have HB := Lib.hid hb
  have p0 := hp.c0
  have p1 := hp.c1
  have z0 := hp.fz 0
  have z1 := hp.fz 1
  clear hp hb hd hr
  go_enter Tryd.func130, Tryd.ntmps130
  go_wp2
  refine bodyPost_ret (results_cell_row rfl _ _ w.heap.size 24 _ (0, 0) _ rfl (Pair.new _ _ _ _) Tryd.underlying24 rfl (size2s _ _)) rfl ⟨rfl, alloc_below _ _⟩
set_option maxHeartbeats 1600000 in
theorem sput_c {w : World} {a : Option Addr} {m cap : Nat} {l : List UInt8} (hl : Bys w a m cap l) (hn : m ≤ 1000000) (hT : TabW w) (n s : Int) :
    Calls Tryd.prog 89 #[.slice a m cap, .agg #[.int .i64 n, .int .i64 s]] w (BytesPost (sputS l n s) w) := by
  have hp := Pair.new w 24 n s
  have hb := alloc_below w (.cells #[.int .i64 n, .int .i64 s] 24)
  have HL := Lib.hid (hl.below hb)
  have HTb := Lib.hid (hT.below hb)
  have HP := Lib.hid hp
  have HB := Lib.hid hb
  have C := scode_c n s
  have l0 := HP.out.c0
  have l1 := HP.out.c1
  have hv : sputS l n s = l ++ numB (scodeP n s) := by
    unfold sputS scodeP
    cases hg : sgood n s with
    | false => simp; rw [numB_none (.inl (by decide))]
    | true => simp
  have hbd : -9223372036854775808 ≤ scodeP n s ∧ scodeP n s ≤ 9223372036854775807 := by
    unfold scodeP
    cases hg : sgood n s with
    | false => simp
    | true =>
      have hgd : (n = 0 ∧ s = 0) ∨ (1 ≤ n ∧ n ≤ 281474976710656 ∧ (s = 1 ∨ s = 2)) := by simpa [sgood] using hg
      simp; unfold scode; split <;> omega
  rw [hv]
  obtain ⟨c, hc⟩ : ∃ c, scodeP n s = c := ⟨_, rfl⟩
  rw [hc] at C hbd ⊢
  have HC := Lib.hid C
  obtain ⟨hc0, hc1⟩ := hbd
  have HR := Lib.hid (fun (W : World) (h : Bys W a m cap l) (hT : TabW W) => put_c h hn c hc0 hc1 hT)
  clear hp hb hl hT C hv hc
  go_enter Tryd.func89, Tryd.ntmps89
  go_upto_region 1 with (fail)
  generalize w.alloc (.cells #[.int .i64 n, .int .i64 s] 24) = W1 at *
  go_wp2_with (first
    | (go_at_call 119; (with_reducible refine (HC.out _).mono ?_); rintro e w2 ⟨rfl, hb2⟩)
    | (go_at_call 87; (with_reducible refine (HR.out _ (HL.out.below hb2) (HTb.out.below hb2)).mono ?_); rintro e w3 ⟨v, rfl, ho, hb3⟩))
  go_ret
  have h2 := HB.out.trans (hb2.mono HB.out.size)
  exact ⟨_, rfl, ho.mono h2.size, h2.trans (hb3.mono h2.size)⟩
theorem sget_alt (l : List UInt8) : sgetS l = if ¬ (getS l).2.2 = 0 then ((0, 0), 0, (getS l).2.2)
    else if (getS l).1 = 0 then ((0, 0), (getS l).2.1, 0)
    else if sgood ((getS l).1 / 2) ((getS l).1 % 2 + 1) = true then (((getS l).1 / 2, (getS l).1 % 2 + 1), (getS l).2.1, 0) else ((0, 0), 0, 11) := by
  unfold sgetS
  rw [Int.add_comm 1 ((getS l).1 % 2)]
set_option maxHeartbeats 1600000 in
theorem sget_c {w : World} {a : Option Addr} {m cap : Nat} {l : List UInt8} (hl : Bys w a m cap l) :
    Calls Tryd.prog 109 #[.slice a m cap] w (Tells (.tuple #[.agg #[.int .i64 (sgetS l).1.1, .int .i64 (sgetS l).1.2], .int .i64 (sgetS l).2.1, .int .i64 (sgetS l).2.2]) w) := by
  have ho := Pair.new w 24 0 0
  have hb := alloc_below w (.cells #[.int .i64 0, .int .i64 0] 24)
  have HR := Lib.hid (get_c (hl.below hb))
  have HV := Lib.hid (sget_alt l)
  have hok := getS_ok l
  have HO := Lib.hid ho
  have HB := Lib.hid hb
  obtain ⟨⟨x, k, f⟩, hx⟩ : ∃ q, getS l = q := ⟨_, rfl⟩
  rw [hx] at HR HV hok
  simp only at HR HV hok
  clear hl ho hb hx
  by_cases hf : f = 0
  · subst hf
    obtain ⟨q, rfl, hq1, hq2, x0, x1⟩ := hok rfl
    clear hok hq2
    obtain ⟨d, r, hD, hV⟩ : ∃ d r, (∀ W, Calls Tryd.prog 130 #[.int .i64 x] W (Tells (.agg #[.int .i64 d, .int .i64 r]) W)) ∧ (sgetS l = if sgood d r = true then ((d, r), (q : Int), 0) else ((0, 0), 0, 11)) := by
      by_cases hx : x = 0
      · subst hx
        exact ⟨0, 0, decode_zero, by rw [HV.out, if_neg (by simp), if_pos rfl, if_pos (by decide)]⟩
      · exact ⟨_, _, decode_c x _ _ (by omega) x1 rfl rfl, by rw [HV.out, if_neg (by simp), if_neg hx]⟩
    have HD := Lib.hid hD
    have HV2 := Lib.hid hV
    have G := sgood_c d r
    clear HV hD hV
    go_enter Tryd.func109, Tryd.ntmps109
    go_upto_region 1 with (fail)
    generalize w.alloc (.cells #[.int .i64 0, .int .i64 0] 24) = W1 at *
    go_upto_region 5 with (first
      | (go_at_call 107; (with_reducible refine HR.out.mono ?_); rintro e w1 ⟨rfl, rfl⟩)
      | (go_at_call 130; (with_reducible refine (HD.out _).mono ?_); rintro e w2 ⟨rfl, hb2⟩))
    have HO2 := Lib.hid ((HO.out.kept hb2).alloc (.cells #[.int .i64 d, .int .i64 r] 24))
    have hx2 := Pair.new w2 24 d r
    have h2 := HB.out.trans (hb2.mono HB.out.size)
    have HB2 := Lib.hid (h2.alloc h2.size (.cells #[.int .i64 d, .int .i64 r] 24))
    obtain ⟨gx, hgx⟩ : ∃ g, w2.heap.size = g := ⟨_, rfl⟩
    rw [hgx] at hx2 ⊢
    generalize w2.alloc (.cells #[.int .i64 d, .int .i64 r] 24) = W2 at *
    have u0 := hx2.c0
    have u1 := hx2.c1
    have HX2 := Lib.hid hx2
    clear hx2 h2 hb2 hgx HO HB
    cases hg : sgood d r with
    | true =>
      rw [hg] at G HV2
      have HG := Lib.hid G
      have HV3 := Lib.hid (show sgetS l = ((d, r), (q : Int), 0) by rw [HV2.out, if_pos rfl])
      clear G hg HV2
      go_wp2_with (go_at_call 65; (with_reducible refine (HG.out _).mono ?_); rintro e w3 ⟨rfl, hb3⟩; have y0 := (HX2.out.kept hb3).c0; have y1 := (HX2.out.kept hb3).c1; have o0 := (HO2.out.kept hb3).c0; have o1 := (HO2.out.kept hb3).c1; have z0 := (HO2.out.kept hb3).fz 0; have z1 := (HO2.out.kept hb3).fz 1)
      refine bodyPost_ret (res_cell_tmp2 rfl _ _ w.heap.size 24 _ (0, 0) _ (.int .i64 (q : Int)) (.int .i64 0) rfl rfl rfl (((HO2.out.kept hb3).set0 _).set1 _) Tryd.underlying24 rfl (size2s _ _)) rfl ⟨by rw [HV3.out], ((HB2.out.trans (hb3.mono HB2.out.size)).setCell (by simp) _).setCell (by simp) _⟩
    | false =>
      rw [hg] at G HV2
      have HG := Lib.hid G
      have HV3 := Lib.hid (show sgetS l = ((0, 0), 0, 11) by rw [HV2.out, if_neg (by simp)])
      clear G hg HV2
      go_wp2_with (go_at_call 65; (with_reducible refine (HG.out _).mono ?_); rintro e w3 ⟨rfl, hb3⟩; have y0 := (HX2.out.kept hb3).c0; have y1 := (HX2.out.kept hb3).c1; have o0 := (HO2.out.kept hb3).c0; have o1 := (HO2.out.kept hb3).c1; have z0 := (HO2.out.kept hb3).fz 0; have z1 := (HO2.out.kept hb3).fz 1)
      refine bodyPost_ret (res_cell_tmp2 rfl _ _ w.heap.size 24 _ (0, 0) _ (.int .i64 0) (.int .i64 11) rfl rfl rfl (((HO2.out.kept hb3).set0 _).set1 _) Tryd.underlying24 rfl (size2s _ _)) rfl ⟨by rw [HV3.out], ((HB2.out.trans (hb3.mono HB2.out.size)).setCell (by simp) _).setCell (by simp) _⟩
  · have hf1 : (f != 0) = true := by simpa using hf
    have hv : sgetS l = ((0, 0), 0, f) := by rw [HV.out, if_pos hf]
    have HV2 := Lib.hid hv
    clear hv HV hok
    go_enter Tryd.func109, Tryd.ntmps109
    go_upto_region 1 with (fail)
    generalize w.alloc (.cells #[.int .i64 0, .int .i64 0] 24) = W1 at *
    have o0 := HO.out.c0
    have o1 := HO.out.c1
    have z0 := HO.out.fz 0
    have z1 := HO.out.fz 1
    go_wp2_with (go_at_call 107; (with_reducible refine HR.out.mono ?_); rintro e w1 ⟨rfl, rfl⟩)
    refine bodyPost_ret (res_cell_tmp2 rfl _ _ w.heap.size 24 _ (0, 0) _ (.int .i64 0) (.int .i64 f) rfl rfl rfl ((HO.out.set0 _).set1 _) Tryd.underlying24 rfl (size2s _ _)) rfl ⟨by rw [HV2.out], (HB.out.setCell (by simp) _).setCell (by simp) _⟩
theorem run_part_int {W : World} (xs : Array Value) (k : Nat) {v : Value} (hv : xs[k]? = some v) : (part 3 xs k).run Tryd.prog W = .ok v W := by
  have hi : (Tryd.prog.info? 3).map (fun i => (i.zero, i.size, i.bytes)) = some (some (.int .i64 0), 1, 8) := by kernel_rfl
  obtain ⟨i0, hi, hz0, hz1, hz2⟩ := info_parts hi
  have hag : (isAgg 3).run Tryd.prog W = .ok false W := by
    unfold isAgg
    rw [Sem.run_bind, run_underlying Tryd.underlying3 W]
    rfl
  simp [part, hag, sizeOf, typeInfo, hi, hz1, hv, go_sem]
theorem vec_eqIn (x y x' y' : Int) (W : World) : (Op.equalIn 10000 26 (.agg #[.int .i64 x, .int .i64 y]) (.agg #[.int .i64 x', .int .i64 y'])).run Tryd.prog W = .ok ((x == x') && (y == y')) W := by
  have hi : (Tryd.prog.info? 3).map (fun i => (i.zero, i.size, i.bytes)) = some (some (.int .i64 0), 1, 8) := by kernel_rfl
  obtain ⟨i3, hi3, _, _, _⟩ := info_parts hi
  have hc : Tryd.prog.cellsOf 3 = 1 := by kernel_rfl
  rw [run_equalIn_array W 9999 _ _ Tryd.underlying26 hi3, hc]
  have p0 := run_part_int (W := W) #[.int .i64 x, .int .i64 y] 0 rfl
  have p1 := run_part_int (W := W) #[.int .i64 x, .int .i64 y] 1 rfl
  have q0 := run_part_int (W := W) #[.int .i64 x', .int .i64 y'] 0 rfl
  have q1 := run_part_int (W := W) #[.int .i64 x', .int .i64 y'] 1 rfl
  show (Op.eqItems 9999 3 1 _ _ [0, 1]).run Tryd.prog W = _
  simp only [Op.eqItems, Sem.run_bind, Nat.zero_mul, Nat.one_mul, p0, q0, Result.andThen_ok]
  cases h0 : (x == x') <;> cases h1 : (y == y') <;> simp [p1, q1, h0, h1, run_equalIn_int W 9998 3 .i64 .i64 _ _ Tryd.underlying3]
theorem vec_eqg (op : BinOp) (x y : Operand) (xs ys : Array Value) (W : World) : (eqGuard op 26 x y (.agg xs) (.agg ys)).run Tryd.prog W = .ok () W := run_eqGuard_agg W op _ x y xs ys (by kernel_rfl)
/-- One block is other than it was. -/
structure Wrote (g : Nat) (cs : Array Value) (t : TypeId) (w w' : World) : Prop where
  os : w'.os = w.os
  tape : w'.tape = w.tape
  output : w'.output = w.output
  size : w.heap.size ≤ w'.heap.size
  cell : w'.heap[g]? = some (.cells cs t (0, 0))
  rest : ∀ k, k < w.heap.size → k ≠ g → w'.heap[k]? = w.heap[k]?
theorem Wrote.below {g : Nat} {cs : Array Value} {t : TypeId} {w w' : World} (h : Wrote g cs t w w') {B : Nat} (hB : B ≤ g) (hg : g ≤ w.heap.size) : Below B w w' :=
  ⟨h.os, h.tape, h.output, h.size, fun k hk => h.rest k (by omega) (by omega)⟩
theorem Wrote.of_set {g : Nat} {t : TypeId} {w w1 : World} {cs : Array Value} (hb : Below w.heap.size w w1) (hc : w1.heap[g]? = some (.cells cs t (0, 0))) (i : Nat) (v : Value) :
    Wrote g (cs.setIfInBounds i v) t w (w1.setCell ⟨g, i, none⟩ v) := by
  refine ⟨hb.os, hb.tape, hb.output, ?_, heap_setCell_same w1 g i _ t _ hc, fun k hk hkg => ?_⟩
  · exact Nat.le_trans hb.size (Nat.le_of_eq (World.size_setCell _ _ _).symm)
  · rw [heap_setCell_other w1 _ k _ hkg]; exact hb.block k hk
theorem Wrote.trans {g : Nat} {t : TypeId} {w w1 w2 : World} {cs cs' : Array Value} (h : Wrote g cs t w w1) (k : Wrote g cs' t w1 w2) : Wrote g cs' t w w2 :=
  ⟨k.os.trans h.os, k.tape.trans h.tape, k.output.trans h.output, Nat.le_trans h.size k.size, k.cell, fun i hi hg => (k.rest i (Nat.lt_of_lt_of_le hi h.size) hg).trans (h.rest i hi hg)⟩
theorem Wrote.after {g : Nat} {t : TypeId} {w w1 w2 : World} {cs : Array Value} (h : Below w.heap.size w w1) (k : Wrote g cs t w1 w2) : Wrote g cs t w w2 :=
  ⟨k.os.trans h.os, k.tape.trans h.tape, k.output.trans h.output, Nat.le_trans h.size k.size, k.cell, fun i hi hg => (k.rest i (Nat.lt_of_lt_of_le hi h.size) hg).trans (h.block i hi)⟩
theorem Wrote.pair {g g' : Nat} {t t' : TypeId} {w w' : World} {cs : Array Value} {a b : Int} (h : Wrote g cs t w w') (hp : Pair w g' t' a b) (hne : g' ≠ g) : Pair w' g' t' a b :=
  (h.rest g' hp.lt hne).trans hp
/-- Nothing comes back; one block is other than it was. -/
def Sets (g : Nat) (cs : Array Value) (t : TypeId) (w : World) (e : Ending) (w' : World) : Prop := e = .returned (.tuple #[]) ∧ Wrote g cs t w w'
theorem idx_vec (xs : Array Value) (k : Nat) (hk : k < 2) {v : Value} (hv : xs[k]? = some v) (W : World) : (Instr.index 26 (.agg xs) (.int .i64 (k : Int))).run Tryd.prog W = .ok v W := by
  have hi : (Tryd.prog.info? 3).map (fun i => (i.zero, i.size, i.bytes)) = some (some (.int .i64 0), 1, 8) := by kernel_rfl
  obtain ⟨i0, hi, hz0, hz1, hz2⟩ := info_parts hi
  simp [Instr.index, run_underlying Tryd.underlying26, asIntOf, hk, hv, sizeOf, typeInfo, hi, hz1, go_sem]
theorem idx0 (a b : Int) (W : World) : (Instr.index 26 (.agg #[.int .i64 a, .int .i64 b]) (.int .i64 0)).run Tryd.prog W = .ok (.int .i64 a) W := idx_vec _ 0 (by decide) rfl W
theorem idx1 (a b : Int) (W : World) : (Instr.index 26 (.agg #[.int .i64 a, .int .i64 b]) (.int .i64 1)).run Tryd.prog W = .ok (.int .i64 b) W := idx_vec _ 1 (by decide) rfl W
theorem step_cov (k : Bool) (a b c d : Int) : (k && decide (c ≤ a) && decide (d ≤ b)) = (k && vcov a b c d) := by unfold vcov; cases k <;> rfl
set_option maxHeartbeats 800000 in
theorem cov1_c (i x y : Int) (c : Bool) (g : Nat) {w : World} (h : w.heap[g]? = some (.cells #[.bool c] 4 (0, 0))) :
    Calls Tryd.prog 98 #[.int .i64 i, .int .i64 x, .int .i64 y, .pointer (some ⟨g, 0, none⟩)] w (Sets g #[.bool (c && decide (y ≤ x))] 4 w) := by
  have h0 : w.cell? ⟨g, 0, none⟩ = some (.bool c) := by rw [cell_of_row w g 0 _ 4 (0, 0) h]; rfl
  have hz : w.frozen? ⟨g, 0, none⟩ = false := frozen_of_row w g 0 _ 4 h
  have HH := Lib.hid h
  clear h
  cases c <;> by_cases g0 : y ≤ x
  all_goals
    have HD := Lib.hid (show decide (y ≤ x) = _ from rfl)
    simp only [g0, decide_true, decide_false] at HD
    go_enter Tryd.func98, Tryd.ntmps98
    go_wp2
    refine bodyPost_ret (results_none rfl _ _ _) rfl ⟨rfl, ?_⟩
    first
      | exact Wrote.of_set (Below.refl _ _) HH.out 0 _
      | (have hd : decide (y ≤ x) = false := by simp; omega
         rw [hd]; exact Wrote.of_set (Below.refl _ _) HH.out 0 _)
      | (have hd : decide (y ≤ x) = true := by simp; omega
         rw [hd]; exact Wrote.of_set (Below.refl _ _) HH.out 0 _)
set_option maxHeartbeats 1600000 in
theorem each_cov (a b c d : Int) (k : Bool) (g : Nat) {w : World} (h : w.heap[g]? = some (.cells #[.bool k] 4 (0, 0))) :
    Calls Tryd.prog 97 #[.agg #[.int .i64 a, .int .i64 b], .agg #[.int .i64 c, .int .i64 d], .func (.func 98) #[] #[.pointer (some ⟨g, 0, none⟩)]] w (Sets g #[.bool (k && decide (c ≤ a) && decide (d ≤ b))] 4 w) := by
  have hg : g < w.heap.size := (Array.getElem?_eq_some_iff.1 h).1
  have hp := (Pair.new w 26 a b).alloc (.cells #[.int .i64 c, .int .i64 d] 26)
  have hq := Pair.second w (.cells #[.int .i64 a, .int .i64 b] 26) 26 c d
  have hb := second_below w (.cells #[.int .i64 a, .int .i64 b] 26) (.cells #[.int .i64 c, .int .i64 d] 26)
  have hW : Wrote g #[.bool k] 4 w ((w.alloc (.cells #[.int .i64 a, .int .i64 b] 26)).alloc (.cells #[.int .i64 c, .int .i64 d] 26)) :=
    ⟨hb.os, hb.tape, hb.output, hb.size, (hb.block g hg).trans h, fun k hk _ => hb.block k hk⟩
  have HA := Lib.hid (fun (W : World) (h : W.heap[g]? = _) => cov1_c 0 a c k g h)
  have HB := Lib.hid (fun (W : World) (h : W.heap[g]? = _) => cov1_c 1 b d (k && decide (c ≤ a)) g h)
  clear h hb
  go_enter Tryd.func97, Tryd.ntmps97
  go_upto_region 1 with (fail)
  generalize (w.alloc (.cells #[.int .i64 a, .int .i64 b] 26)).alloc (.cells #[.int .i64 c, .int .i64 d] 26) = W1 at *
  have p0 := hp.c0
  have p1 := hp.c1
  have HP := Lib.hid hp
  have HQ := Lib.hid hq
  have HW := Lib.hid hW
  clear hp hq hW
  go_wp2
  go_loopw [9] (fun i wr => (Pair wr w.heap.size 26 a b ∧ Pair wr (w.heap.size + 1) 26 c d) ∧ ((i = .int .i64 0 ∧ Wrote g #[.bool k] 4 w wr) ∨ (i = .int .i64 1 ∧ Wrote g #[.bool (k && decide (c ≤ a))] 4 w wr) ∨ (i = .int .i64 2 ∧ Wrote g #[.bool (k && decide (c ≤ a) && decide (d ≤ b))] 4 w wr))) (fun i _ => 2 - (intOf i).toNat)
  case atStart => exact ⟨⟨HP.out, HQ.out⟩, .inl ⟨rfl, HW.out⟩⟩
  case round =>
    clear HP HQ HW p0 p1
    obtain ⟨⟨hp, hq⟩, ⟨rfl, hW⟩ | ⟨rfl, hW⟩ | ⟨rfl, hW⟩⟩ := hrel
    · have q0 := hq.c0
      have hix := idx0 a b
      have HP := Lib.hid hp
      have HQ := Lib.hid hq
      have HW := Lib.hid hW
      clear hp hq hW
      go_wp2_with (go_at_call 98; (with_reducible refine (HA.out _ HW.out.cell).mono ?_); rintro e w2 ⟨rfl, hw2⟩)
      have HR := Lib.hid (HW.out.trans hw2)
      have HP2 := Lib.hid (hw2.pair HP.out (by omega))
      have HQ2 := Lib.hid (hw2.pair HQ.out (by omega))
      clear hw2 q0
      go_wp2
      go_roundw
      case rel => exact ⟨⟨HP2.out, HQ2.out⟩, .inr (.inl ⟨rfl, HR.out⟩)⟩
      case measure => simp [intOf]
    · have q1 := hq.c1
      have hix := idx1 a b
      have HP := Lib.hid hp
      have HQ := Lib.hid hq
      have HW := Lib.hid hW
      clear hp hq hW
      go_wp2_with (go_at_call 98; (with_reducible refine (HB.out _ HW.out.cell).mono ?_); rintro e w2 ⟨rfl, hw2⟩)
      have HR := Lib.hid (HW.out.trans hw2)
      have HP2 := Lib.hid (hw2.pair HP.out (by omega))
      have HQ2 := Lib.hid (hw2.pair HQ.out (by omega))
      clear hw2 q1
      go_wp2
      go_roundw
      case rel => exact ⟨⟨HP2.out, HQ2.out⟩, .inr (.inr ⟨rfl, HR.out⟩)⟩
      case measure => simp [intOf]
    · have HW := Lib.hid hW
      clear hp hq hW
      go_wp2
      refine bodyPost_ret (results_none rfl _ _ _) rfl ⟨rfl, HW.out⟩
theorem Wrote.flag {g : Nat} {v : Value} {t : TypeId} {w w' : World} (h : Wrote g #[v] t w w') : w'.cell? ⟨g, 0, none⟩ = some v := by
  rw [cell_of_row w' g 0 _ t (0, 0) h.cell]; rfl
theorem flag_new (W : World) (v : Value) (t : TypeId) : (W.alloc (.cells #[v] t)).heap[W.heap.size]? = some (.cells #[v] t (0, 0)) := heap_alloc_new W _
theorem mkf (fn : Fn) (first cap : Array Value) (w : World) : (Instr.makeFunc fn first cap).run Tryd.prog w = .ok (.func fn first cap) w := rfl
set_option maxHeartbeats 1600000 in
theorem vcov_c (a b c d : Int) (w : World) : Calls Tryd.prog 59 #[.agg #[.int .i64 a, .int .i64 b], .agg #[.int .i64 c, .int .i64 d]] w (Tells (.bool (vcov a b c d)) w) := by
  have hp := (Pair.new w 26 a b).alloc (.cells #[.int .i64 c, .int .i64 d] 26)
  have hq := Pair.second w (.cells #[.int .i64 a, .int .i64 b] 26) 26 c d
  have hb := second_below w (.cells #[.int .i64 a, .int .i64 b] 26) (.cells #[.int .i64 c, .int .i64 d] 26)
  have hs : ((w.alloc (.cells #[.int .i64 a, .int .i64 b] 26)).alloc (.cells #[.int .i64 c, .int .i64 d] 26)).heap.size = w.heap.size + 1 + 1 := by simp
  have HE := Lib.hid (fun (W : World) (g : Nat) (h : W.heap[g]? = _) => each_cov a b c d true g h)
  have HS := Lib.hid (step_cov true a b c d)
  have hmf := mkf
  go_enter Tryd.func59, Tryd.ntmps59
  go_upto_region 1 with (fail)
  generalize (w.alloc (.cells #[.int .i64 a, .int .i64 b] 26)).alloc (.cells #[.int .i64 c, .int .i64 d] 26) = W1 at *
  have HP := Lib.hid hp
  have HQ := Lib.hid hq
  have HB := Lib.hid hb
  have HZ := Lib.hid hs
  clear hp hq hb hs
  go_upto_region 2 with (fail)
  have hp2 := HP.out.alloc (.cells #[.bool true] 4)
  have hq2 := HQ.out.alloc (.cells #[.bool true] 4)
  have hb2 := HB.out.alloc HB.out.size (.cells #[.bool true] 4)
  have hf2 := flag_new W1 (.bool true) 4
  obtain ⟨g, hg⟩ : ∃ g, W1.heap.size = g := ⟨_, rfl⟩
  have hs2 : g ≤ (W1.alloc (.cells #[.bool true] 4)).heap.size := by simp [World.size_alloc]; omega
  have hwg : w.heap.size ≤ g := by rw [← hg]; exact HB.out.size
  rw [hg] at hf2 ⊢
  generalize W1.alloc (.cells #[.bool true] 4) = W2 at *
  have p0 := hp2.c0
  have p1 := hp2.c1
  have q0 := hq2.c0
  have q1 := hq2.c1
  have HF := Lib.hid hf2
  have HB2 := Lib.hid hb2
  have HS2 := Lib.hid hs2
  clear hp2 hq2 hf2 hb2 hs2 HP HQ HB HZ hg
  go_upto_region 3 with (go_at_call 97; (with_reducible refine (HE.out _ g HF.out).mono ?_); rintro e w3 ⟨rfl, hw3⟩)
  have hv := hw3.flag
  rw [HS.out] at hv
  have HW := Lib.hid (HB2.out.trans (hw3.below hwg HS2.out))
  clear hw3 p0 p1 q0 q1
  go_wp2
  go_ret
  exact ⟨by simp, HW.out⟩
theorem vgood_cov (a b : Int) : vgood a b = (vcov a b 0 0 && vcov 1099511627776 1099511627776 a b) := by
  unfold vgood vcov
  rw [Bool.eq_iff_iff]
  simp only [Bool.and_eq_true, decide_eq_true_eq]
  omega
set_option maxHeartbeats 1600000 in
theorem vgood_c (a b : Int) (w : World) : Calls Tryd.prog 62 #[.agg #[.int .i64 a, .int .i64 b]] w (Tells (.bool (vgood a b)) w) := by
  have hp := Pair.new w 26 a b
  have hb := alloc_below w (.cells #[.int .i64 a, .int .i64 b] 26)
  have HV := Lib.hid (vgood_cov a b)
  have H1 := Lib.hid (vcov_c a b 0 0)
  have H2 := Lib.hid (vcov_c 1099511627776 1099511627776 a b)
  have HP := Lib.hid hp
  have HB := Lib.hid hb
  have p0 := hp.c0
  have p1 := hp.c1
  clear hp hb
  cases e1 : vcov a b 0 0 <;> cases e2 : vcov 1099511627776 1099511627776 a b
  all_goals
    rw [e1, e2] at HV
    rw [e1] at H1
    rw [e2] at H2
    clear e1 e2
    go_enter Tryd.func62, Tryd.ntmps62
    go_wp2_with (first
      | (go_at_call 59; (with_reducible refine (H2.out w1).mono ?_); rintro e w2 ⟨rfl, hb2⟩; have hs2 := HB.out.trans ((hb1.trans (hb2.mono hb1.size)).mono HB.out.size))
      | (go_at_call 59; (with_reducible refine (H1.out _).mono ?_); rintro e w1 ⟨rfl, hb1⟩; have hs1 := HB.out.trans (hb1.mono HB.out.size); have q0 := (HP.out.kept hb1).c0; have q1 := (HP.out.kept hb1).c1))
    go_ret
    refine ⟨by rw [HV.out]; rfl, ?_⟩
    first
      | exact hs2
      | exact hs1
set_option maxRecDepth 100000 in
set_option maxHeartbeats 3200000 in
theorem vput_c {w : World} {a : Option Addr} {m cap : Nat} {l : List UInt8} (hl : Bys w a m cap l) (hn : m ≤ 100000) (hT : TabW w) (x y : Int) :
    Calls Tryd.prog 88 #[.slice a m cap, .agg #[.int .i64 x, .int .i64 y]] w (BytesPost (vputS l x y) w) := by
  obtain ⟨i0, hi, hz0, hz1, hz2⟩ := info_parts Tryd.info5
  have hp := Pair.new w 26 x y
  have hb := alloc_below w (.cells #[.int .i64 x, .int .i64 y] 26)
  have hln := hl.len
  have HL := Lib.hid (hl.below hb)
  have HTb := Lib.hid (hT.below hb)
  have HP := Lib.hid hp
  have HB := Lib.hid hb
  have G := vgood_c x y
  have HV := Lib.hid (show vputS l x y = if vgood x y = true then l ++ numB x ++ numB y else l from rfl)
  have l0 := HP.out.c0
  have l1 := HP.out.c1
  clear hp hb hl
  cases hg : vgood x y with
  | false =>
    rw [hg] at G
    have HG := Lib.hid G
    have hv : vputS l x y = l := by rw [HV.out, if_neg (by simp [hg])]
    rw [hv]
    clear hv HV G hg
    have HPut := Lib.hid (fun (W : World) (h : Bys W a m cap l) (hT : TabW W) => put_c h (show m ≤ 1000000 by omega) (-1) (by omega) (by omega) hT)
    rw [numB_none (.inl (by decide)), List.append_nil] at HPut
    go_enter Tryd.func88, Tryd.ntmps88
    go_upto_region 1 with (fail)
    generalize w.alloc (.cells #[.int .i64 x, .int .i64 y] 26) = W1 at *
    go_wp2_with (first
      | (go_at_call 62; (with_reducible refine (HG.out _).mono ?_); rintro e w2 ⟨rfl, hb2⟩)
      | (go_at_call 87; (with_reducible refine (HPut.out _ (HL.out.below hb2) (HTb.out.below hb2)).mono ?_); rintro e w3 ⟨v, rfl, ho, hb3⟩))
    go_ret
    have h2 := HB.out.trans (hb2.mono HB.out.size)
    exact ⟨_, rfl, ho.mono h2.size, h2.trans (hb3.mono h2.size)⟩
  | true =>
    rw [hg] at G
    have HG := Lib.hid G
    have hv : vputS l x y = l ++ numB x ++ numB y := by rw [HV.out, if_pos (by simp [hg])]
    rw [hv]
    obtain ⟨x0, x1, y0, y1⟩ := vgood_bd hg
    have hx8 := numB_length x
    obtain ⟨lx, hlx⟩ : ∃ q, l ++ numB x = q := ⟨_, rfl⟩
    have hxl : lx.length ≤ 1000000 := by rw [← hlx, List.length_append]; omega
    obtain ⟨ly, hly⟩ : ∃ q, lx ++ numB y = q := ⟨_, rfl⟩
    rw [hlx, hly]
    clear hv HV G hg
    go_enter Tryd.func88, Tryd.ntmps88
    go_upto_region 1 with (fail)
    generalize w.alloc (.cells #[.int .i64 x, .int .i64 y] 26) = W1 at *
    go_upto_region 3 with (go_at_call 62; (with_reducible refine (HG.out _).mono ?_); rintro e w2 ⟨rfl, hb2⟩)
    have HP2 := Lib.hid (HP.out.kept hb2)
    have HL2 := Lib.hid (HL.out.below hb2)
    have HT2 := Lib.hid (HTb.out.below hb2)
    have HB2 := Lib.hid (HB.out.trans (hb2.mono HB.out.size))
    clear l0 l1 hb2 HP HL HB
    have HC := Lib.hid (fun W (h : Below w2.heap.size w2 W) => And.intro (HP2.out.kept h).c0 (HP2.out.kept h).c1)
    have HPut := Lib.hid (fun W (h : Below w2.heap.size w2 W) => put_c (HL2.out.below h) (show m ≤ 1000000 by omega) x (by omega) (by omega) (HT2.out.below h))
    rw [hlx] at HPut
    have HPut2 := Lib.hid (fun (W : World) (h : Below w2.heap.size w2 W) (a' : Option Addr) (c' : Nat) (hy : Bys W a' lx.length c' lx) => put_c hy hxl y (by omega) (by omega) (HT2.out.below h))
    rw [hly] at HPut2
    clear hlx hly hln
    refine wp_region_flow [none, none, none, none, some 7, none, none, none, none, none, some 0, some 1, some 2, some 3, some 4, some 5, some 6] (fun i => if i = 7 then .slice none 0 0 else undef) [(fun v _ => v = .slice a m cap), (fun v _ => v = .pointer (some ⟨w.heap.size, 0, none⟩)), (fun v _ => v = .int .i64 x), (fun v W => OwnB W w.heap.size 5 v lx), (fun v _ => v = .pointer (some ⟨w.heap.size, 1, none⟩)), (fun v _ => v = .int .i64 y), (fun v W => OwnB W w.heap.size 5 v ly), (fun v W => OwnB W w.heap.size 5 v ly)] (by kernel_rfl) (by kernel_rfl) rfl rfl rfl ?_ ?_ ?_
    · intro g hg v X Y hX hY hv
      simp only [List.mem_cons, List.not_mem_nil, or_false] at hg
      rcases hg with rfl | rfl | rfl | rfl | rfl | rfl | rfl | rfl
      all_goals first
        | exact hv
        | exact hv.kept hY
    · simp only [flowOps, and_true]
      refine ⟨?_, ?_, ?_, ?_, ?_, ?_, ?_, ?_⟩
      · intro xs W hW hn
        simp only [flowAct, List.zipWith_cons_cons, List.zipWith_nil_left]
        go_wp2_with (fail)
        exact ⟨rfl, _, rfl, Below.refl _ _, rfl⟩
      · intro xs W hW hn
        obtain ⟨p0, p1⟩ := HC.out W hW
        simp only [flowAct, List.zipWith_cons_cons, List.zipWith_nil_left]
        go_wp2_with (fail)
        exact ⟨rfl, _, rfl, Below.refl _ _, rfl⟩
      · intro xs W hW hn
        obtain ⟨p0, p1⟩ := HC.out W hW
        simp [flowNeeds, Region.binds] at hn
        simp only [flowAct, List.zipWith_cons_cons, List.zipWith_nil_left, hn]
        go_wp2_with (fail)
        exact ⟨rfl, _, rfl, Below.refl _ _, rfl⟩
      · intro xs W hW hn
        simp [flowNeeds, Region.binds] at hn
        simp only [flowAct, List.zipWith_cons_cons, List.zipWith_nil_left, hn]
        go_wp2_with (go_at_call 87; (with_reducible refine (HPut.out _ hW).mono ?_); rintro e w9 ⟨v, rfl, ho, hb9⟩)
        exact ⟨rfl, _, rfl, hb9, ho.mono (Nat.le_trans HB2.out.size hW.size)⟩
      · intro xs W hW hn
        obtain ⟨p0, p1⟩ := HC.out W hW
        simp only [flowAct, List.zipWith_cons_cons, List.zipWith_nil_left]
        go_wp2_with (fail)
        exact ⟨rfl, _, rfl, Below.refl _ _, rfl⟩
      · intro xs W hW hn
        obtain ⟨p0, p1⟩ := HC.out W hW
        simp [flowNeeds, Region.binds] at hn
        simp only [flowAct, List.zipWith_cons_cons, List.zipWith_nil_left, hn]
        go_wp2_with (fail)
        exact ⟨rfl, _, rfl, Below.refl _ _, rfl⟩
      · intro xs W hW hn
        simp [flowNeeds, Region.binds] at hn
        obtain ⟨ho3, e5⟩ := hn
        obtain ⟨a', c', e3, hy3⟩ := ho3.bys
        simp only [flowAct, List.zipWith_cons_cons, List.zipWith_nil_left, e3, e5]
        go_wp2_with (go_at_call 87; (with_reducible refine (HPut2.out _ hW _ _ hy3).mono ?_); rintro e w9 ⟨v, rfl, ho, hb9⟩)
        exact ⟨rfl, _, rfl, hb9, ho.mono (Nat.le_trans HB2.out.size hW.size)⟩
      · intro xs W hW hn
        simp [flowNeeds, Region.binds] at hn
        simp only [flowAct, List.zipWith_cons_cons, List.zipWith_nil_left]
        go_wp2_with (fail)
        exact ⟨rfl, _, rfl, Below.refl _ _, hn.1⟩
    · intro xs W hW hall
      simp only [flowAll, and_true, Nat.zero_add, Nat.reduceAdd] at hall
      obtain ⟨-, -, -, -, -, -, -, e7⟩ := hall
      simp only [flowAct, List.zipWith_cons_cons, List.zipWith_nil_left]
      go_wp2
      go_ret
      exact ⟨_, rfl, e7, HB2.out.trans (hW.mono HB2.out.size)⟩
set_option maxHeartbeats 3200000 in
theorem vget_c {w : World} {a : Option Addr} {n cap : Nat} {l : List UInt8} (hl : Bys w a n cap l) :
    Calls Tryd.prog 111 #[.slice a n cap] w (Tells (.tuple #[.agg #[.int .i64 (vgetS l).1.1, .int .i64 (vgetS l).1.2], .int .i64 (vgetS l).2.1, .int .i64 (vgetS l).2.2]) w) := by
  have ho := (Pair.new w 26 0 0).alloc (.cells #[.int .i64 0, .int .i64 0] 26)
  have hv := Pair.second w (.cells #[.int .i64 0, .int .i64 0] 26) 26 0 0
  have hb := second_below w (.cells #[.int .i64 0, .int .i64 0] 26) (.cells #[.int .i64 0, .int .i64 0] 26)
  obtain ⟨a0, hs1, hs2, hl0⟩ := slice_bys hl (q := 0) (by omega)
  have hs1 : ∀ W', (Instr.slice 50 (.slice a n cap) (some (.int .i64 0)) none none).run Tryd.prog W' = .ok (.slice a0 (n - 0) (cap - 0)) W' := hs1
  have hs2 : ∀ W', (Instr.sliceAt 50 (.slice a n cap) (some (.int .i64 0)) none none).run Tryd.prog W' = .ok (.slice a0 (n - 0) (cap - 0)) W' := hs2
  simp only [Nat.sub_zero, List.drop_zero] at hs1 hs2 hl0
  have HR := Lib.hid (fun W (h : Below w.heap.size w W) => get_c (hl0.below h))
  have hok := getS_ok l
  have hlen := hl.len
  have hmx : n ≤ 9223372036854775807 := Nat.le_trans hl.le hl.max
  have HO := Lib.hid ho
  have HVc := Lib.hid hv
  have HB := Lib.hid hb
  clear ho hv hb hl0
  obtain ⟨⟨x, k, f⟩, hx⟩ : ∃ q, getS l = q := ⟨_, rfl⟩
  rw [hx] at HR hok
  simp only at HR hok
  have HS1 := Lib.hid hs1
  have HS2 := Lib.hid hs2
  clear hs1 hs2
  by_cases hf : f = 0
  · subst hf
    obtain ⟨q, rfl, hq1, hq2, x0, x1⟩ := hok rfl
    obtain ⟨a', ht1, ht2, hl2⟩ := slice_bys hl (q := q) (by omega)
    have HR2 := Lib.hid (fun W (h : Below w.heap.size w W) => get_c (hl2.below h))
    have hok2 := getS_ok (l.drop q)
    obtain ⟨⟨y, k2, f2⟩, hy⟩ : ∃ z, getS (l.drop q) = z := ⟨_, rfl⟩
    rw [hy] at HR2 hok2
    simp only at HR2 hok2
    have hq3 : q ≤ n := by omega
    have HT1 := Lib.hid ht1
    have HT2 := Lib.hid ht2
    have hqs : (q : Int) ≤ 9223372036854775807 := by omega
    clear hl hl2 hok ht1 ht2
    by_cases hf2 : f2 = 0
    · subst hf2
      obtain ⟨q2, rfl, hq4, hq5, y0, y1⟩ := hok2 rfl
      have HV := Lib.hid (vget_two hx hy)
      have hsum : ((q : Int) + (q2 : Int)) ≤ 9223372036854775807 := by rw [List.length_drop] at hq5; omega
      have G := vgood_c x y
      clear hok2 hq5 hx hy hlen hmx
      go_enter Tryd.func111, Tryd.ntmps111
      go_upto_region 2 with (fail)
      generalize (w.alloc (.cells #[.int .i64 0, .int .i64 0] 26)).alloc (.cells #[.int .i64 0, .int .i64 0] 26) = W1 at *
      go_wp2
      go_loopw [6, 11] (fun sz i wr => (Pair wr w.heap.size 26 0 0 ∧ Below w.heap.size w wr) ∧ ((i = .int .i64 0 ∧ sz = .int .i64 0 ∧ Pair wr (w.heap.size + 1) 26 0 0) ∨ (i = .int .i64 1 ∧ sz = .int .i64 (q : Int) ∧ Pair wr (w.heap.size + 1) 26 x 0) ∨ (i = .int .i64 2 ∧ sz = .int .i64 ((q : Int) + (q2 : Int)) ∧ Pair wr (w.heap.size + 1) 26 x y))) (fun _ i _ => 2 - (intOf i).toNat)
      case atStart => exact ⟨⟨HO.out, HB.out⟩, .inl ⟨rfl, rfl, HVc.out⟩⟩
      case round =>
        clear HO HB HVc
        obtain ⟨⟨ho, hB⟩, ⟨rfl, rfl, hv⟩ | ⟨rfl, rfl, hv⟩ | ⟨rfl, rfl, hv⟩⟩ := hrel
        · have HV0 := Lib.hid hv
          have HO2 := Lib.hid ho
          have HB2 := Lib.hid hB
          have hs1 := HS1.out
          have hs2 := HS2.out
          have u0 := hv.c0
          have z0 := hv.fz 0
          clear ho hB hv
          go_wp2_with (go_at_call 107; (with_reducible refine (HR.out _ HB2.out).mono ?_); rintro e w1 ⟨rfl, rfl⟩)
          go_roundw
          case rel => exact ⟨⟨HO2.out.other _ _ (by simp), HB2.out.setCell (by simp) _⟩, .inr (.inl ⟨rfl, by simp, HV0.out.set0 _⟩)⟩
          case measure => simp [intOf]
        · have HV0 := Lib.hid hv
          have HO2 := Lib.hid ho
          have HB2 := Lib.hid hB
          have ht1 := HT1.out
          have ht2 := HT2.out
          have u1 := hv.c1
          have z1 := hv.fz 1
          clear ho hB hv
          go_wp2_with (go_at_call 107; (with_reducible refine (HR2.out _ HB2.out).mono ?_); rintro e w1 ⟨rfl, rfl⟩)
          go_roundw
          case rel => exact ⟨⟨HO2.out.other _ _ (by simp), HB2.out.setCell (by simp) _⟩, .inr (.inr ⟨rfl, rfl, HV0.out.set1 _⟩)⟩
          case measure => simp [intOf]
        · have u0 := hv.c0
          have u1 := hv.c1
          have HX2 := Lib.hid hv
          have HO2 := Lib.hid ho
          have HB2 := Lib.hid hB
          clear ho hB hv
          cases hg : vgood x y with
          | true =>
            rw [hg] at G HV
            have HG := Lib.hid G
            have HV3 := Lib.hid (show vgetS l = ((x, y), (q : Int) + (q2 : Int), 0) by rw [HV.out, if_pos rfl])
            clear G hg HV
            go_wp2_with (go_at_call 62; (with_reducible refine (HG.out _).mono ?_); rintro e w3 ⟨rfl, hb3⟩; have y0 := (HX2.out.kept hb3).c0; have y1 := (HX2.out.kept hb3).c1; have o0 := (HO2.out.kept hb3).c0; have o1 := (HO2.out.kept hb3).c1; have z0 := (HO2.out.kept hb3).fz 0; have z1 := (HO2.out.kept hb3).fz 1)
            refine bodyPost_ret (res_cell_tmp2 rfl _ _ w.heap.size 26 _ (0, 0) _ (.int .i64 ((q : Int) + (q2 : Int))) (.int .i64 0) rfl rfl rfl (((HO2.out.kept hb3).set0 _).set1 _) Tryd.underlying26 rfl (size2 _ _)) rfl ⟨by rw [HV3.out], ((HB2.out.trans (hb3.mono HB2.out.size)).setCell (by simp) _).setCell (by simp) _⟩
          | false =>
            rw [hg] at G HV
            have HG := Lib.hid G
            have HV3 := Lib.hid (show vgetS l = ((0, 0), 0, 11) by rw [HV.out, if_neg (by simp)])
            clear G hg HV
            go_wp2_with (go_at_call 62; (with_reducible refine (HG.out _).mono ?_); rintro e w3 ⟨rfl, hb3⟩; have y0 := (HX2.out.kept hb3).c0; have y1 := (HX2.out.kept hb3).c1; have o0 := (HO2.out.kept hb3).c0; have o1 := (HO2.out.kept hb3).c1; have z0 := (HO2.out.kept hb3).fz 0; have z1 := (HO2.out.kept hb3).fz 1)
            refine bodyPost_ret (res_cell_tmp2 rfl _ _ w.heap.size 26 _ (0, 0) _ (.int .i64 0) (.int .i64 11) rfl rfl rfl (((HO2.out.kept hb3).set0 _).set1 _) Tryd.underlying26 rfl (size2 _ _)) rfl ⟨by rw [HV3.out], ((HB2.out.trans (hb3.mono HB2.out.size)).setCell (by simp) _).setCell (by simp) _⟩
    · have hf1 : (f2 != 0) = true := by simpa using hf2
      have HV2 := Lib.hid (vget_err2 hx hy hf2)
      clear hok2 hx hy hlen hf2 hmx
      go_enter Tryd.func111, Tryd.ntmps111
      go_upto_region 2 with (fail)
      generalize (w.alloc (.cells #[.int .i64 0, .int .i64 0] 26)).alloc (.cells #[.int .i64 0, .int .i64 0] 26) = W1 at *
      go_wp2
      go_loopw [6, 11] (fun sz i wr => (Pair wr w.heap.size 26 0 0 ∧ Below w.heap.size w wr) ∧ ((i = .int .i64 0 ∧ sz = .int .i64 0 ∧ Pair wr (w.heap.size + 1) 26 0 0) ∨ (i = .int .i64 1 ∧ sz = .int .i64 (q : Int) ∧ Pair wr (w.heap.size + 1) 26 x 0))) (fun _ i _ => 2 - (intOf i).toNat)
      case atStart => exact ⟨⟨HO.out, HB.out⟩, .inl ⟨rfl, rfl, HVc.out⟩⟩
      case round =>
        clear HO HB HVc
        obtain ⟨⟨ho, hB⟩, ⟨rfl, rfl, hv⟩ | ⟨rfl, rfl, hv⟩⟩ := hrel
        · have HV0 := Lib.hid hv
          have HO2 := Lib.hid ho
          have HB2 := Lib.hid hB
          have hs1 := HS1.out
          have hs2 := HS2.out
          have u0 := hv.c0
          have z0 := hv.fz 0
          clear ho hB hv
          go_wp2_with (go_at_call 107; (with_reducible refine (HR.out _ HB2.out).mono ?_); rintro e w1 ⟨rfl, rfl⟩)
          go_roundw
          case rel => exact ⟨⟨HO2.out.other _ _ (by simp), HB2.out.setCell (by simp) _⟩, .inr (⟨rfl, by simp, HV0.out.set0 _⟩)⟩
          case measure => simp [intOf]
        · have HO2 := Lib.hid ho
          have HB2 := Lib.hid hB
          have ht1 := HT1.out
          have ht2 := HT2.out
          have o0 := ho.c0
          have o1 := ho.c1
          have z0 := ho.fz 0
          have z1 := ho.fz 1
          clear ho hB hv
          go_wp2_with (go_at_call 107; (with_reducible refine (HR2.out _ HB2.out).mono ?_); rintro e w1 ⟨rfl, rfl⟩)
          refine bodyPost_ret (res_cell_tmp2 rfl _ _ w.heap.size 26 _ (0, 0) _ (.int .i64 0) (.int .i64 f2) rfl rfl rfl ((HO2.out.set0 _).set1 _) Tryd.underlying26 rfl (size2 _ _)) rfl ⟨by rw [HV2.out], (HB2.out.setCell (by simp) _).setCell (by simp) _⟩
  · have hf1 : (f != 0) = true := by simpa using hf
    have HV2 := Lib.hid (vget_err1 hx hf)
    clear hok hx hlen hf hl hmx
    go_enter Tryd.func111, Tryd.ntmps111
    go_upto_region 2 with (fail)
    generalize (w.alloc (.cells #[.int .i64 0, .int .i64 0] 26)).alloc (.cells #[.int .i64 0, .int .i64 0] 26) = W1 at *
    go_wp2
    go_loopw [6, 11] (fun sz i wr => (Pair wr w.heap.size 26 0 0 ∧ Below w.heap.size w wr) ∧ (i = .int .i64 0 ∧ sz = .int .i64 0)) (fun _ i _ => 2 - (intOf i).toNat)
    case atStart => exact ⟨⟨HO.out, HB.out⟩, rfl, rfl⟩
    case round =>
      clear HO HB HVc
      obtain ⟨⟨ho, hB⟩, rfl, rfl⟩ := hrel
      have HO2 := Lib.hid ho
      have HB2 := Lib.hid hB
      have hs1 := HS1.out
      have hs2 := HS2.out
      have o0 := ho.c0
      have o1 := ho.c1
      have z0 := ho.fz 0
      have z1 := ho.fz 1
      clear ho hB
      go_wp2_with (go_at_call 107; (with_reducible refine (HR.out _ HB2.out).mono ?_); rintro e w1 ⟨rfl, rfl⟩)
      refine bodyPost_ret (res_cell_tmp2 rfl _ _ w.heap.size 26 _ (0, 0) _ (.int .i64 0) (.int .i64 f) rfl rfl rfl ((HO2.out.set0 _).set1 _) Tryd.underlying26 rfl (size2 _ _)) rfl ⟨by rw [HV2.out], (HB2.out.setCell (by simp) _).setCell (by simp) _⟩
end Go.Proofs.YtfkmfccdhmnllaaDoor
end

section
namespace Go.Proofs.YtfkmfccdhmnllaaDoor
open Go.RowKit Go Go.Sort
set_option linter.unusedVariables false
set_option maxRecDepth 20000

/-- A cell that lies at a block's head. -/
def Cel (W : World) (q : Nat) (n s a b : Int) (g : Bool) (t : List UInt8) (d e : Int) : Prop := W.heap[q]? = some (.cells #[.int .i64 n, .int .i64 s, .int .i64 a, .int .i64 b, .bool g, .string (text t), .int .i64 d, .int .i64 e] 67 (0, 0))
theorem Cel.lt {W : World} {q : Nat} {n s a b d e : Int} {g : Bool} {t : List UInt8} (h : Cel W q n s a b g t d e) : q < W.heap.size := (Array.getElem?_eq_some_iff.1 h).1
theorem Cel.kept {W W' : World} {q : Nat} {n s a b d e : Int} {g : Bool} {t : List UInt8} (h : Cel W q n s a b g t d e) (hb : Below W.heap.size W W') : Cel W' q n s a b g t d e := (hb.block q h.lt).trans h
theorem Cel.new (W : World) (n s a b : Int) (g : Bool) (t : List UInt8) (d e : Int) : Cel (W.alloc (.cells #[.int .i64 n, .int .i64 s, .int .i64 a, .int .i64 b, .bool g, .string (text t), .int .i64 d, .int .i64 e] 67)) W.heap.size n s a b g t d e := heap_alloc_new W _
theorem Cel.cs {W : World} {q : Nat} {n s a b d e : Int} {g : Bool} {t : List UInt8} (h : Cel W q n s a b g t d e) :
    W.cell? ⟨q, 0, none⟩ = some (.int .i64 n) ∧ W.cell? ⟨q, 1, none⟩ = some (.int .i64 s) ∧ W.cell? ⟨q, 2, none⟩ = some (.int .i64 a) ∧ W.cell? ⟨q, 3, none⟩ = some (.int .i64 b) ∧
    W.cell? ⟨q, 4, none⟩ = some (.bool g) ∧ W.cell? ⟨q, 5, none⟩ = some (.string (text t)) ∧ W.cell? ⟨q, 6, none⟩ = some (.int .i64 d) ∧ W.cell? ⟨q, 7, none⟩ = some (.int .i64 e) := by
  refine ⟨?_, ?_, ?_, ?_, ?_, ?_, ?_, ?_⟩ <;> (rw [cell_of_row W q _ _ _ (0, 0) h]; rfl)
theorem Cel.alloc {W : World} {q : Nat} {n s a b d e : Int} {g : Bool} {t : List UInt8} (h : Cel W q n s a b g t d e) (o : Obj) : Cel (W.alloc o) q n s a b g t d e := (Below.heap_alloc W o q h.lt).trans h

def zeroS (d e : Int) : Bool := decide (d = 0) && decide (e = 0)
def wroteS (n s a b : Int) (g : Bool) (t : List UInt8) : Bool := n != 0 || (s != 0 || (a != 0 || (b != 0 || (g || t != []))))
end Go.Proofs.YtfkmfccdhmnllaaDoor
end

section
namespace Go.Proofs.YtfkmfccdhmnllaaDoor
open Go.RowKit Go Go.Sort
set_option linter.unusedVariables false
set_option maxRecDepth 20000

def cgoodS (p n s a b : Int) (g : Bool) (t : List UInt8) (d e : Int) : Bool :=
  ((p == 1 && zeroS d e) || (p == 2 && (!g && vgood d e))) && (!wroteS n s a b g t || (sgood n s && (decide (0 < n) && (vgood a b && (decide (t.length ≤ 64) && (!g || t == []))))))

end Go.Proofs.YtfkmfccdhmnllaaDoor
end

section
namespace Go.Proofs.YtfkmfccdhmnllaaDoor
open Go.RowKit Go Go.Sort
set_option linter.unusedVariables false
set_option maxRecDepth 20000

theorem vec_eqb (x y x' y' : Int) (r : Bool) (h : ((x == x') && (y == y')) = r) (W : World) : (binOp .eql 26 (.agg #[.int .i64 x, .int .i64 y]) (.agg #[.int .i64 x', .int .i64 y'])).run Tryd.prog W = .ok (.bool r) W := by
  rw [run_eql_struct, vec_eqIn, h]; rfl
end Go.Proofs.YtfkmfccdhmnllaaDoor
end

section
namespace Go.Proofs.YtfkmfccdhmnllaaDoor
open Go.RowKit
set_option linter.unusedVariables false
set_option maxRecDepth 20000

/-- What texts bytes begin with. -/
def textS (l : List UInt8) (most : Int) : List UInt8 × Int × Int :=
  if ¬ (getS l).2.2 = 0 then ([], 0, (getS l).2.2)
  else if most < (getS l).1 then ([], 0, 3)
  else if (l.length : Int) - (getS l).2.1 < (getS l).1 then ([], 0, 10)
  else ((l.drop (getS l).2.1.toNat).take (getS l).1.toNat, (getS l).2.1 + (getS l).1, 0)

def RetT (t : List UInt8 × Int × Int) (w : World) (e : Ending) (w' : World) : Prop := e = .returned (.tuple #[.string (text t.1), .int .i64 t.2.1, .int .i64 t.2.2]) ∧ w = w'
theorem RetT.mk {s : ByteArray} {x y : Int} {t : List UInt8 × Int × Int} {z : List UInt8} {w : World} (hs : s = text z) (h : t = (z, x, y)) : RetT t w (.returned (.tuple #[.string s, .int .i64 x, .int .i64 y])) w := by
  subst h; subst hs; exact ⟨rfl, rfl⟩

theorem text_nil : (⟨#[]⟩ : ByteArray) = text [] := rfl

set_option maxHeartbeats 800000 in
theorem gettext_c {w : World} {a : Option Addr} {n cap : Nat} {l : List UInt8} (hb : Bys w a n cap l) (most : Int) (m0 : -9223372036854775808 ≤ most) (m1 : most ≤ 9223372036854775807) :
    Calls Tryd.prog 140 #[.slice a n cap, .int .i64 most] w (RetT (textS l most) w) := by
  have hlen : l.length = n := hb.len
  have hmax := hb.max
  have hle := hb.le
  by_cases he : (getS l).2.2 = 0
  · obtain ⟨q, hq, hq1, hq2, hv0, hv1⟩ := getS_ok l he
    have hbe : ((getS l).2.2 != 0) = false := by rw [he]; rfl
    have hqi : (getS l).2.1 = (q : Int) := hq
    have hqn : q ≤ n := by omega
    obtain ⟨N, hN⟩ := Int.eq_ofNat_of_zero_le hv0
    by_cases c1 : most < (getS l).1
    · have HT := Lib.hid (show textS l most = ([], 0, 3) by unfold textS; rw [if_neg (by omega), if_pos c1])
      have hd : decide (most < (getS l).1) = true := by simpa using c1
      rw [hN] at hd hv1
      have HQ := Lib.hid hN
      clear he hq hN c1
      have hNi := HQ.out
      go_enter Tryd.func140, Tryd.ntmps140
      go_wp2_with (go_at_call 107; refine (get_c hb).mono ?_; rintro e w' ⟨rfl, rfl⟩)
      go_ret3
      exact RetT.mk text_nil HT.out
    by_cases c2 : (n : Int) - (q : Int) < (getS l).1
    · have HT := Lib.hid (show textS l most = ([], 0, 10) by unfold textS; rw [if_neg (by omega), if_neg c1, if_pos (by rw [hlen, hq]; exact c2)])
      have hd : decide (most < (getS l).1) = false := by simp; omega
      have hd2 : decide ((n : Int) - (q : Int) < (getS l).1) = true := by simpa using c2
      rw [hN] at hd hd2 hv1
      have HQ := Lib.hid hN
      clear he hq hN c1 c2
      have hNi := HQ.out
      go_enter Tryd.func140, Tryd.ntmps140
      go_wp2_with (go_at_call 107; refine (get_c hb).mono ?_; rintro e w' ⟨rfl, rfl⟩)
      go_ret3
      exact RetT.mk text_nil HT.out
    · rw [hN] at c1 c2
      have HT := Lib.hid (show textS l most = ((l.drop q).take N, (q : Int) + (N : Int), 0) by
        unfold textS; rw [if_neg (by omega), hN, if_neg c1, hlen, hq, if_neg c2, Int.toNat_natCast, Int.toNat_natCast])
      have hd : decide (most < (N : Int)) = false := by simp; omega
      have hd2 : decide ((n : Int) - (q : Int) < (N : Int)) = false := by simp; omega
      have hqN : q + N ≤ n := by omega
      have HQ := Lib.hid hN
      clear he hq hN c1 c2 hv0 hv1
      have hNi := HQ.out
      by_cases hcq : cap = q
      · obtain rfl : N = 0 := by omega
        have hm0 : 0 ≤ most := by simpa using hd
        obtain rfl : n = q := by omega
        subst hcq
        have hdr : Bys w a 0 0 [] := ⟨rfl, Nat.le_refl _, by omega, .inl rfl⟩
        have hcv := conv_bys (P := Tryd.prog) hdr Tryd.underlying50 Tryd.underlying5 Tryd.underlying9
        go_enter Tryd.func140, Tryd.ntmps140
        go_wp2_with (go_at_call 107; refine (get_c hb).mono ?_; rintro e w' ⟨rfl, rfl⟩)
        go_ret3
        exact RetT.mk rfl (by rw [HT.out, List.take_zero]; simp)
      · have hdr := (hb.drop hqn).take (show N ≤ n - q by omega)
        have hcv := conv_bys (P := Tryd.prog) hdr Tryd.underlying50 Tryd.underlying5 Tryd.underlying9
        go_enter Tryd.func140, Tryd.ntmps140
        go_wp2_with (go_at_call 107; refine (get_c hb).mono ?_; rintro e w' ⟨rfl, rfl⟩)
        go_ret3
        exact RetT.mk rfl HT.out
  · have HT := Lib.hid (show textS l most = ([], 0, (getS l).2.2) by unfold textS; rw [if_pos he])
    have hbe : ((getS l).2.2 != 0) = true := by simpa using he
    clear he
    go_enter Tryd.func140, Tryd.ntmps140
    go_wp2_with (go_at_call 107; refine (get_c hb).mono ?_; rintro e w' ⟨rfl, rfl⟩)
    go_ret3
    exact RetT.mk text_nil HT.out
set_option maxHeartbeats 800000 in
theorem rgettext_c {w : World} {a : Option Addr} {n cap : Nat} {l : List UInt8} (hb : Bys w a n cap l) (most : Int) (m0 : -9223372036854775808 ≤ most) (m1 : most ≤ 9223372036854775807) :
    Calls Tryd.prog 116 #[.slice a n cap, .int .i64 most] w (RetT (textS l most) w) := by
  have hlen : l.length = n := hb.len
  have hmax := hb.max
  have hle := hb.le
  by_cases he : (getS l).2.2 = 0
  · obtain ⟨q, hq, hq1, hq2, hv0, hv1⟩ := getS_ok l he
    have hbe : ((getS l).2.2 != 0) = false := by rw [he]; rfl
    have hqi : (getS l).2.1 = (q : Int) := hq
    have hqn : q ≤ n := by omega
    obtain ⟨N, hN⟩ := Int.eq_ofNat_of_zero_le hv0
    by_cases c1 : most < (getS l).1
    · have HT := Lib.hid (show textS l most = ([], 0, 3) by unfold textS; rw [if_neg (by omega), if_pos c1])
      have hd : decide (most < (getS l).1) = true := by simpa using c1
      rw [hN] at hd hv1
      have HQ := Lib.hid hN
      clear he hq hN c1
      have hNi := HQ.out
      go_enter Tryd.func116, Tryd.ntmps116
      go_wp2_with (go_at_call 83; refine (rget_c hb).mono ?_; rintro e w' ⟨rfl, rfl⟩)
      go_ret3
      exact RetT.mk text_nil HT.out
    by_cases c2 : (n : Int) - (q : Int) < (getS l).1
    · have HT := Lib.hid (show textS l most = ([], 0, 10) by unfold textS; rw [if_neg (by omega), if_neg c1, if_pos (by rw [hlen, hq]; exact c2)])
      have hd : decide (most < (getS l).1) = false := by simp; omega
      have hd2 : decide ((n : Int) - (q : Int) < (getS l).1) = true := by simpa using c2
      rw [hN] at hd hd2 hv1
      have HQ := Lib.hid hN
      clear he hq hN c1 c2
      have hNi := HQ.out
      go_enter Tryd.func116, Tryd.ntmps116
      go_wp2_with (go_at_call 83; refine (rget_c hb).mono ?_; rintro e w' ⟨rfl, rfl⟩)
      go_ret3
      exact RetT.mk text_nil HT.out
    · rw [hN] at c1 c2
      have HT := Lib.hid (show textS l most = ((l.drop q).take N, (q : Int) + (N : Int), 0) by
        unfold textS; rw [if_neg (by omega), hN, if_neg c1, hlen, hq, if_neg c2, Int.toNat_natCast, Int.toNat_natCast])
      have hd : decide (most < (N : Int)) = false := by simp; omega
      have hd2 : decide ((n : Int) - (q : Int) < (N : Int)) = false := by simp; omega
      have hqN : q + N ≤ n := by omega
      have HQ := Lib.hid hN
      clear he hq hN c1 c2 hv0 hv1
      have hNi := HQ.out
      by_cases hcq : cap = q
      · obtain rfl : N = 0 := by omega
        have hm0 : 0 ≤ most := by simpa using hd
        obtain rfl : n = q := by omega
        subst hcq
        have hdr : Bys w a 0 0 [] := ⟨rfl, Nat.le_refl _, by omega, .inl rfl⟩
        have hcv := conv_bys (P := Tryd.prog) hdr Tryd.underlying50 Tryd.underlying5 Tryd.underlying9
        go_enter Tryd.func116, Tryd.ntmps116
        go_wp2_with (go_at_call 83; refine (rget_c hb).mono ?_; rintro e w' ⟨rfl, rfl⟩)
        go_ret3
        exact RetT.mk rfl (by rw [HT.out, List.take_zero]; simp)
      · have hdr := (hb.drop hqn).take (show N ≤ n - q by omega)
        have hcv := conv_bys (P := Tryd.prog) hdr Tryd.underlying50 Tryd.underlying5 Tryd.underlying9
        go_enter Tryd.func116, Tryd.ntmps116
        go_wp2_with (go_at_call 83; refine (rget_c hb).mono ?_; rintro e w' ⟨rfl, rfl⟩)
        go_ret3
        exact RetT.mk rfl HT.out
  · have HT := Lib.hid (show textS l most = ([], 0, (getS l).2.2) by unfold textS; rw [if_pos he])
    have hbe : ((getS l).2.2 != 0) = true := by simpa using he
    clear he
    go_enter Tryd.func116, Tryd.ntmps116
    go_wp2_with (go_at_call 83; refine (rget_c hb).mono ?_; rintro e w' ⟨rfl, rfl⟩)
    go_ret3
    exact RetT.mk text_nil HT.out

/-- append(v, s...), v a row of the call's own, s a string. -/
theorem run_append_text {P : Program} {w : World} {base : Nat} {t tx ty e : TypeId} {i : TypeInfo} {z : Value} (ht : P.underlying t = some (.slice e)) (hk : P.underlying tx = some .string) (hi : P.info? e = some i) (hz : i.zero = some z)
    (hsize : i.size = 1) (hby : i.bytes = 1) (hzs : z.cells.size = 1) {g cap : Nat} {k : List UInt8} (hown : OwnB w base e (.slice (some ⟨g, 0, none⟩) k.length cap) k)
    (s : ByteArray) (h63 : k.length + s.size ≤ 140737488355328) (hbase : base ≤ w.heap.size) :
    ∃ v' w', (Builtin.append_ #[t, tx] ty #[.slice (some ⟨g, 0, none⟩) k.length cap, .string s]).run P w = .ok v' w' ∧ OwnB w' base e v' (k ++ s.data.toList) ∧ w.grownBy w' (some g) := by
  have hS : Src P i.size tx (.string s) s.size (u8v s.data.toList) w := by rw [hsize]; exact Src.ofString w hk s
  have hsl : s.data.toList.length = s.size := by simp
  have hlen : (k ++ s.data.toList).length = k.length + s.size := by rw [List.length_append, hsl]
  have hown' := hown
  rcases hown'.2 with ⟨h', _⟩ | ⟨g', cap', cur, h', hbg, hg, hnc, hcm, hcs, htake⟩
  · simp at h'
  simp only [Value.slice.injEq, Option.some.injEq, Addr.mk.injEq, and_true, true_and] at h'
  obtain ⟨rfl, rfl⟩ := h'
  have hul : (u8v s.data.toList).length = s.size := by rw [u8v_length, hsl]
  by_cases hroom : k.length + s.size ≤ cap
  · have hfit : k.length * i.size + (u8v s.data.toList).length ≤ cur.size := by rw [hul, hcs, hsize]; omega
    have hst := run_storeCells_at P g (k.length * i.size) e (u8v s.data.toList) 0 cur w hg (by simpa using hfit) hS.one
    simp only [Nat.add_zero] at hst
    refine ⟨.slice (some ⟨g, 0, none⟩) (k.length + s.size) cap, w.setRow g (cur.toList.take (k.length * i.size) ++ u8v s.data.toList ++ cur.toList.drop (k.length * i.size + (u8v s.data.toList).length)).toArray, ?_, ?_, ?_⟩
    · simp [Builtin.append_, run_underlying ht, run_underlying hk, sizeOf, typeInfo, hi, hS.len, hroom, hS.cells, Addr.add_lit, hst]
    · unfold OwnB
      rw [hlen]
      refine ⟨by rw [u8v_length, hlen]; omega, .inr ⟨g, cap, _, rfl, hbg, setRow_heap w g cur _ e _ hg, hroom, hcm, ?_, ?_⟩⟩
      · simp only [List.size_toArray, List.length_append, List.length_take, List.length_drop, Array.length_toList]
        omega
      · rw [hsize, htake, u8v_append]
        have h2 : (u8v k ++ u8v s.data.toList).length = (k.length + s.size) * 1 := by rw [List.length_append, u8v_length, hul]; omega
        simp only []
        rw [← h2]
        exact List.take_left
    · exact ⟨rfl, rfl, rfl, by simp, fun j _ hj => setRow_other w g j _ (fun e => hj (by simp [e]))⟩
  · have hcells : ∀ j u, (u8v k)[j]? = some u → w.drew.cell? ((⟨g, 0, none⟩ : Addr).add j) = some u := World.ownsRow.cells (g := g) (World.ownsRow.drew hown) rfl
    have hold := run_firstCells_some (P := P) w.drew i.size k.length ⟨g, 0, none⟩ k.length cap (u8v k) (by rw [u8v_length, hsize]; omega) hcells
    have hr := run_append_grow_src (P := P) w t tx ty e i z ht hi hz (some ⟨g, 0, none⟩) k.length cap (u8v k) hold (.string s) s.size (u8v s.data.toList) hS (by omega) (by omega) (growslice_fits (by omega) (by rw [hby]; omega))
    refine ⟨_, _, hr, ?_, ⟨rfl, rfl, rfl, by simp, fun j hj _ => heap_alloc_old w.drew _ hj⟩⟩
    have hge := grownCap_ge w (k.length + s.size) cap e
    have hcl : grownCap w (k.length + s.size) cap e ≤ maxLen := grownCap_le_maxLen w (k.length + s.size) cap e (by unfold maxLen; omega)
    unfold OwnB
    rw [hlen]
    refine ⟨by rw [u8v_length, hlen]; omega, .inr ⟨w.heap.size, _, _, rfl, hbase, heap_alloc_new w.drew _, hge, hcl, ?_, ?_⟩⟩
    · simp only [Array.size_append, List.size_toArray, List.length_append, size_zeroCells, hzs, u8v_length, hsl]
      omega
    · simp only [Array.toList_append]
      rw [u8v_append]
      have h2 : (u8v k ++ u8v s.data.toList).length = (k.length + s.size) * 1 := by rw [List.length_append, u8v_length, hul]; omega
      rw [← h2]
      exact List.take_left

theorem wpList_append_text {P : Program} {w : World} {ops : Array Oper} {rest : List Oper} {o : Oper} {a : Act} {Q : Exit → Act → World → Prop} (hgd : o.guard = none) (sl x : Operand) (t tx : TypeId)
    (ho : o.op = .call { callee := .builtin .append, args := #[sl, x], argTypes := #[t, tx] })
    {base : Nat} {e : TypeId} {i : TypeInfo} {z : Value} (ht : P.underlying t = some (.slice e)) (hk : P.underlying tx = some .string) (hi : P.info? e = some i) (hz : i.zero = some z)
    (hsize : i.size = 1) (hby : i.bytes = 1) (hzs : z.cells.size = 1) {g cap : Nat} {k : List UInt8} (hs : a.eval sl = .slice (some ⟨g, 0, none⟩) k.length cap) (hown : OwnB w base e (.slice (some ⟨g, 0, none⟩) k.length cap) k)
    (s : ByteArray) (hx : a.eval x = .string s) (h63 : k.length + s.size ≤ 140737488355328) (hbase : base ≤ w.heap.size)
    (h : ∀ v' w', OwnB w' base e v' (k ++ s.data.toList) → w.grownBy w' (some g) → wpList P ops Q rest (a.put o.dst v') w') : wpList P ops Q (o :: rest) a w := by
  refine wpList_plain hgd fun K hK => ?_
  obtain ⟨v', w', hr, h2, h3⟩ := run_append_text (P := P) (ty := o.type) ht hk hi hz hsize hby hzs hown s h63 hbase
  unfold Oper.wp execOp
  simp only [ho, resolve, invoke, builtin, Sem.run_bind, Sem.run_pure, Result.andThen_ok, List.map_toArray, List.map_cons, List.map_nil, hs, hx, hr]
  exact hK _ _ (h v' w' h2 h3)
def putTextS (l s : List UInt8) : List UInt8 := l ++ numB (s.length : Int) ++ s

set_option maxHeartbeats 1600000 in
theorem puttext_c {w : World} {a : Option Addr} {m cap : Nat} {l : List UInt8} (hb : Bys w a m cap l) (s : ByteArray) (hn : m ≤ 1000000) (hs : s.size ≤ 1000000) (hT : TabW w) :
    Calls Tryd.prog 90 #[.slice a m cap, .string s] w (BytesPost (putTextS l s.data.toList) w) := by
  obtain ⟨i0, hi, hz0, hz1, hz2⟩ := info_parts Tryd.info5
  have hpos : 0 < (l ++ numB (s.size : Int)).length := by
    obtain ⟨k, h1, h2, _⟩ := sizeS_cases (n := (s.size : Int)) (by omega) (by omega)
    rw [List.length_append]; unfold numB; rw [numK_length, h1]; omega
  have hlen : (l ++ numB (s.size : Int)).length ≤ 1000008 := by
    have := numB_length (s.size : Int); have := hb.len; rw [List.length_append]; omega
  have hsl : s.data.toList.length = s.size := by simp
  have hc := put_c hb hn (s.size : Int) (by omega) (by omega) hT
  obtain ⟨K, hK⟩ : ∃ K, K = l ++ numB (s.size : Int) := ⟨_, rfl⟩
  have HK := Lib.hid (show putTextS l s.data.toList = K ++ s.data.toList by unfold putTextS; rw [hsl, hK])
  rw [← hK] at hpos hlen hc
  clear hsl hK
  have HC := Lib.hid hc
  clear hc
  go_enter Tryd.func90, Tryd.ntmps90
  go_wp2_with (first
    | (go_at_call 87; refine (HC.out).mono ?_; rintro e w1 ⟨v, rfl, hov, hbv⟩; obtain ⟨g, cv, rfl, hrow⟩ := hov.row hpos)
    | (at_builtin; refine wpList_append_text rfl (.tmp 8) (.tmp 9) 50 9 rfl Tryd.underlying50 Tryd.underlying9 hi hz0 hz1 hz2 rfl rfl hrow s rfl (by omega) hbv.size ?_; intro v2 w2 ho2 hg2))
  go_ret
  refine ⟨v2, rfl, by rw [HK.out]; exact ho2, hbv.grown hg2 hbv.size (fun k hk => ?_)⟩
  simp only [Option.some.injEq] at hk
  subst hk
  exact (hrow.lt g rfl).1

set_option maxHeartbeats 1600000 in
theorem rputtext_c {w : World} {a : Option Addr} {m cap : Nat} {l : List UInt8} (hb : Bys w a m cap l) (s : ByteArray) (hn : m ≤ 1000000) (hs : s.size ≤ 1000000) :
    Calls Tryd.prog 55 #[.slice a m cap, .string s] w (BytesPost (putTextS l s.data.toList) w) := by
  obtain ⟨i0, hi, hz0, hz1, hz2⟩ := info_parts Tryd.info5
  have hpos : 0 < (l ++ numB (s.size : Int)).length := by
    obtain ⟨k, h1, h2, _⟩ := sizeS_cases (n := (s.size : Int)) (by omega) (by omega)
    rw [List.length_append]; unfold numB; rw [numK_length, h1]; omega
  have hlen : (l ++ numB (s.size : Int)).length ≤ 1000008 := by
    have := numB_length (s.size : Int); have := hb.len; rw [List.length_append]; omega
  have hsl : s.data.toList.length = s.size := by simp
  have hc := rput_c hb hn (s.size : Int) (by omega) (by omega)
  obtain ⟨K, hK⟩ : ∃ K, K = l ++ numB (s.size : Int) := ⟨_, rfl⟩
  have HK := Lib.hid (show putTextS l s.data.toList = K ++ s.data.toList by unfold putTextS; rw [hsl, hK])
  rw [← hK] at hpos hlen hc
  clear hsl hK
  have HC := Lib.hid hc
  clear hc
  go_enter Tryd.func55, Tryd.ntmps55
  go_wp2_with (first
    | (go_at_call 52; refine (HC.out).mono ?_; rintro e w1 ⟨v, rfl, hov, hbv⟩; obtain ⟨g, cv, rfl, hrow⟩ := hov.row hpos)
    | (at_builtin; refine wpList_append_text rfl (.tmp 8) (.tmp 9) 50 9 rfl Tryd.underlying50 Tryd.underlying9 hi hz0 hz1 hz2 rfl rfl hrow s rfl (by omega) hbv.size ?_; intro v2 w2 ho2 hg2))
  go_ret
  refine ⟨v2, rfl, by rw [HK.out]; exact ho2, hbv.grown hg2 hbv.size (fun k hk => ?_)⟩
  simp only [Option.some.injEq] at hk
  subst hk
  exact (hrow.lt g rfl).1

end Go.Proofs.YtfkmfccdhmnllaaDoor
end

section
namespace Go.Proofs.YtfkmfccdhmnllaaDoor
open Go.RowKit Go Go.Sort
set_option linter.unusedVariables false
set_option maxRecDepth 20000

/-- A cell. -/
structure Cl where
  n : Int
  s : Int
  a : Int
  b : Int
  g : Bool
  t : List UInt8
  d : Int
  e : Int
def Cl.zero : Cl := ⟨0, 0, 0, 0, false, [], 0, 0⟩
def Cl.arr (c : Cl) : Array Value := #[.int .i64 c.n, .int .i64 c.s, .int .i64 c.a, .int .i64 c.b, .bool c.g, .string (text c.t), .int .i64 c.d, .int .i64 c.e]
def Cl.good (p : Int) (c : Cl) : Bool := cgoodS p c.n c.s c.a c.b c.g c.t c.d c.e
def Cl.wrote (c : Cl) : Bool := wroteS c.n c.s c.a c.b c.g c.t

/-- The first number of a cell's bytes. -/
def sumS (w g z : Bool) : Int := (if w then 1 else 0) + (if g then 2 else 0) + (if z then 0 else 4)
def Cl.sum (c : Cl) : Int := sumS c.wrote c.g (zeroS c.d c.e)
def layS (l : List UInt8) (c : Cl) : List UInt8 :=
  let o1 := l ++ numB c.sum
  let o2 := if c.wrote = true then (let o := vputS (sputS o1 c.n c.s) c.a c.b; if c.g = true then o else putTextS o c.t) else o1
  if zeroS c.d c.e = true then o2 else vputS o2 c.d c.e
def cputS (l : List UInt8) (p : Int) (c : Cl) : List UInt8 := if c.good p = true then layS l c else l

theorem sput_app (l m : List UInt8) (n s : Int) : sputS (l ++ m) n s = l ++ sputS m n s := by unfold sputS; split <;> simp
theorem vput_app (l m : List UInt8) (a b : Int) : vputS (l ++ m) a b = l ++ vputS m a b := by unfold vputS; split <;> simp
theorem putText_app (l m t : List UInt8) : putTextS (l ++ m) t = l ++ putTextS m t := by unfold putTextS; simp
def Cl.gone (g : Bool) : Cl := ⟨0, 0, 0, 0, g, [], 0, 0⟩
end Go.Proofs.YtfkmfccdhmnllaaDoor
end

section
namespace Go.Proofs.YtfkmfccdhmnllaaDoor
open Go.RowKit Go Go.Sort
set_option linter.unusedVariables false
set_option maxRecDepth 20000

/-- A whole cell is stored. -/
theorem Cel.put {W : World} {q : Nat} {n s a b d e : Int} {g : Bool} {t : List UInt8} (h : Cel W q n s a b g t d e) (n' s' a' b' : Int) (g' : Bool) (t' : List UInt8) (d' e' : Int) :
    Cel ((((((((W.setCell ⟨q, 0, none⟩ (.int .i64 n')).setCell ⟨q, 1, none⟩ (.int .i64 s')).setCell ⟨q, 2, none⟩ (.int .i64 a')).setCell ⟨q, 3, none⟩ (.int .i64 b')).setCell ⟨q, 4, none⟩ (.bool g')).setCell ⟨q, 5, none⟩ (.string (text t'))).setCell ⟨q, 6, none⟩ (.int .i64 d')).setCell ⟨q, 7, none⟩ (.int .i64 e')) q n' s' a' b' g' t' d' e' := by
  have h0 : (W.setCell ⟨q, 0, none⟩ (.int .i64 n')).heap[q]? = some (.cells #[.int .i64 n', .int .i64 s, .int .i64 a, .int .i64 b, .bool g, .string (text t), .int .i64 d, .int .i64 e] 67 (0, 0)) := (heap_setCell_same _ q 0 _ _ _ h).trans rfl
  have h1 : ((W.setCell ⟨q, 0, none⟩ (.int .i64 n')).setCell ⟨q, 1, none⟩ (.int .i64 s')).heap[q]? = some (.cells #[.int .i64 n', .int .i64 s', .int .i64 a, .int .i64 b, .bool g, .string (text t), .int .i64 d, .int .i64 e] 67 (0, 0)) := (heap_setCell_same _ q 1 _ _ _ h0).trans rfl
  have h2 : (((W.setCell ⟨q, 0, none⟩ (.int .i64 n')).setCell ⟨q, 1, none⟩ (.int .i64 s')).setCell ⟨q, 2, none⟩ (.int .i64 a')).heap[q]? = some (.cells #[.int .i64 n', .int .i64 s', .int .i64 a', .int .i64 b, .bool g, .string (text t), .int .i64 d, .int .i64 e] 67 (0, 0)) := (heap_setCell_same _ q 2 _ _ _ h1).trans rfl
  have h3 : ((((W.setCell ⟨q, 0, none⟩ (.int .i64 n')).setCell ⟨q, 1, none⟩ (.int .i64 s')).setCell ⟨q, 2, none⟩ (.int .i64 a')).setCell ⟨q, 3, none⟩ (.int .i64 b')).heap[q]? = some (.cells #[.int .i64 n', .int .i64 s', .int .i64 a', .int .i64 b', .bool g, .string (text t), .int .i64 d, .int .i64 e] 67 (0, 0)) := (heap_setCell_same _ q 3 _ _ _ h2).trans rfl
  have h4 : (((((W.setCell ⟨q, 0, none⟩ (.int .i64 n')).setCell ⟨q, 1, none⟩ (.int .i64 s')).setCell ⟨q, 2, none⟩ (.int .i64 a')).setCell ⟨q, 3, none⟩ (.int .i64 b')).setCell ⟨q, 4, none⟩ (.bool g')).heap[q]? = some (.cells #[.int .i64 n', .int .i64 s', .int .i64 a', .int .i64 b', .bool g', .string (text t), .int .i64 d, .int .i64 e] 67 (0, 0)) := (heap_setCell_same _ q 4 _ _ _ h3).trans rfl
  have h5 : ((((((W.setCell ⟨q, 0, none⟩ (.int .i64 n')).setCell ⟨q, 1, none⟩ (.int .i64 s')).setCell ⟨q, 2, none⟩ (.int .i64 a')).setCell ⟨q, 3, none⟩ (.int .i64 b')).setCell ⟨q, 4, none⟩ (.bool g')).setCell ⟨q, 5, none⟩ (.string (text t'))).heap[q]? = some (.cells #[.int .i64 n', .int .i64 s', .int .i64 a', .int .i64 b', .bool g', .string (text t'), .int .i64 d, .int .i64 e] 67 (0, 0)) := (heap_setCell_same _ q 5 _ _ _ h4).trans rfl
  have h6 : (((((((W.setCell ⟨q, 0, none⟩ (.int .i64 n')).setCell ⟨q, 1, none⟩ (.int .i64 s')).setCell ⟨q, 2, none⟩ (.int .i64 a')).setCell ⟨q, 3, none⟩ (.int .i64 b')).setCell ⟨q, 4, none⟩ (.bool g')).setCell ⟨q, 5, none⟩ (.string (text t'))).setCell ⟨q, 6, none⟩ (.int .i64 d')).heap[q]? = some (.cells #[.int .i64 n', .int .i64 s', .int .i64 a', .int .i64 b', .bool g', .string (text t'), .int .i64 d', .int .i64 e] 67 (0, 0)) := (heap_setCell_same _ q 6 _ _ _ h5).trans rfl
  have h7 : ((((((((W.setCell ⟨q, 0, none⟩ (.int .i64 n')).setCell ⟨q, 1, none⟩ (.int .i64 s')).setCell ⟨q, 2, none⟩ (.int .i64 a')).setCell ⟨q, 3, none⟩ (.int .i64 b')).setCell ⟨q, 4, none⟩ (.bool g')).setCell ⟨q, 5, none⟩ (.string (text t'))).setCell ⟨q, 6, none⟩ (.int .i64 d')).setCell ⟨q, 7, none⟩ (.int .i64 e')).heap[q]? = some (.cells #[.int .i64 n', .int .i64 s', .int .i64 a', .int .i64 b', .bool g', .string (text t'), .int .i64 d', .int .i64 e'] 67 (0, 0)) := (heap_setCell_same _ q 7 _ _ _ h6).trans rfl
  exact h7
end Go.Proofs.YtfkmfccdhmnllaaDoor
end

section
namespace Go.Proofs.YtfkmfccdhmnllaaDoor
open Go.RowKit Go Go.Sort
set_option linter.unusedVariables false
set_option maxRecDepth 20000

theorem sput_le (l : List UInt8) (n s : Int) : (sputS l n s).length ≤ l.length + 8 := by
  unfold sputS; have := numB_length (scode n s); split <;> simp <;> omega
theorem vput_le (l : List UInt8) (a b : Int) : (vputS l a b).length ≤ l.length + 16 := by
  unfold vputS; have := numB_length a; have := numB_length b; split <;> simp <;> omega
theorem putText_le (l t : List UInt8) : (putTextS l t).length ≤ l.length + 8 + t.length := by
  unfold putTextS; have := numB_length (t.length : Int); simp; omega
theorem text_back (t : List UInt8) : (text t).data.toList = t := by simp [text]

end Go.Proofs.YtfkmfccdhmnllaaDoor
end

section
namespace Go.Proofs.YtfkmfccdhmnllaaDoor
open Go.RowKit Go Go.Sort Go.Lib
set_option linter.unusedVariables false
set_option maxRecDepth 20000

set_option maxHeartbeats 3200000 in
theorem grow_c (n : Nat) (hn : n ≤ 1000000) (w : World) : Calls Tryd.prog 91 #[.slice none 0 0, .int .i64 (n : Int)] w (BytesPost [] w) := by
  by_cases h0 : n = 0
  · subst h0
    go_enter Tryd.func91, Tryd.ntmps91
    go_wp2
    go_ret
    exact ⟨_, rfl, World.ownsRow_nil _ _ _ _, Below.refl _ _⟩
  · obtain ⟨i0, hi, hz0, hz1, hz2⟩ := info_parts Tryd.info5
    have hneg : ¬ ((n : Int) < 0) := by omega
    have hpos : (0 : Int) < (n : Int) := by omega
    have hold : (Builtin.firstCells i0.size 0 (.slice none 0 0)).run Tryd.prog w.drew = .ok #[] w.drew := run_firstCells_none w.drew i0.size 0 0 0
    have hrz : ∀ ty, (Builtin.append_ #[50, 3] ty #[.slice none 0 0, .int .i64 (n : Int)]).run Tryd.prog w = .ok (.slice (some ⟨w.heap.size, 0, none⟩) n (grownCap w n 0 5)) (w.drew.alloc (.cells (#[] ++ Builtin.zeroCells #[Value.int .u8 0] n ++ Builtin.zeroCells #[Value.int .u8 0] (grownCap w n 0 5 - n)) 5)) := fun ty => by
      have h := Lib.run_append_grow_zeros w 50 3 ty 5 i0 (.int .u8 0) .i64 .i64 Tryd.underlying50 Tryd.underlying3 hi hz0 none 0 0 [] hold n (by omega) (by omega) (by omega) (by omega) (by rw [hz2]; omega) (growslice_fits (by omega) (by rw [hz2]; omega))
      rw [Nat.zero_add] at h
      exact h
    have hG1 : n ≤ grownCap w n 0 5 := grownCap_ge w _ _ _
    have hG2 : grownCap w n 0 5 ≤ maxLen := grownCap_le_maxLen w n 0 5 (by unfold maxLen; omega)
    obtain ⟨G, hG⟩ : ∃ G, grownCap w n 0 5 = G := ⟨_, rfl⟩
    rw [hG] at hrz hG1 hG2
    have hcs : (#[] ++ Builtin.zeroCells #[Value.int .u8 0] n ++ Builtin.zeroCells #[Value.int .u8 0] (G - n)).size = G := by
      simp [Builtin.zeroCells]; omega
    obtain ⟨C, hC⟩ : ∃ C : Array Value, #[] ++ Builtin.zeroCells #[Value.int .u8 0] n ++ Builtin.zeroCells #[Value.int .u8 0] (G - n) = C := ⟨_, rfl⟩
    rw [hC] at hrz hcs
    have HCS := Lib.hid hcs
    have hGm : G ≤ 9223372036854775807 := by unfold maxLen at hG2; exact hG2
    clear hold hG hC hcs h0
    go_enter Tryd.func91, Tryd.ntmps91
    go_wp2_with (at_builtin; refine Lib.wpList_append_run _ rfl _ _ _ _ rfl _ _ rfl rfl _ _ (hrz _) ?_)
    go_ret
    refine ⟨_, rfl, ⟨rfl, .inr ⟨w.heap.size, G, C, rfl, Nat.le_refl _, ?_, Nat.zero_le _, hG2, by rw [HCS.out, Nat.mul_one], by simp [u8v]⟩⟩, ?_⟩
    · exact heap_alloc_new w.drew _
    · have h := (Below.refl w.heap.size w).alloc (Nat.le_refl _) (.cells C 5)
      exact ⟨h.os, h.tape, h.output, h.size, h.block⟩

set_option maxHeartbeats 3200000 in
theorem concat_c {w : World} {q : Nat} {ad ad' : Option Addr} {m m' cap cap' : Nat} {l l' : List UInt8} (h0 : w.cell? ⟨q, 0, none⟩ = some (.slice ad m cap)) (h1 : w.cell? ⟨q, 1, none⟩ = some (.slice ad' m' cap'))
    (hl : Bys w ad m cap l) (hl' : Bys w ad' m' cap' l') (hm : m ≤ 100000) (hm' : m' ≤ 100000) :
    Calls Tryd.prog 51 #[.slice (some ⟨q, 0, none⟩) 2 2] w (BytesPost (l ++ l') w) := by
  obtain ⟨i0, hi, hz0, hz1, hz2⟩ := info_parts Tryd.info5
  have hln := hl.len
  have HC := Lib.hid (fun W (h : Below w.heap.size w W) => And.intro ((h.cell (World.block_lt_of_cell? w _ h0)).trans h0) ((h.cell (World.block_lt_of_cell? w _ h1)).trans h1))
  have HL := Lib.hid (fun W (h : Below w.heap.size w W) => hl.below h)
  have HL' := Lib.hid (fun W (h : Below w.heap.size w W) => hl'.below h)
  have hmi : (m : Int) ≤ 100000 := by omega
  have hmi' : (m' : Int) ≤ 100000 := by omega
  have hsum : (m : Int) + (m' : Int) = ((m + m' : Nat) : Int) := by omega
  have HG := Lib.hid (fun W => by have := grow_c (m + m') (by omega) W; rwa [← hsum] at this)
  have hnn : ¬ ((m : Int) + (m' : Int) < 0) := by omega
  have hnn0 : ¬ ((m : Int) < 0) := by omega
  clear hl hl' hsum
  go_enter Tryd.func51, Tryd.ntmps51
  go_wp2
  refine wp_loop_rounds 3 ?_
  rw [rounds_succ]
  go_wp2
  rw [rounds_succ]
  go_wp2
  rw [rounds_succ]
  go_upto_region 9 with (fail)
  go_upto_region 11 with (go_at_call 91; (with_reducible refine (HG.out _).mono ?_); rintro e1 w1 ⟨v1, rfl, ho1, hb1⟩)
  obtain ⟨c0, c1⟩ := HC.out w1 hb1
  have hy0 := HL.out w1 hb1
  have HO1 := Lib.hid ho1
  have HB1 := Lib.hid hb1
  clear ho1 hb1
  refine wp_loop_rounds 3 ?_
  rw [rounds_succ]
  go_wp2_with (at_builtin; refine wpList_append_bys rfl (.tmp 31) (.tmp 32) 50 rfl Tryd.underlying50 hi hz0 hz1 hz2 rfl rfl HO1.out rfl hy0 (by simp; omega) HB1.out.size ?_; intro v2 w2 ho2 hg2)
  have hb2 := HB1.out.grown hg2 HB1.out.size (fun k hk => (HO1.out.lt k hk).1)
  obtain ⟨d0, d1⟩ := HC.out w2 hb2
  have hy1 := HL'.out w2 hb2
  rw [List.nil_append] at ho2
  have HO2 := Lib.hid ho2
  have HB2 := Lib.hid hb2
  clear ho2 hb2 hg2 hy0 c0 c1
  rw [rounds_succ]
  go_wp2_with (at_builtin; refine wpList_append_bys rfl (.tmp 31) (.tmp 32) 50 rfl Tryd.underlying50 hi hz0 hz1 hz2 rfl rfl HO2.out rfl hy1 (by omega) HB2.out.size ?_; intro v3 w3 ho3 hg3)
  have hb3 := HB2.out.grown hg3 HB2.out.size (fun k hk => (HO2.out.lt k hk).1)
  have HO3 := Lib.hid ho3
  have HB3 := Lib.hid hb3
  clear ho3 hb3 hg3 hy1 d0 d1
  rw [rounds_succ]
  go_wp2
  go_ret
  exact ⟨_, rfl, HO3.out, HB3.out⟩

end Go.Proofs.YtfkmfccdhmnllaaDoor
end

section
namespace Go.Proofs.YtfkmfccdhmnllaaDoor
open Go.RowKit Go Go.Sort
set_option linter.unusedVariables false
set_option maxRecDepth 20000

theorem Cel.head {W : World} {q : Nat} {n s a b d e : Int} {g : Bool} {t : List UInt8} (h : Cel W q n s a b g t d e) (n' : Int) (s' : Int) (a' : Int) (b' : Int) (g' : Bool) : Cel (((((W.setCell ⟨q, 0, none⟩ (.int .i64 n')).setCell ⟨q, 1, none⟩ (.int .i64 s')).setCell ⟨q, 2, none⟩ (.int .i64 a')).setCell ⟨q, 3, none⟩ (.int .i64 b')).setCell ⟨q, 4, none⟩ (.bool g')) q n' s' a' b' g' t d e := by
  have h0 : (W.setCell ⟨q, 0, none⟩ (.int .i64 n')).heap[q]? = some (.cells #[.int .i64 n', .int .i64 s, .int .i64 a, .int .i64 b, .bool g, .string (text t), .int .i64 d, .int .i64 e] 67 (0, 0)) := (heap_setCell_same _ q 0 _ _ _ h).trans rfl
  have h1 : ((W.setCell ⟨q, 0, none⟩ (.int .i64 n')).setCell ⟨q, 1, none⟩ (.int .i64 s')).heap[q]? = some (.cells #[.int .i64 n', .int .i64 s', .int .i64 a, .int .i64 b, .bool g, .string (text t), .int .i64 d, .int .i64 e] 67 (0, 0)) := (heap_setCell_same _ q 1 _ _ _ h0).trans rfl
  have h2 : (((W.setCell ⟨q, 0, none⟩ (.int .i64 n')).setCell ⟨q, 1, none⟩ (.int .i64 s')).setCell ⟨q, 2, none⟩ (.int .i64 a')).heap[q]? = some (.cells #[.int .i64 n', .int .i64 s', .int .i64 a', .int .i64 b, .bool g, .string (text t), .int .i64 d, .int .i64 e] 67 (0, 0)) := (heap_setCell_same _ q 2 _ _ _ h1).trans rfl
  have h3 : ((((W.setCell ⟨q, 0, none⟩ (.int .i64 n')).setCell ⟨q, 1, none⟩ (.int .i64 s')).setCell ⟨q, 2, none⟩ (.int .i64 a')).setCell ⟨q, 3, none⟩ (.int .i64 b')).heap[q]? = some (.cells #[.int .i64 n', .int .i64 s', .int .i64 a', .int .i64 b', .bool g, .string (text t), .int .i64 d, .int .i64 e] 67 (0, 0)) := (heap_setCell_same _ q 3 _ _ _ h2).trans rfl
  have h4 : (((((W.setCell ⟨q, 0, none⟩ (.int .i64 n')).setCell ⟨q, 1, none⟩ (.int .i64 s')).setCell ⟨q, 2, none⟩ (.int .i64 a')).setCell ⟨q, 3, none⟩ (.int .i64 b')).setCell ⟨q, 4, none⟩ (.bool g')).heap[q]? = some (.cells #[.int .i64 n', .int .i64 s', .int .i64 a', .int .i64 b', .bool g', .string (text t), .int .i64 d, .int .i64 e] 67 (0, 0)) := (heap_setCell_same _ q 4 _ _ _ h3).trans rfl
  exact h4
theorem Cel.gn {W : World} {q : Nat} {n s a b d e : Int} {g : Bool} {t : List UInt8} (h : Cel W q n s a b g t d e) (g' : Bool) : Cel (W.setCell ⟨q, 4, none⟩ (.bool g')) q n s a b g' t d e := by
  have h0 : (W.setCell ⟨q, 4, none⟩ (.bool g')).heap[q]? = some (.cells #[.int .i64 n, .int .i64 s, .int .i64 a, .int .i64 b, .bool g', .string (text t), .int .i64 d, .int .i64 e] 67 (0, 0)) := (heap_setCell_same _ q 4 _ _ _ h).trans rfl
  exact h0
theorem sgetS_ok (l : List UInt8) (h : (sgetS l).2.2 = 0) : ∃ q : Nat, (sgetS l).2.1 = (q : Int) ∧ q ≤ l.length := by
  unfold sgetS at h ⊢
  by_cases he : (getS l).2.2 = 0
  · obtain ⟨q, hq, hq1, hq2, hv0, hv1⟩ := getS_ok l he
    rw [if_neg (by simpa using he)] at h ⊢
    split
    · exact ⟨q, hq, hq2⟩
    · rename_i h0
      rw [if_neg h0] at h
      split
      · exact ⟨q, hq, hq2⟩
      · rename_i h1
        rw [if_neg h1] at h
        exact absurd h (by decide)
  · rw [if_pos he] at h
    exact absurd h he
theorem vgetS_ok (l : List UInt8) (h : (vgetS l).2.2 = 0) : ∃ q : Nat, (vgetS l).2.1 = (q : Int) ∧ q ≤ l.length := by
  unfold vgetS at h ⊢
  by_cases he : (getS l).2.2 = 0
  · obtain ⟨q, hq, hq1, hq2, hv0, hv1⟩ := getS_ok l he
    rw [if_neg (by simpa using he)] at h ⊢
    rw [hq, Int.toNat_natCast] at h ⊢
    by_cases he2 : (getS (l.drop q)).2.2 = 0
    · obtain ⟨q2, hq2', hq3, hq4, hw0, hw1⟩ := getS_ok _ he2
      rw [if_neg (by simpa using he2)] at h ⊢
      split
      · refine ⟨q + q2, by rw [hq2']; simp, ?_⟩
        rw [List.length_drop] at hq4
        omega
      · rename_i h1
        rw [if_neg h1] at h
        exact absurd h (by decide)
    · rw [if_pos he2] at h
      exact absurd h he2
  · rw [if_pos he] at h
    exact absurd h he

end Go.Proofs.YtfkmfccdhmnllaaDoor
end

section
namespace Go.Proofs.YtfkmfccdhmnllaaDoor
open Go.RowKit Go Go.Sort
set_option linter.unusedVariables false
set_option maxRecDepth 20000

theorem slice_to {W : World} {ad : Option Addr} {m cap : Nat} {l : List UInt8} (h : Bys W ad m cap l) {q : Nat} (hq : q ≤ m) : ∀ W', (Instr.slice 50 (.slice ad m cap) none (some (.int .i64 (q : Int))) none).run Tryd.prog W' = .ok (.slice ad q cap) W' := by
  intro W'
  have := h.le
  obtain ⟨i0, hi, hz0, hz1, hz2⟩ := info_parts Tryd.info5
  have he : Tryd.prog.elem 50 = 5 := by kernel_rfl
  have hsz : (sizeOf 5).run Tryd.prog W' = .ok 1 W' := by simp [sizeOf, typeInfo, hi, hz1, go_sem]
  rw [run_slice_h W' 50 ad m cap (by kernel_rfl) .i64 (q : Int) (by omega) (by omega), Int.toNat_natCast, he, hsz]
  simp only [Result.andThen_ok, sliced, Nat.zero_mul, Nat.sub_zero]
  cases ad <;> simp [Addr.add]

end Go.Proofs.YtfkmfccdhmnllaaDoor
end

section
namespace Go.Proofs.YtfkmfccdhmnllaaDoor
open Go.RowKit Go Go.Sort
set_option linter.unusedVariables false
set_option maxRecDepth 20000

/-- One block alone is other than it was, and there may be more. -/
structure Only (q : Nat) (w w' : World) : Prop where
  os : w'.os = w.os
  tape : w'.tape = w.tape
  output : w'.output = w.output
  size : w.heap.size ≤ w'.heap.size
  rest : ∀ k, k < w.heap.size → k ≠ q → w'.heap[k]? = w.heap[k]?
theorem Only.set (W : World) (p : Addr) (v : Value) : Only p.block W (W.setCell p v) := by
  have h := (Below.refl p.block W).setCell (p := p) (Nat.le_refl _) v
  exact ⟨h.os, h.tape, h.output, h.size, fun k _ hk => heap_setCell_other W p k v hk⟩
theorem Only.trans {q : Nat} {a b c : World} (h : Only q a b) (k : Only q b c) : Only q a c :=
  ⟨k.os.trans h.os, k.tape.trans h.tape, k.output.trans h.output, Nat.le_trans h.size k.size, fun i hi hne => (k.rest i (Nat.lt_of_lt_of_le hi h.size) hne).trans (h.rest i hi hne)⟩
theorem Only.below {q B : Nat} {w w' : World} (h : Only q w w') (hB : B ≤ q) (hs : B ≤ w.heap.size) : Below B w w' := ⟨h.os, h.tape, h.output, h.size, fun k hk => h.rest k (by omega) (by omega)⟩
theorem Only.of_below {q : Nat} {w w' : World} (h : Below w.heap.size w w') : Only q w w' := ⟨h.os, h.tape, h.output, h.size, fun k hk _ => h.block k hk⟩

/-- What read keeps: the bytes, the result, the cell, the first number, the place, the fault. -/
structure Rd8 (w0 W : World) (q : Nat) (ad : Option Addr) (m cap : Nat) (x at' f : Int) (c : Cl) : Prop where
  base : w0.heap.size = q
  below : Below q w0 W
  hb : W.heap[q]? = some (.cells #[.slice ad m cap] 50 (0, 0))
  hr : Cel W (q + 1) 0 0 0 0 false [] 0 0
  hc : Cel W (q + 2) c.n c.s c.a c.b c.g c.t c.d c.e
  hx : W.heap[q + 3]? = some (.cells #[.int .i64 x] 3 (0, 0))
  ha : W.heap[q + 4]? = some (.cells #[.int .i64 at'] 3 (0, 0))
  hf : W.heap[q + 5]? = some (.cells #[.int .i64 f] 35 (0, 0))
theorem Rd8.lt {w0 W : World} {q : Nat} {ad : Option Addr} {m cap : Nat} {x at' f : Int} {c : Cl} (h : Rd8 w0 W q ad m cap x at' f c) : q + 5 < W.heap.size := (Array.getElem?_eq_some_iff.1 h.hf).1
theorem Rd8.grow {w0 W W' : World} {q : Nat} {ad : Option Addr} {m cap : Nat} {x at' f : Int} {c : Cl} (h : Rd8 w0 W q ad m cap x at' f c) (hb : Below W.heap.size W W') : Rd8 w0 W' q ad m cap x at' f c := by
  have hl := h.lt
  exact ⟨h.base, h.below.trans (hb.mono (by omega)), (hb.block _ (by omega)).trans h.hb, h.hr.kept hb, h.hc.kept hb, (hb.block _ (by omega)).trans h.hx, (hb.block _ (by omega)).trans h.ha, (hb.block _ (by omega)).trans h.hf⟩
theorem Rd8.put_c {w0 W W' : World} {q : Nat} {ad : Option Addr} {m cap : Nat} {x at' f : Int} {c : Cl} (h : Rd8 w0 W q ad m cap x at' f c) (k : Only (q + 2) W W') {c' : Cl} (hc : Cel W' (q + 2) c'.n c'.s c'.a c'.b c'.g c'.t c'.d c'.e) : Rd8 w0 W' q ad m cap x at' f c' := by
  have hl := h.lt
  exact ⟨h.base, h.below.trans (k.below (by omega) (by omega)), (k.rest _ (by omega) (by omega)).trans h.hb, (k.rest _ (by omega) (by omega)).trans h.hr, hc, (k.rest _ (by omega) (by omega)).trans h.hx, (k.rest _ (by omega) (by omega)).trans h.ha, (k.rest _ (by omega) (by omega)).trans h.hf⟩
theorem one_cell {W : World} {q : Nat} {v : Value} {t : TypeId} (h : W.heap[q]? = some (.cells #[v] t (0, 0))) : W.cell? ⟨q, 0, none⟩ = some v := by rw [cell_of_row W q 0 _ t (0, 0) h]; rfl

end Go.Proofs.YtfkmfccdhmnllaaDoor
end

section
namespace Go.Proofs.YtfkmfccdhmnllaaDoor
open Go.RowKit Go Go.Sort
set_option linter.unusedVariables false
set_option maxRecDepth 20000
theorem sget_cnt {l : List UInt8} {n s k f : Int} (h : sgetS l = ((n, s), k, f)) : 0 ≤ k ∧ k ≤ (l.length : Int) := by
  by_cases hf : (sgetS l).2.2 = 0
  · obtain ⟨q, h1, h2⟩ := sgetS_ok l hf
    rw [h] at h1
    simp only at h1
    omega
  · have : (sgetS l).2.1 = 0 := by
      unfold sgetS at hf ⊢
      split
      · rfl
      · rename_i h0
        rw [if_neg h0] at hf
        split
        · rename_i h1
          rw [if_pos h1] at hf
          exact absurd rfl hf
        · rename_i h1
          rw [if_neg h1] at hf
          split
          · rename_i h2
            rw [if_pos h2] at hf
            exact absurd rfl hf
          · rfl
    rw [h] at this
    simp only at this
    omega
theorem vget_cnt {l : List UInt8} {n s k f : Int} (h : vgetS l = ((n, s), k, f)) : 0 ≤ k ∧ k ≤ (l.length : Int) := by
  by_cases hf : (vgetS l).2.2 = 0
  · obtain ⟨q, h1, h2⟩ := vgetS_ok l hf
    rw [h] at h1
    simp only at h1
    omega
  · have : (vgetS l).2.1 = 0 := by
      unfold vgetS at hf ⊢
      split
      · rfl
      · rename_i h0
        rw [if_neg h0] at hf
        split
        · rfl
        · rename_i h1
          rw [if_neg h1] at hf
          split
          · rename_i h2
            rw [if_pos h2] at hf
            exact absurd rfl hf
          · rfl
    rw [h] at this
    simp only at this
    omega
end Go.Proofs.YtfkmfccdhmnllaaDoor
end

section
namespace Go.Proofs.YtfkmfccdhmnllaaDoor
open Go.RowKit Go Go.Sort
set_option linter.unusedVariables false
set_option maxRecDepth 20000

theorem numB_take {l : List UInt8} {p : Int} {q : Nat} (h : getS l = (p, (q : Int), 0)) : l.take q = numB p ∧ q ≤ l.length ∧ 0 ≤ p ∧ p ≤ 4611686018427387903 := by
  obtain ⟨q', h1, h2, h3, h4, h5⟩ := getS_ok l (by rw [h])
  rw [h] at h1 h4 h5
  have e : q' = q := by simp only at h1; omega
  subst e
  refine ⟨?_, h3, h4, h5⟩
  have := getS_form l q' (by rw [h]) (by rw [h])
  rw [h] at this
  exact this.symm
theorem get_num (n : Int) (t : List UInt8) (h0 : 0 ≤ n) (h1 : n ≤ 4611686018427387903) : getS (numB n ++ t) = (n, ((numB n).length : Int), 0) := by
  rw [getS_num n t h0 h1, (numB_len h0 h1).1]
/-- What is got of a stamp is put as it was. -/
theorem sget_form {l : List UInt8} {n s : Int} {q : Nat} (h : sgetS l = ((n, s), (q : Int), 0)) : sputS [] n s = l.take q ∧ q ≤ l.length := by
  obtain ⟨⟨x, k, f⟩, hx⟩ : ∃ z, getS l = z := ⟨_, rfl⟩
  unfold sgetS at h
  rw [hx] at h
  simp only at h
  by_cases hf : f = 0
  · subst hf
    rw [if_neg (by simp)] at h
    obtain ⟨q', hq', -, -, x0, x1⟩ := getS_ok l (by rw [hx])
    rw [hx] at hq' x0 x1
    simp only at hq' x0 x1
    subst hq'
    obtain ⟨ht, hle, -, -⟩ := numB_take hx
    by_cases h0 : x = 0
    · rw [if_pos h0] at h
      simp only [Prod.mk.injEq, and_true] at h
      obtain ⟨⟨rfl, rfl⟩, hq⟩ := h
      have e : q = q' := by omega
      subst e
      subst h0
      exact ⟨by rw [ht]; rfl, hle⟩
    · rw [if_neg h0] at h
      by_cases hg : sgood (x / 2) (1 + x % 2) = true
      · rw [if_pos hg] at h
        simp only [Prod.mk.injEq, and_true] at h
        obtain ⟨⟨rfl, rfl⟩, hq⟩ := h
        have e : q = q' := by omega
        subst e
        have hgd : (x / 2 = 0 ∧ 1 + x % 2 = 0) ∨ (1 ≤ x / 2 ∧ x / 2 ≤ 281474976710656 ∧ (1 + x % 2 = 1 ∨ 1 + x % 2 = 2)) := by simpa [sgood] using hg
        refine ⟨?_, hle⟩
        unfold sputS
        rw [if_pos hg, ht]
        unfold scode
        rw [if_neg (by omega), List.nil_append]
        congr 1
        omega
      · rw [if_neg hg] at h
        simp at h
  · rw [if_pos hf] at h
    simp only [Prod.mk.injEq] at h
    exact absurd h.2.2 hf
theorem vget_form {l : List UInt8} {a b : Int} {q : Nat} (h : vgetS l = ((a, b), (q : Int), 0)) : vputS [] a b = l.take q ∧ q ≤ l.length := by
  obtain ⟨⟨x, k, f⟩, hx⟩ : ∃ z, getS l = z := ⟨_, rfl⟩
  by_cases hf : f = 0
  · subst hf
    obtain ⟨q1, hq1, -, -, x0, x1⟩ := getS_ok l (by rw [hx])
    rw [hx] at hq1
    simp only at hq1
    subst hq1
    obtain ⟨⟨y, k2, f2⟩, hy⟩ : ∃ z, getS (l.drop q1) = z := ⟨_, rfl⟩
    by_cases hf2 : f2 = 0
    · subst hf2
      obtain ⟨q2, hq2, -, -, y0, y1⟩ := getS_ok (l.drop q1) (by rw [hy])
      rw [hy] at hq2
      simp only at hq2
      subst hq2
      rw [vget_two hx hy] at h
      by_cases hg : vgood x y = true
      · rw [if_pos hg] at h
        simp only [Prod.mk.injEq, and_true] at h
        obtain ⟨⟨rfl, rfl⟩, hq⟩ := h
        have e : q = q1 + q2 := by omega
        subst e
        obtain ⟨h1, h1l, -, -⟩ := numB_take hx
        obtain ⟨h2, h2l, -, -⟩ := numB_take hy
        rw [List.length_drop] at h2l
        refine ⟨?_, by omega⟩
        unfold vputS
        rw [if_pos hg, List.take_add, h1, h2]
        simp
      · rw [if_neg hg] at h
        simp at h
    · rw [vget_err2 hx hy hf2] at h
      simp only [Prod.mk.injEq] at h
      exact absurd h.2.2 hf2
  · rw [vget_err1 hx hf] at h
    simp only [Prod.mk.injEq] at h
    exact absurd h.2.2 hf
theorem tget_form {l t : List UInt8} {m : Int} {q : Nat} (h : textS l m = (t, (q : Int), 0)) : putTextS [] t = l.take q ∧ q ≤ l.length ∧ (t.length : Int) ≤ m := by
  unfold textS at h
  by_cases he : (getS l).2.2 = 0
  · obtain ⟨q0, hq, hq1, hq2, hv0, hv1⟩ := getS_ok l he
    rw [if_neg (by omega)] at h
    by_cases c1 : m < (getS l).1
    · rw [if_pos c1] at h; simp at h
    · rw [if_neg c1] at h
      by_cases c2 : (l.length : Int) - (getS l).2.1 < (getS l).1
      · rw [if_pos c2] at h; simp at h
      · rw [if_neg c2] at h
        obtain ⟨⟨v, k, f⟩, hx⟩ : ∃ z, getS l = z := ⟨_, rfl⟩
        rw [hx] at he hq hv0 hv1 h c1 c2
        simp only at he hq hv0 hv1 h c1 c2
        subst he
        subst hq
        obtain ⟨V, rfl⟩ := Int.eq_ofNat_of_zero_le hv0
        have hf := (numB_take hx).1
        simp only [Int.toNat_natCast, Prod.mk.injEq, and_true] at h
        obtain ⟨h1, h2⟩ := h
        have hlen : t.length = V := by rw [← h1, List.length_take, List.length_drop]; omega
        have e : q = q0 + V := by omega
        subst e
        refine ⟨?_, by omega, by omega⟩
        unfold putTextS
        rw [List.take_add, hf, h1, hlen]
        rfl
  · rw [if_pos he] at h
    simp only [Prod.mk.injEq] at h
    exact absurd h.2.2 he
/-- What is put of a stamp is got. -/
theorem sget_put {n s : Int} (h : sgood n s = true) (t : List UInt8) : sgetS (sputS [] n s ++ t) = ((n, s), ((sputS [] n s).length : Int), 0) := by
  have hgd : (n = 0 ∧ s = 0) ∨ (1 ≤ n ∧ n ≤ 281474976710656 ∧ (s = 1 ∨ s = 2)) := by simpa [sgood] using h
  have hp : sputS [] n s = numB (scode n s) := by unfold sputS; rw [if_pos h]; rfl
  rw [hp]
  have hc : 0 ≤ scode n s ∧ scode n s ≤ 4611686018427387903 := by unfold scode; split <;> omega
  unfold sgetS
  rw [get_num _ t hc.1 hc.2]
  simp only [not_true_eq_false, if_false]
  by_cases h0 : scode n s = 0
  · rw [if_pos h0]
    have : n = 0 ∧ s = 0 := by unfold scode at h0; split at h0 <;> omega
    obtain ⟨rfl, rfl⟩ := this
    rfl
  · rw [if_neg h0]
    have hn : 1 ≤ n ∧ (s = 1 ∨ s = 2) := by
      rcases hgd with ⟨rfl, rfl⟩ | hh
      · exact absurd rfl h0
      · exact ⟨hh.1, hh.2.2⟩
    have e1 : scode n s / 2 = n := by unfold scode; rw [if_neg (by omega)]; omega
    have e2 : 1 + scode n s % 2 = s := by unfold scode; rw [if_neg (by omega)]; omega
    rw [e1, e2, if_pos h]
theorem vget_back {a b : Int} (h : vgood a b = true) (t : List UInt8) : vgetS (vputS [] a b ++ t) = ((a, b), ((vputS [] a b).length : Int), 0) := by
  obtain ⟨p0, p1, q0, q1⟩ := vgood_bd h
  have hp : vputS [] a b = numB a ++ numB b := by unfold vputS; rw [if_pos h]; rfl
  rw [hp, List.append_assoc]
  rw [vget_two (q := (numB a).length) (q2 := (numB b).length) (x := a) (y := b) (get_num a _ p0 (by omega)) (by rw [List.drop_left]; exact get_num b t q0 (by omega)), if_pos h, List.length_append]
  simp
theorem tget_back {s : List UInt8} {m : Int} (h : (s.length : Int) ≤ m) (hm : m ≤ 1000000) (t : List UInt8) : textS (putTextS [] s ++ t) m = (s, ((putTextS [] s).length : Int), 0) := by
  have hp : putTextS [] s = numB (s.length : Int) ++ s := by unfold putTextS; rfl
  have hg := get_num (s.length : Int) (s ++ t) (by omega) (by omega)
  rw [hp, List.append_assoc]
  unfold textS
  rw [hg]
  simp only [not_true_eq_false, if_false]
  rw [if_neg (by omega), if_neg (by simp only [List.length_append]; omega)]
  simp only [Int.toNat_natCast, List.length_append]
  rw [List.drop_left, List.take_left]
  simp

end Go.Proofs.YtfkmfccdhmnllaaDoor
end

section
namespace Go.Proofs.YtfkmfccdhmnllaaDoor
open Go.RowKit Go Go.Sort
set_option linter.unusedVariables false

abbrev Grp := List UInt8 × Int
def nameS (s : List UInt8) : Bool := s.all (fun c => decide (97 ≤ c.toNat ∧ c.toNat ≤ 122)) && decide (1 ≤ s.length ∧ s.length ≤ 12)
def goodFrom (ahead : List Grp) : List Grp → Int
  | [] => 0
  | g :: r => if ¬ (nameS g.1 = true ∧ (g.2 = 1 ∨ g.2 = 2)) then 2 else if ahead.any (fun h => h.1 == g.1) then 70 else goodFrom (ahead ++ [g]) r
def pgoodS (l : List Grp) : Int := if l.length = 0 then 2 else if 4 < l.length then 3 else goodFrom [] l
/-- A list of groups that lies in memory. -/
structure Grs (w : World) (a : Option Addr) (n cap : Nat) (l : List Grp) : Prop where
  len : l.length = n
  le : n ≤ cap
  max : cap ≤ 9223372036854775807
  adr : cap = 0 ∨ ∃ b off, a = some ⟨b, off, none⟩ ∧ ∀ i, i < n → w.cell? ⟨b, off + i * 2, none⟩ = some (.string (text (l.getD i ([], 0)).1)) ∧ w.cell? ⟨b, off + i * 2 + 1, none⟩ = some (.int .i64 (l.getD i ([], 0)).2)
theorem Grs.below {w w' : World} {a : Option Addr} {n cap : Nat} {l : List Grp} (h : Grs w a n cap l) (hb : Below w.heap.size w w') : Grs w' a n cap l := by
  refine ⟨h.len, h.le, h.max, ?_⟩
  rcases h.adr with h4 | ⟨b, off, rfl, hc⟩
  · exact .inl h4
  · refine .inr ⟨b, off, rfl, fun i hi => ?_⟩
    obtain ⟨h1, h2⟩ := hc i hi
    exact ⟨by rw [hb.cell (World.block_lt_of_cell? w _ h1)]; exact h1, by rw [hb.cell (World.block_lt_of_cell? w _ h2)]; exact h2⟩
/-- What a group's place holds, in every world in which nothing of the old is turned. -/
theorem Grs.at {w : World} {a : Option Addr} {n cap : Nat} {l : List Grp} (h : Grs w a n cap l) {k : Nat} (hk : k < n) :
    ∃ b off, a = some ⟨b, off, none⟩ ∧ ∀ W, Below w.heap.size w W → W.cell? ⟨b, off + k * 2, none⟩ = some (.string (text (l.getD k ([], 0)).1)) ∧ W.cell? ⟨b, off + k * 2 + 1, none⟩ = some (.int .i64 (l.getD k ([], 0)).2) := by
  have := h.le
  rcases h.adr with h4 | ⟨b, off, rfl, hc⟩
  · omega
  · exact ⟨b, off, rfl, fun W hb => ⟨by rw [hb.cell (World.block_lt_of_cell? w _ (hc k hk).1)]; exact (hc k hk).1, by rw [hb.cell (World.block_lt_of_cell? w _ (hc k hk).2)]; exact (hc k hk).2⟩⟩
end Go.Proofs.YtfkmfccdhmnllaaDoor
end

