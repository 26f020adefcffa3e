/-
  Merged: HT V0 NM NW Ap PM PW Co PP RP OM DF DT CS CP K0 K1 KA TX K3 K5 KD KE DR Q0 Q1 Q2 JQ JB Rd CX YA YL YB YC YO YM MA MB MD MH MJ MM MO MQ U9 G0 E0 E1 E2 E3.
-/
import Derived.Deep.QuietTactic
import Derived.StillTail
import Derived.Lib.QuietBelow
import Derived.Test.YtjkifdjjcfempaaDoorRows
import Derived.WalkKit
import Derived.Lib.Hide
import Derived.BigQuiet
import Derived.BigRegion
import Derived.Deep.Cut
import Derived.Deep.MidRow
import Derived.Great.BuildSlice
import Derived.Outline
import Derived.OwnWalk
import Derived.Laws.Rows
import Derived.ChangeKeysEq
import Derived.Laws.StructEq
import Derived.WalkSpells
import Derived.WalkLawsBesides
import Derived.Laws.CopyOwn
import Derived.WalkSmall
import Derived.Lib.LaidTab
import Derived.Deep.RegionWith
import Derived.Lib.MinMax
import Derived.WideShapes
import Derived.ChangeSame
import Derived.OpenShut
import Derived.Deep.Slices
import Derived.Deep.AppendSrc
import Derived.Lib.AppendZerosOnto
import Derived.Lib.SliceRun
import Derived.Lib.Walk
import Derived.Lib.OthersKept
import Derived.Laws.RangeAny
import Derived.Maps.OwnOps
import Derived.Maps.Views
import Derived.ChangeSlices
import Derived.ChangeArms
import Derived.OrdersIn
import Derived.TacticsIn
import Derived.RangeFuncNested
import Derived.RangeFuncBound
import Derived.RangeFuncCalls
import Derived.RangeFuncLeaves
import Derived.Deep.DeepAppendWide
import Derived.Maps.AppendAt
import Derived.Shelf.Abstract
import Derived.OwnWalkIn
import Derived.TacticsInMore
import Derived.LoopNIn
import Derived.LoopIn
import Derived.DeepKeys4
import Derived.Maps.Own
import Derived.Maps.Range
import Derived.Sort.Grow
import Derived.Shelf.SlSortCmp.WholeK
import Derived.Stop.LaidErr

section
namespace Go.Proofs.YtjkifdjjcfempaaDoor
open Go Go.RowKit
set_option linter.unusedVariables false

section
variable {P : Program} {ops : Array Oper} {md : Region.Mode} {C : World → Prop}

/-- What is listed on the way through the head. -/
structure HdInv (md : Region.Mode) (ops : Array Oper) (k n : Nat) (listed : Array Bool) : Prop where
  head : HeadInv md ops n listed
  first : ∀ i, i < k → listed.getD i true = true
theorem HdInv.set {k n j : Nat} {listed : Array Bool} (h : HdInv md ops k n listed) (hj : j ∈ Region.ready md ops listed) (hjn : j < n) : HdInv md ops k n (listed.setIfInBounds j true) := by
  refine ⟨h.head.set hj hjn, fun i hi => ?_⟩
  by_cases hij : j = i
  · subst hij
    have := (mem_ready.1 hj).1
    rw [h.first j hi] at this
    cases this
  · rw [getD_set_ne true hij]; exact h.first i hi
end
end Go.Proofs.YtjkifdjjcfempaaDoor
end

section
namespace Go.Proofs.YtjkifdjjcfempaaDoor
open Go.RowKit Go Go.Sort
set_option linter.unusedVariables false

/-- A value comes back; what was there stays. -/
def Tells (v : Value) (w : World) (e : Ending) (w' : World) : Prop := e = .returned v ∧ Below w.heap.size w w'
/-- A pair that lies at a block's head. -/
def Pair (W : World) (g : Nat) (t : TypeId) (a b : Int) : Prop := W.heap[g]? = some (.cells #[.int .i64 a, .int .i64 b] t (0, 0))
theorem Pair.lt {W : World} {g : Nat} {t : TypeId} {a b : Int} (h : Pair W g t a b) : g < W.heap.size := (Array.getElem?_eq_some_iff.1 h).1
theorem Pair.kept {W W' : World} {g : Nat} {t : TypeId} {a b : Int} (h : Pair W g t a b) (hb : Below W.heap.size W W') : Pair W' g t a b := (hb.block g h.lt).trans h
theorem Pair.c0 {W : World} {g : Nat} {t : TypeId} {a b : Int} (h : Pair W g t a b) : W.cell? ⟨g, 0, none⟩ = some (.int .i64 a) := by
  rw [cell_of_row W g 0 _ t (0, 0) h]; rfl
theorem Pair.c1 {W : World} {g : Nat} {t : TypeId} {a b : Int} (h : Pair W g t a b) : W.cell? ⟨g, 1, none⟩ = some (.int .i64 b) := by
  rw [cell_of_row W g 1 _ t (0, 0) h]; rfl
theorem Pair.new (W : World) (t : TypeId) (a b : Int) : Pair (W.alloc (.cells #[.int .i64 a, .int .i64 b] t)) W.heap.size t a b := heap_alloc_new W _
theorem Pair.alloc {W : World} {g : Nat} {t : TypeId} {a b : Int} (h : Pair W g t a b) (o : Obj) : Pair (W.alloc o) g t a b := (Below.heap_alloc W o g h.lt).trans h
theorem Pair.other {W : World} {g : Nat} {t : TypeId} {a b : Int} (h : Pair W g t a b) (p : Addr) (v : Value) (hne : g ≠ p.block) : Pair (W.setCell p v) g t a b :=
  (heap_setCell_other W p g v hne).trans h
theorem alloc_below (w : World) (o : Obj) : Below w.heap.size w (w.alloc o) := (Below.refl _ w).alloc (Nat.le_refl _) o
theorem Pair.second (W : World) (o1 : Obj) (t : TypeId) (a b : Int) : Pair ((W.alloc o1).alloc (.cells #[.int .i64 a, .int .i64 b] t)) (W.heap.size + 1) t a b := by
  have h := Pair.new (W.alloc o1) t a b
  rwa [World.size_alloc] at h
theorem second_below (W : World) (o1 o2 : Obj) : Below W.heap.size W ((W.alloc o1).alloc o2) := (alloc_below W o1).alloc (by simp) o2
/-- A slice of pairs of the world. -/
structure Prs (w : World) (a : Option Addr) (n cap : Nat) (l : List (Int × Int)) : Prop where
  len : l.length = n
  le : n ≤ cap
  max : cap ≤ 9223372036854775807
  adr : cap = 0 ∨ ∃ b off, a = some ⟨b, off, none⟩ ∧ ∀ i, i < n → w.cell? ⟨b, off + i * 2, none⟩ = some (.int .i64 (l.getD i (0, 0)).1) ∧ w.cell? ⟨b, off + i * 2 + 1, none⟩ = some (.int .i64 (l.getD i (0, 0)).2)
theorem Prs.below {w w' : World} {a : Option Addr} {n cap : Nat} {l : List (Int × Int)} (h : Prs w a n cap l) (hb : Below w.heap.size w w') : Prs w' a n cap l := by
  refine ⟨h.len, h.le, h.max, ?_⟩
  rcases h.adr with h4 | ⟨b, off, rfl, hc⟩
  · exact .inl h4
  · refine .inr ⟨b, off, rfl, fun i hi => ?_⟩
    obtain ⟨h1, h2⟩ := hc i hi
    exact ⟨by rw [hb.cell (World.block_lt_of_cell? w _ h1)]; exact h1, by rw [hb.cell (World.block_lt_of_cell? w _ h2)]; exact h2⟩
end Go.Proofs.YtjkifdjjcfempaaDoor
end

section
namespace Go.Proofs.YtjkifdjjcfempaaDoor
open Go.RowKit

/-- How many bytes a number has. -/
def sizeS (n : Int) : Int :=
  if n < 0 ∨ 4611686018427387903 < n then 0 else if n < 64 then 1 else if n < 16384 then 2 else if n < 1073741824 then 4 else 8

theorem sizeS_neg {n : Int} (h : n < 0 ∨ 4611686018427387903 < n) : sizeS n = 0 := by unfold sizeS; rw [if_pos h]
theorem sizeS_1 {n : Int} (h : 0 ≤ n) (h1 : n < 64) : sizeS n = 1 := by unfold sizeS; rw [if_neg (by omega), if_pos h1]
theorem sizeS_2 {n : Int} (h : 64 ≤ n) (h1 : n < 16384) : sizeS n = 2 := by unfold sizeS; rw [if_neg (by omega), if_neg (by omega), if_pos h1]
theorem sizeS_4 {n : Int} (h : 16384 ≤ n) (h1 : n < 1073741824) : sizeS n = 4 := by unfold sizeS; rw [if_neg (by omega), if_neg (by omega), if_neg (by omega), if_pos h1]
theorem sizeS_8 {n : Int} (h : 1073741824 ≤ n) (h1 : n ≤ 4611686018427387903) : sizeS n = 8 := by unfold sizeS; rw [if_neg (by omega), if_neg (by omega), if_neg (by omega), if_neg (by omega)]
theorem sizeS_bd (n : Int) : 0 ≤ sizeS n ∧ sizeS n ≤ 8 := by unfold sizeS; split <;> (try split) <;> (try split) <;> (try split) <;> omega

/-- Byte i of l, as a number. -/
def by8 (l : List UInt8) (i : Nat) : Int := ((l.getD i 0).toNat : Int)
/-- A byte slice of the world: length n, reading as the bytes l. -/
structure Bys (w : World) (a : Option Addr) (n cap : Nat) (l : List UInt8) : Prop where
  len : l.length = n
  le : n ≤ cap
  max : cap ≤ 9223372036854775807
  adr : cap = 0 ∨ ∃ b off, a = some ⟨b, off, none⟩ ∧ ∀ i, i < n → w.cell? ⟨b, off + i, none⟩ = some (.int .u8 (by8 l i))

theorem by8_take (l : List UInt8) (q i : Nat) (h : i < q) : by8 (l.take q) i = by8 l i := by
  unfold by8; simp [List.getD, h]
theorem by8_drop (l : List UInt8) (q i : Nat) : by8 (l.drop q) i = by8 l (q + i) := by
  unfold by8; simp [List.getD, List.getElem?_drop]
theorem addr_add (b off i : Nat) : (⟨b, off, none⟩ : Addr).add i = ⟨b, off + i, none⟩ := by
  by_cases h0 : i = 0
  · subst h0; rfl
  · simp [Addr.add, h0]

/-- The first q bytes of a slice. -/
theorem Bys.take {w : World} {a : Option Addr} {n cap : Nat} {l : List UInt8} (h : Bys w a n cap l) {q : Nat} (hq : q ≤ n) : Bys w a q cap (l.take q) := by
  obtain ⟨h1, h2, h3, h4⟩ := h
  refine ⟨by simp; omega, by omega, h3, ?_⟩
  rcases h4 with h4 | ⟨b, off, rfl, hc⟩
  · exact .inl h4
  · exact .inr ⟨b, off, rfl, fun i hi => by rw [by8_take l q i hi]; exact hc i (by omega)⟩
theorem Bys.drop {w : World} {a : Option Addr} {n cap : Nat} {l : List UInt8} (h : Bys w a n cap l) {q : Nat} (hq : q ≤ n) : Bys w (a.map (fun x => x.add q)) (n - q) (cap - q) (l.drop q) := by
  obtain ⟨h1, h2, h3, h4⟩ := h
  refine ⟨by simp; omega, by omega, by omega, ?_⟩
  rcases h4 with h4 | ⟨b, off, rfl, hc⟩
  · exact .inl (by omega)
  · exact .inr ⟨b, off + q, by rw [Option.map_some, addr_add], fun i hi => by rw [by8_drop, Nat.add_assoc]; exact hc (q + i) (by omega)⟩

theorem Bys.below {w w' : World} {a : Option Addr} {n cap : Nat} {l : List UInt8} (h : Bys w a n cap l) (hb : Below w.heap.size w w') : Bys w' a n cap l := by
  obtain ⟨h1, h2, h3, h4⟩ := h
  refine ⟨h1, h2, h3, ?_⟩
  rcases h4 with h4 | ⟨b, off, rfl, hc⟩
  · exact .inl h4
  · refine .inr ⟨b, off, rfl, fun i hi => ?_⟩
    have := hc i hi
    rw [hb.cell (World.block_lt_of_cell? w _ this)]; exact this

/-- Byte i of l. -/
def byt8 (l : List UInt8) (i : Nat) : UInt8 := l.getD i 0
theorem by8_byt8 (l : List UInt8) (i : Nat) : by8 l i = ((byt8 l i).toNat : Int) := rfl

theorem take_snoc8 (l : List UInt8) (k : Nat) (h : k < l.length) : l.take (k + 1) = l.take k ++ [l.getD k 0] := by
  rw [List.take_succ_eq_append_getElem h]; simp [List.getD, h]

end Go.Proofs.YtjkifdjjcfempaaDoor
end

section
namespace Go.Proofs.YtjkifdjjcfempaaDoor
open Go.RowKit

/-- Three numbers come back, and the world is as it was. -/
def Ret3 (t : Int × Int × Int) (w : World) (e : Ending) (w' : World) : Prop := e = .returned (.tuple #[.int .i64 t.1, .int .i64 t.2.1, .int .i64 t.2.2]) ∧ w = w'
theorem Ret3.mk {x y z : Int} {t : Int × Int × Int} {w : World} (h : t = (x, y, z)) : Ret3 t w (.returned (.tuple #[.int .i64 x, .int .i64 y, .int .i64 z])) w := by
  subst h; exact ⟨rfl, rfl⟩

set_option maxHeartbeats 400000 in
theorem size_c (n : Int) (h0 : -9223372036854775808 ≤ n) (h1 : n ≤ 9223372036854775807) (w : World) :
    Calls Tryd.prog 48 #[.int .i64 n] w fun e w' => e = .returned (.int .i64 (sizeS n)) ∧ w = w' := by
  by_cases c1 : n < 0
  · rw [sizeS_neg (.inl c1)]
    go_enter Tryd.func48, Tryd.ntmps48
    go_wp2
    go_ret
    exact ⟨rfl, rfl⟩
  by_cases c2 : 4611686018427387903 < n
  · rw [sizeS_neg (.inr c2)]
    go_enter Tryd.func48, Tryd.ntmps48
    go_wp2
    go_ret
    exact ⟨rfl, rfl⟩
  by_cases c3 : n < 64
  · rw [sizeS_1 (by omega) c3]
    go_enter Tryd.func48, Tryd.ntmps48
    go_wp2
    go_ret
    exact ⟨rfl, rfl⟩
  by_cases c4 : n < 16384
  · rw [sizeS_2 (by omega) c4]
    go_enter Tryd.func48, Tryd.ntmps48
    go_wp2
    go_ret
    exact ⟨rfl, rfl⟩
  by_cases c5 : n < 1073741824
  · rw [sizeS_4 (by omega) c5]
    go_enter Tryd.func48, Tryd.ntmps48
    go_wp2
    go_ret
    exact ⟨rfl, rfl⟩
  · rw [sizeS_8 (by omega) (by omega)]
    go_enter Tryd.func48, Tryd.ntmps48
    go_wp2
    go_ret
    exact ⟨rfl, rfl⟩

end Go.Proofs.YtjkifdjjcfempaaDoor
end

section
namespace Go.Proofs.YtjkifdjjcfempaaDoor
open Go.RowKit
set_option linter.unusedVariables false

/-- Bytes as cells. -/
def u8v (l : List UInt8) : List Value := l.map (fun c => Value.int .u8 (c.toNat : Int))
theorem u8v_length (l : List UInt8) : (u8v l).length = l.length := by simp [u8v]
theorem u8v_append (l m : List UInt8) : u8v (l ++ m) = u8v l ++ u8v m := by simp [u8v]
theorem u8v_get (l : List UInt8) (i : Nat) (h : i < l.length) : (u8v l)[i]? = some (.int .u8 (by8 l i)) := by
  simp [u8v, by8, List.getD, h]
theorem u8v_one (l : List UInt8) : ∀ u ∈ u8v l, u.oneCell' = true := by
  intro u hu; obtain ⟨c, _, rfl⟩ := List.mem_map.1 hu; rfl

/-- The text of bytes. -/
def text (l : List UInt8) : ByteArray := ⟨l.toArray⟩

/-- The cells behind a slice's address. -/
theorem Bys.cells {w : World} {a : Option Addr} {n cap : Nat} {l : List UInt8} (h : Bys w a n cap l) (hn : 0 < n) :
    ∃ ad, a = some ad ∧ ∀ j v, (u8v l)[j]? = some v → w.cell? (ad.add j) = some v := by
  obtain ⟨h1, h2, h3, h4⟩ := h
  rcases h4 with h4 | ⟨b, off, rfl, hc⟩
  · omega
  · refine ⟨_, rfl, fun j v hv => ?_⟩
    have hj : j < l.length := by
      have := (List.getElem?_eq_some_iff.1 hv).1
      rwa [u8v_length] at this
    rw [u8v_get l j hj] at hv
    rw [addr_add, ← hv]
    exact hc j (by omega)

theorem fold_push (l : List UInt8) (s : ByteArray) : (l.map (fun c => (c.toNat : Int))).foldl (fun r n => r.push (UInt8.ofNat n.toNat)) s = ⟨s.data ++ l.toArray⟩ := by
  induction l generalizing s with
  | nil => simp
  | cons c t ih =>
    simp only [List.map_cons, List.foldl_cons]
    rw [ih]
    simp [ByteArray.push]

section
variable {P : Program}
/-- string(b): the text of its bytes; no memory is made. -/
theorem conv_bys {w : World} {a : Option Addr} {n cap : Nat} {l : List UInt8} (h : Bys w a n cap l) {src dst e : TypeId}
    (hs : P.underlying src = some (.slice e)) (he : P.underlying e = some (.int .u8)) (hd : P.underlying dst = some .string) :
    (convert src dst (.slice a n cap)).run P w = .ok (.string (text l)) w := by
  rw [run_convert_bytes_string w src dst e a n cap hs he hd]
  by_cases hn : 0 < n
  · obtain ⟨ad, rfl, hc⟩ := h.cells hn
    have hl := run_loadCells_list (P := P) (w := w) ad (u8v l) hc
    rw [u8v_length, h.len] at hl
    have := run_bytesToString (P := P) w ad n cap (l.map (fun c => (c.toNat : Int))) (by rw [hl]; simp [u8v, Function.comp_def])
    rw [this, fold_push]
    simp [text]
  · obtain rfl : n = 0 := by omega
    have hl : l = [] := List.eq_nil_of_length_eq_zero h.len
    subst hl
    cases a with
    | none => simp [Conv.bytesToString, text]; rfl
    | some ad =>
      have hl := run_loadCells_list (P := P) (w := w) ad [] (by intro j v hv; simp at hv)
      have := run_bytesToString (P := P) w ad 0 cap [] (by simpa using hl)
      rw [this]; simp [text]; rfl

/-- A slice of the call's own that reads as the bytes l. -/
def OwnB (w : World) (B : Nat) (e : TypeId) (v : Value) (l : List UInt8) : Prop := w.ownsRow B e 1 v l.length (u8v l)

theorem OwnB.bys {w : World} {B : Nat} {e : TypeId} {v : Value} {l : List UInt8} (h : OwnB w B e v l) : ∃ a cap, v = .slice a l.length cap ∧ Bys w a l.length cap l := by
  obtain ⟨h1, h2⟩ := h
  rcases h2 with ⟨rfl, hn⟩ | ⟨g, cap, cur, rfl, hb, hg, hnc, hcm, hcs, htake⟩
  · exact ⟨none, 0, by rw [hn], rfl, by omega, by omega, .inl rfl⟩
  · refine ⟨_, cap, rfl, rfl, hnc, by unfold maxLen at hcm; omega, .inr ⟨g, 0, rfl, fun i hi => ?_⟩⟩
    rw [Nat.zero_add, cell_of_row w g i cur e (0, 0) hg]
    have h3 : (cur.toList.take (l.length * 1))[i]? = (u8v l)[i]? := by rw [htake]
    rw [List.getElem?_take, if_pos (by omega), u8v_get l i hi] at h3
    rw [← h3]; simp

/-- A row of its own that is not empty lies at a block's head. -/
theorem OwnB.row {w : World} {B : Nat} {e : TypeId} {v : Value} {l : List UInt8} (h : OwnB w B e v l) (hl : 0 < l.length) :
    ∃ g cap, v = .slice (some ⟨g, 0, none⟩) l.length cap ∧ OwnB w B e (.slice (some ⟨g, 0, none⟩) l.length cap) l := by
  have h' := h
  rcases h'.2 with ⟨rfl, hn⟩ | ⟨g, cap, cur, rfl, _⟩
  · omega
  · exact ⟨g, cap, rfl, h⟩

/-- append(v, b...), v of the call's own, b wherever it lies. -/
theorem run_append_bys {w : World} {base : Nat} {t ty e : TypeId} {i : TypeInfo} {z : Value} {bytes : Nat} (ht : P.underlying t = some (.slice e)) (hi : P.info? e = some i) (hz : i.zero = some z)
    (hsize : i.size = 1) (hby : i.bytes = 1) (hzs : z.cells.size = 1) {v : Value} {k : List UInt8} (hown : OwnB w base e v k)
    {a : Option Addr} {m c : Nat} {l : List UInt8} (hb : Bys w a m c l) (h63 : k.length + m ≤ 140737488355328) (hbase : base ≤ w.heap.size) :
    ∃ v' w', (Builtin.append_ #[t, t] ty #[v, .slice a m c]).run P w = .ok v' w' ∧ OwnB w' base e v' (k ++ l) ∧ w.grownBy w' v.ownBlock := by
  have hlen := hb.len
  by_cases hm : a = none ∧ m = 0
  · obtain ⟨rfl, rfl⟩ := hm
    have hl : l = [] := List.eq_nil_of_length_eq_zero hb.len
    subst hl
    rw [List.append_nil]
    refine ⟨v, w, ?_, hown, World.grownBy.refl _ _⟩
    have hown' := hown
    rcases hown'.2 with ⟨rfl, hn⟩ | ⟨g, cap, cur, rfl, _, _, hnc, _⟩
    · simp [Builtin.append_, run_underlying ht, sizeOf, typeInfo, hi, Builtin.lenOf, Builtin.firstCells]
    · simp [Builtin.append_, run_underlying ht, sizeOf, typeInfo, hi, Builtin.lenOf, Builtin.firstCells, hnc, storeCells]
  · obtain ⟨ad, rfl, hc⟩ : ∃ ad, a = some ad ∧ ∀ j v, (u8v l)[j]? = some v → w.cell? (ad.add j) = some v := by
      by_cases hm0 : 0 < m
      · exact hb.cells hm0
      · cases a with
        | none => exact absurd ⟨rfl, by omega⟩ hm
        | some ad =>
          have hl : l = [] := List.eq_nil_of_length_eq_zero (by omega)
          subst hl
          exact ⟨ad, rfl, fun j v hv => by simp [u8v] at hv⟩
    obtain ⟨v', w', h1, h2, h3, _⟩ := run_append_own (P := P) w base t ty e i z 1 1 ht hi hz hsize hby hzs (by decide) v k.length (u8v k) hown ad m c (u8v l) (by rw [u8v_length]; omega) hc (u8v_one l)
      (by unfold maxLen; omega) (by omega) hbase
    refine ⟨v', w', h1, ?_, h3⟩
    unfold OwnB
    rw [List.length_append, u8v_append, hlen]
    exact h2

theorem wpList_append_bys {w : World} {ops : Array Oper} {rest : List Oper} {o : Oper} {a : Act} {Q : Exit → Act → World → Prop} (hgd : o.guard = none) (s x : Operand) (t : TypeId)
    (ho : o.op = .call { callee := .builtin .append, args := #[s, x], argTypes := #[t, t] })
    {base : Nat} {e : TypeId} {i : TypeInfo} {z : Value} (ht : P.underlying t = some (.slice e)) (hi : P.info? e = some i) (hz : i.zero = some z)
    (hsize : i.size = 1) (hby : i.bytes = 1) (hzs : z.cells.size = 1) {v : Value} {k : List UInt8} (hs : a.eval s = v) (hown : OwnB w base e v k)
    {ad : Option Addr} {m c : Nat} {l : List UInt8} (hx : a.eval x = .slice ad m c) (hb : Bys w ad m c l) (h63 : k.length + m ≤ 140737488355328) (hbase : base ≤ w.heap.size)
    (h : ∀ v' w', OwnB w' base e v' (k ++ l) → w.grownBy w' v.ownBlock → wpList P ops Q rest (a.put o.dst v') w') : wpList P ops Q (o :: rest) a w := by
  refine wpList_plain hgd fun K hK => ?_
  obtain ⟨v', w', hr, h2, h3⟩ := run_append_bys (P := P) (ty := o.type) (bytes := 1) ht hi hz hsize hby hzs hown hb h63 hbase
  unfold Oper.wp execOp
  simp only [ho, resolve, invoke, builtin, Sem.run_bind, Sem.run_pure, Result.andThen_ok, List.map_toArray, List.map_cons, List.map_nil, hs, hx, hr]
  exact hK _ _ (h v' w' h2 h3)
end

theorem OwnB.kept {w w' : World} {B : Nat} {e : TypeId} {v : Value} {l : List UInt8} (h : OwnB w B e v l) (hb : Below w.heap.size w w') : OwnB w' B e v l := by
  refine ⟨h.1, ?_⟩
  rcases h.2 with hn | ⟨g, cap, cur, rfl, hB, hg, rest⟩
  · exact .inl hn
  · exact .inr ⟨g, cap, cur, rfl, hB, by rw [hb.block g (Array.getElem?_eq_some_iff.1 hg).1]; exact hg, rest⟩
theorem OwnB.lt {w : World} {B : Nat} {e : TypeId} {v : Value} {l : List UInt8} (h : OwnB w B e v l) : ∀ k, v.ownBlock = some k → B ≤ k ∧ k < w.heap.size := World.ownsRow.lt h
theorem OwnB.mono {w : World} {B B' : Nat} {e : TypeId} {v : Value} {l : List UInt8} (h : OwnB w B e v l) (hB : B' ≤ B) : OwnB w B' e v l := by
  refine ⟨h.1, ?_⟩
  rcases h.2 with hn | ⟨g, cap, cur, rfl, hb, rest⟩
  · exact .inl hn
  · exact .inr ⟨g, cap, cur, rfl, by omega, rest⟩
end Go.Proofs.YtjkifdjjcfempaaDoor
end

section
namespace Go.Proofs.YtjkifdjjcfempaaDoor
open Go.RowKit
set_option linter.unusedVariables false

/-- The mark of a number's first byte. -/
def markS (k : Nat) : Nat := if k = 2 then 64 else if k = 4 then 128 else if k = 8 then 192 else 0

def rawAt (n : Int) (i : Nat) : UInt8 := UInt8.ofNat (n.toNat / 256 ^ i % 256)
/-- The k lowest bytes of n, the highest first. -/
def rawB (n : Int) (k : Nat) : List UInt8 := (List.range k).map (fun j => rawAt n (k - 1 - j))
theorem rawB_length (n : Int) (k : Nat) : (rawB n k).length = k := by simp [rawB]
theorem rawB_get (n : Int) (k j : Nat) (h : j < k) : byt8 (rawB n k) j = rawAt n (k - 1 - j) := by
  unfold byt8 rawB; simp [List.getD, h]
/-- k bytes with the mark. -/
def numK (n : Int) (k : Nat) : List UInt8 := (rawB n k).set 0 (UInt8.ofNat (n.toNat / 256 ^ (k - 1) % 256 + markS k))
theorem numK_length (n : Int) (k : Nat) : (numK n k).length = k := by simp [numK, rawB_length]
/-- The bytes of a number; none, if it can't be laid. -/
def numB (n : Int) : List UInt8 := numK n (sizeS n).toNat

theorem rawAt_val (n : Int) (h : 0 ≤ n) (i : Nat) : n / 2 ^ (8 * i) % 256 = ((rawAt n i).toNat : Int) := by
  obtain ⟨m, rfl⟩ := Int.eq_ofNat_of_zero_le h
  unfold rawAt
  rw [show (2 : Int) ^ (8 * i) = 256 ^ i by rw [Int.pow_mul]; rfl]
  simp

/-- Where Put's loop stands: i bytes are laid, from the last one on. -/
def layN (l : List UInt8) (n : Int) (k i : Nat) : List UInt8 := l ++ (List.replicate (k - i) 0 ++ (rawB n k).drop (k - i))
theorem layN_zero (l : List UInt8) (n : Int) (k : Nat) : layN l n k 0 = l ++ List.replicate k 0 := by
  unfold layN; rw [List.drop_of_length_le (by rw [rawB_length]; omega)]; simp
theorem layN_all (l : List UInt8) (n : Int) (k : Nat) : layN l n k k = l ++ rawB n k := by unfold layN; simp
theorem layN_length (l : List UInt8) (n : Int) (k i : Nat) (h : i ≤ k) : (layN l n k i).length = l.length + k := by
  unfold layN; simp [rawB_length]
theorem layN_succ (l : List UInt8) (n : Int) (k i : Nat) (h : i < k) : (layN l n k i).set (l.length + (k - 1 - i)) (rawAt n i) = layN l n k (i + 1) := by
  unfold layN
  rw [List.set_append, if_neg (by omega), Nat.add_sub_cancel_left, List.set_append, List.length_replicate, if_pos (by omega)]
  congr 1
  have e1 : k - i = (k - 1 - i) + 1 := by omega
  have e2 : k - (i + 1) = k - 1 - i := by omega
  rw [e2]
  have hd : (rawB n k).drop (k - 1 - i) = rawAt n i :: (rawB n k).drop (k - i) := by
    rw [List.drop_eq_getElem_cons (by rw [rawB_length]; omega), ← e1]
    congr 1
    have := rawB_get n k (k - 1 - i) (by omega)
    unfold byt8 at this
    rw [List.getD_eq_getElem?_getD, List.getElem?_eq_getElem (by rw [rawB_length]; omega), Option.getD_some] at this
    rw [this]
    congr 1; omega
  rw [hd, e1, List.replicate_succ', List.set_append, List.length_replicate, if_neg (by omega), Nat.sub_self]
  simp

theorem sizeS_cases {n : Int} (h0 : 0 ≤ n) (h1 : n ≤ 4611686018427387903) : ∃ k : Nat, sizeS n = (k : Int) ∧ (k = 1 ∨ k = 2 ∨ k = 4 ∨ k = 8) ∧ n.toNat / 256 ^ (k - 1) < 64 := by
  by_cases c3 : n < 64
  · exact ⟨1, sizeS_1 h0 c3, by omega, by simp; omega⟩
  by_cases c4 : n < 16384
  · exact ⟨2, sizeS_2 (by omega) c4, by omega, by simp; omega⟩
  by_cases c5 : n < 1073741824
  · exact ⟨4, sizeS_4 (by omega) c5, by omega, by simp; omega⟩
  · exact ⟨8, sizeS_8 (by omega) h1, by omega, by simp; omega⟩

/-- The first byte takes its mark. -/
theorem mark_val (n : Int) (k : Nat) (hk : k = 1 ∨ k = 2 ∨ k = 4 ∨ k = 8) (hn : n.toNat / 256 ^ (k - 1) < 64) :
    bits .or .u8 ((rawAt n (k - 1)).toNat : Int) (markS k : Nat) = ((UInt8.ofNat (n.toNat / 256 ^ (k - 1) % 256 + markS k)).toNat : Int) := by
  have hr : (rawAt n (k - 1)).toNat = n.toNat / 256 ^ (k - 1) := by unfold rawAt; simp; omega
  have hm : markS k = 64 * (markS k / 64) ∧ markS k ≤ 192 := by rcases hk with rfl | rfl | rfl | rfl <;> decide
  rw [hr]
  generalize n.toNat / 256 ^ (k - 1) = a at *
  rw [u8_or_nat _ _ (by omega) (by omega)]
  have e : a ||| markS k = a + markS k := by
    have := Nat.shiftLeft_add_eq_or_of_lt (i := 6) (b := a) (by omega) (markS k / 64)
    rw [Nat.shiftLeft_eq, show markS k / 64 * 2 ^ 6 = markS k by omega] at this
    rw [Nat.or_comm, ← this, Nat.add_comm]
  rw [e]
  simp; omega
theorem numK_set (l : List UInt8) (n : Int) (k : Nat) (hk : 0 < k) : (l ++ rawB n k).set l.length (UInt8.ofNat (n.toNat / 256 ^ (k - 1) % 256 + markS k)) = l ++ numK n k := by
  rw [List.set_append, if_neg (by omega), Nat.sub_self]; rfl

theorem u8v_set (l : List UInt8) (i : Nat) (c : UInt8) : (u8v l).set i (.int .u8 (c.toNat : Int)) = u8v (l.set i c) := by
  unfold u8v; rw [List.map_set]

/-- A row that was made, and copied into at its head. -/
theorem made_list (n : Nat) : (madeCells #[Value.int .u8 0] n).toList = List.replicate n (Value.int .u8 0) := toList_madeCells_one _ n
theorem heap_of_made {w : World} {B g n : Nat} (h : w.ownsRow B 5 1 (.slice (some ⟨g, 0, none⟩) n n) n (madeCells #[Value.int .u8 0] n).toList) :
    w.heap[g]? = some (.cells (List.replicate n (Value.int .u8 0)).toArray 5 (0, 0)) := by
  rcases h.2 with ⟨h', _⟩ | ⟨g', cap', cur, h', _, hg, _, _, hcs, htake⟩
  · simp at h'
  · simp only [Value.slice.injEq, Option.some.injEq, Addr.mk.injEq, and_true, true_and] at h'
    obtain ⟨rfl, rfl⟩ := h'
    rw [made_list, List.take_of_length_le (by simp [hcs])] at htake
    rw [hg]
    congr 2
    apply Array.ext'
    rw [htake]
theorem own_copied {w : World} {B g k : Nat} {l : List UInt8} (hB : B ≤ g) (hm : l.length + k ≤ 140737488355328)
    (h : w.heap[g]? = some (.cells (splice (List.replicate (l.length + k) (Value.int .u8 0)) 0 (u8v l)).toArray 5 (0, 0))) :
    w.ownsRow B 5 1 (.slice (some ⟨g, 0, none⟩) (l.length + k) (l.length + k)) (l.length + k) (u8v (l ++ List.replicate k 0)) := by
  have e : splice (List.replicate (l.length + k) (Value.int .u8 0)) 0 (u8v l) = u8v (l ++ List.replicate k 0) := by
    unfold splice
    rw [u8v_append, u8v_length]
    simp [u8v]
  rw [e] at h
  refine ⟨by rw [u8v_length]; simp, .inr ⟨g, _, _, rfl, hB, h, Nat.le_refl _, by unfold maxLen; omega, ?_,?_⟩⟩
  · simp [u8v_length]
  · simp only []
    rw [List.take_of_length_le (by simp [u8v_length])]
theorem grown_trans {a b c : World} {g : Nat} (h : a.grownBy b (some g)) (k : b.grownBy c (some g)) : a.grownBy c (some g) :=
  ⟨k.os.trans h.os, k.tape.trans h.tape, k.output.trans h.output, Nat.le_trans h.size k.size, fun i hi hne => (k.block i (Nat.lt_of_lt_of_le hi h.size) hne).trans (h.block i hi hne)⟩
theorem numB_length (n : Int) : (numB n).length ≤ 8 := by
  unfold numB; rw [numK_length]; have := sizeS_bd n; omega
end Go.Proofs.YtjkifdjjcfempaaDoor
end

section
namespace Go.Proofs.YtjkifdjjcfempaaDoor
open Go.RowKit
set_option linter.unusedVariables false

/-- The four cells of the table that sizes of numbers lead to. -/
structure TabW (w : World) : Prop where
  c0 : w.cell? ⟨1, 0, none⟩ = some (.int .u8 0)
  c1 : w.cell? ⟨1, 1, none⟩ = some (.int .u8 1)
  c2 : w.cell? ⟨1, 3, none⟩ = some (.int .u8 2)
  c3 : w.cell? ⟨1, 7, none⟩ = some (.int .u8 3)

theorem TabW.below {w w' : World} (h : TabW w) (hb : Below w.heap.size w w') : TabW w' := by
  have hlt : 1 < w.heap.size := World.block_lt_of_cell? w _ h.c0
  exact ⟨by rw [hb.cell hlt]; exact h.c0, by rw [hb.cell hlt]; exact h.c1, by rw [hb.cell hlt]; exact h.c2, by rw [hb.cell hlt]; exact h.c3⟩

def RetU8 (x : Int) (w : World) (e : Ending) (w' : World) : Prop := e = .returned (.int .u8 x) ∧ w = w'
theorem RetU8.mk {a x : Int} {w : World} (h : a = x) : RetU8 x w (.returned (.int .u8 a)) w := by subst h; exact ⟨rfl, rfl⟩

set_option maxHeartbeats 800000 in
theorem mark_c (k : Nat) (hk : k = 1 ∨ k = 2 ∨ k = 4 ∨ k = 8) {w : World} (hT : TabW w) : Calls Tryd.prog 49 #[.int .i64 (k : Int)] w (RetU8 (markS k : Nat) w) := by
  obtain ⟨c0, c1, c2, c3⟩ := hT
  rcases hk with rfl | rfl | rfl | rfl
  · have hx : IntKind.u64.wrap (bits BinOp.and IntKind.u64 1 (IntKind.u64.wrap (-1)) * 285870213051353865) / 288230376151711744 = 0 := by decide
    go_enter Tryd.func49, Tryd.ntmps49
    go_wp2
    go_ret
    exact RetU8.mk (by decide)
  · have hx : IntKind.u64.wrap (bits BinOp.and IntKind.u64 2 (IntKind.u64.wrap (-2)) * 285870213051353865) / 288230376151711744 = 1 := by decide
    go_enter Tryd.func49, Tryd.ntmps49
    go_wp2
    go_ret
    exact RetU8.mk (by decide)
  · have hx : IntKind.u64.wrap (bits BinOp.and IntKind.u64 4 (IntKind.u64.wrap (-4)) * 285870213051353865) / 288230376151711744 = 3 := by decide
    go_enter Tryd.func49, Tryd.ntmps49
    go_wp2
    go_ret
    exact RetU8.mk (by decide)
  · have hx : IntKind.u64.wrap (bits BinOp.and IntKind.u64 8 (IntKind.u64.wrap (-8)) * 285870213051353865) / 288230376151711744 = 7 := by decide
    go_enter Tryd.func49, Tryd.ntmps49
    go_wp2
    go_ret
    exact RetU8.mk (by decide)
end Go.Proofs.YtjkifdjjcfempaaDoor
end

section
namespace Go.Proofs.YtjkifdjjcfempaaDoor
open Go.RowKit

/-- What a function tells that makes bytes: a slice of its own. -/
def BytesPost (l : List UInt8) (w : World) (e : Ending) (w' : World) : Prop := ∃ v, e = .returned v ∧ OwnB w' w.heap.size 5 v l ∧ Below w.heap.size w w'

theorem Tryd.info5 : (Tryd.prog.info? 5).map (fun i => (i.zero, i.size, i.bytes)) = some (some (.int .u8 0), 1, 1) := by kernel_rfl
end Go.Proofs.YtjkifdjjcfempaaDoor
end

section
namespace Go.Proofs.YtjkifdjjcfempaaDoor
open Go.RowKit
set_option linter.unusedVariables false

theorem numB_none {n : Int} (h : n < 0 ∨ 4611686018427387903 < n) : numB n = [] := by unfold numB; rw [sizeS_neg h]; rfl
theorem numB_some {n : Int} {k : Nat} (h : sizeS n = (k : Int)) : numB n = numK n k := by unfold numB; rw [h]; rfl

set_option maxHeartbeats 1600000 in
theorem put_none {w : World} {a : Option Addr} {m cap : Nat} {l : List UInt8} (hb : Bys w a m cap l) (hn : m ≤ 1000000) (n : Int) (h0 : -9223372036854775808 ≤ n) (h1 : n ≤ 9223372036854775807) (h : n < 0 ∨ 4611686018427387903 < n) :
    Calls Tryd.prog 35 #[.slice a m cap, .int .i64 n] w (BytesPost (l ++ numB n) w) := by
  obtain ⟨i0, hi, hz0, hz1, hz2⟩ := info_parts Tryd.info5
  obtain rfl : l.length = m := hb.len
  have hs := sizeS_neg h
  have HB := Lib.hid (numB_none h)
  clear h
  have hsz : (Tryd.prog.info? 5).map (·.size) = some 1 := by rw [hi]; simp [hz1]
  go_enter Tryd.func35, Tryd.ntmps35
  go_wp2_with (first
    | (go_at_call 48; refine (size_c n h0 h1 _).mono ?_; rintro e w' ⟨rfl, rfl⟩; rw [hs])
    | (at_make; refine wpList_make_full _ rfl _ _ 43 rfl w.heap.size 5 i0 (.int .u8 0) 1 Tryd.underlying43 hi hz0 hz1 .i64 .i64 _ _ l.length rfl rfl ?c1 ?c2 ?c3 ?c4 ?c5 ?_))
  case c1 => simp
  case c2 => simp
  case c3 => rw [hz2]; omega
  case c4 => unfold maxLen; omega
  case c5 => exact Nat.le_refl _
  intro w1 hown hgr
  have hbel : Below w.heap.size w w1 := (Below.refl _ _).grown hgr (Nat.le_refl _) (fun k hk => by cases hk)
  have HH := Lib.hid (show w1.heap[w.heap.size]? = some (.cells (List.replicate l.length (Value.int .u8 0)).toArray 5 (0, 0)) from heap_of_made hown)
  have hcl : (u8v l).length = l.length := u8v_length l
  have HP := Lib.hid (show 0 < (u8v l).length → ∃ ad, a = some ad ∧ ∀ j v, (u8v l)[j]? = some v → w1.cell? (ad.add j) = some v from fun hp => (hb.below hbel).cells (by rw [hcl] at hp; exact hp))
  have HM := Lib.hid (show (u8v l).length = Nat.min l.length l.length by rw [hcl]; exact (Nat.min_self _).symm)
  have hfit : 0 + (u8v l).length ≤ (List.replicate l.length (Value.int .u8 0)).length := by rw [hcl]; simp
  clear hown hgr
  go_wp2_with (with_reducible refine wpList_copy_splice rfl (.tmp 17) (.tmp 18) 43 43 rfl 5 Tryd.underlying43 hsz (some ⟨w.heap.size, 0, none⟩) a l.length l.length l.length cap rfl rfl w.heap.size 0 (List.replicate l.length (Value.int .u8 0)) 5 HH.out (u8v l) HM.out (fun hp => ⟨rfl, HP.out hp⟩) hfit (u8v_one l) w.heap.size w hbel (Nat.le_refl _) ?_; intro w4 hg4 hb4)
  go_loop [22] (fun i => i = .int .i64 0) (fun _ => 0)
  case atStart => exact rfl
  case round =>
    subst hrel
    go_wp2
    go_ret
    have ho := own_copied (k := 0) (Nat.le_refl w.heap.size) (by omega) hg4.out
    refine ⟨_, rfl, ?_, hb4⟩
    rw [HB.out, List.append_nil]
    simpa [OwnB] using ho

set_option maxRecDepth 100000 in
set_option maxHeartbeats 3200000 in
theorem put_some {w : World} {a : Option Addr} {m cap : Nat} {l : List UInt8} (hb : Bys w a m cap l) (hn : m ≤ 1000000) (n : Int) (h0 : 0 ≤ n) (h1 : n ≤ 4611686018427387903) (hT : TabW w) :
    Calls Tryd.prog 35 #[.slice a m cap, .int .i64 n] w (BytesPost (l ++ numB n) w) := by
  obtain ⟨i0, hi, hz0, hz1, hz2⟩ := info_parts Tryd.info5
  obtain rfl : l.length = m := hb.len
  obtain ⟨k, hs, hk, hlow⟩ := sizeS_cases h0 h1
  have HB := Lib.hid (numB_some hs)
  have hsz : (Tryd.prog.info? 5).map (·.size) = some 1 := by rw [hi]; simp [hz1]
  have hk8 : 1 ≤ k ∧ k ≤ 8 := by omega
  have HS := Lib.hid hs
  have HK := Lib.hid hk
  have HL := Lib.hid hlow
  clear hs hk hlow
  have hkz : (0 : Int) < (k : Int) ∧ (k : Int) ≤ 8 := by omega
  have hle : (l.length : Int) ≤ (l.length : Int) + (k : Int) := by omega
  have hcq : ¬ l.length + k = l.length := by omega
  go_enter Tryd.func35, Tryd.ntmps35
  go_wp2_with (first
    | (go_at_call 48; refine (size_c n (by omega) (by omega) _).mono ?_; rintro e w' ⟨rfl, rfl⟩; rw [HS.out])
    | (at_make; refine wpList_make_full _ rfl _ _ 43 rfl w.heap.size 5 i0 (.int .u8 0) 1 Tryd.underlying43 hi hz0 hz1 .i64 .i64 _ _ (l.length + k) rfl rfl ?c1 ?c2 ?c3 ?c4 ?c5 ?_))
  case c1 => simp
  case c2 => simp
  case c3 => rw [hz2]; omega
  case c4 => unfold maxLen; omega
  case c5 => exact Nat.le_refl _
  intro w1 hown hgr
  have hbel : Below w.heap.size w w1 := (Below.refl _ _).grown hgr (Nat.le_refl _) (fun k hk => by cases hk)
  have HH := Lib.hid (show w1.heap[w.heap.size]? = some (.cells (List.replicate (l.length + k) (Value.int .u8 0)).toArray 5 (0, 0)) from heap_of_made hown)
  have hcl : (u8v l).length = l.length := u8v_length l
  have HP := Lib.hid (show 0 < (u8v l).length → ∃ ad, a = some ad ∧ ∀ j v, (u8v l)[j]? = some v → w1.cell? (ad.add j) = some v from fun hp => (hb.below hbel).cells (by rw [hcl] at hp; exact hp))
  have HM := Lib.hid (show (u8v l).length = Nat.min l.length (l.length + k) by rw [hcl]; exact (Nat.min_eq_left (by omega)).symm)
  have hfit : 0 + (u8v l).length ≤ (List.replicate (l.length + k) (Value.int .u8 0)).length := by rw [hcl]; simp
  clear hown hgr
  go_wp2_with (with_reducible refine wpList_copy_splice rfl (.tmp 17) (.tmp 18) 43 43 rfl 5 Tryd.underlying43 hsz (some ⟨w.heap.size, 0, none⟩) a (l.length + k) (l.length + k) l.length cap rfl rfl w.heap.size 0 (List.replicate (l.length + k) (Value.int .u8 0)) 5 HH.out (u8v l) HM.out (fun hp => ⟨rfl, HP.out hp⟩) hfit (u8v_one l) w.heap.size w hbel (Nat.le_refl _) ?_; intro w4 hg4 hb4)
  have ho := own_copied (Nat.le_refl w.heap.size) (by omega) hg4.out
  clear hg4 hfit hcl hbel
  go_loopw [22] (fun i wr => ∃ j : Nat, j ≤ k ∧ i = .int .i64 j ∧ wr.ownsRow w.heap.size 5 1 (.slice (some ⟨w.heap.size, 0, none⟩) (l.length + k) (l.length + k)) (l.length + k) (u8v (layN l n k j)) ∧ w4.grownBy wr (some w.heap.size)) (fun i _ => k - (intOf i).toNat)
  case atStart => exact ⟨0, by omega, rfl, by rw [layN_zero]; exact ho, World.grownBy.refl _ _⟩
  case round =>
    obtain ⟨j, hj, rfl, hown2, hgr⟩ := hrel
    by_cases hlt : j < k
    · have hcell := hown2.cellAt (l.length + (k - 1 - j)) (by omega)
      rw [u8v_get _ _ (by rw [layN_length _ _ _ _ hj]; omega)] at hcell
      have hfz := hown2.frozenAt (l.length + (k - 1 - j))
      have HV := Lib.hid (rawAt_val n h0 j)
      generalize by8 (layN l n k j) (l.length + (k - 1 - j)) = old at hcell
      have hst := hown2.stored (l.length + (k - 1 - j)) (.int .u8 ((rawAt n j).toNat : Int))
      rw [u8v_set, layN_succ l n k j hlt] at hst
      have HST := Lib.hid hst
      have hj8 : 0 ≤ (k : Int) - 1 - (j : Int) ∧ (k : Int) - 1 - (j : Int) < (k : Int) ∧ (j : Int) ≤ 7 ∧ 0 ≤ (j : Int) := by omega
      clear hst hown2
      go_wp2
      go_roundw
      case rel => exact ⟨j + 1, by omega, by go_num, by rw [HV.out]; exact HST.out.1, by rw [HV.out]; exact grown_trans hgr HST.out.2⟩
      case measure => simp [intOf]; omega
    · obtain rfl : j = k := by omega
      have hcell := hown2.cellAt l.length (by omega)
      rw [layN_all, u8v_get _ _ (by simp [rawB_length]; omega)] at hcell
      have e0 : by8 (l ++ rawB n j) l.length = ((rawAt n (j - 1)).toNat : Int) := by
        rw [by8_byt8]
        have := rawB_get n j 0 (by omega)
        rw [Nat.sub_zero] at this
        rw [← this]
        unfold byt8
        rw [List.getD_eq_getElem?_getD, List.getElem?_append_right (Nat.le_refl _), Nat.sub_self, List.getD_eq_getElem?_getD]
      rw [e0] at hcell
      have hfz := hown2.frozenAt l.length
      have HV := Lib.hid (mark_val n j HK.out HL.out)
      have hbr : Below w.heap.size w wr.drew := (hb4.trans ⟨hgr.os, hgr.tape, hgr.output, hgr.size, fun i hi => hgr.block i (by have := hb4.size; omega) (by simp; omega)⟩).drew
      have hTd := hT.below hbr
      have hst := (World.ownsRow.drew hown2).stored l.length (.int .u8 ((UInt8.ofNat (n.toNat / 256 ^ (j - 1) % 256 + markS j)).toNat : Int))
      rw [u8v_set, layN_all, numK_set l n j (by omega)] at hst
      have HST := Lib.hid hst
      have hx := (rawAt n (j - 1)).toNat_lt
      obtain ⟨cv, hcv⟩ : ∃ cv : Int, cv = ((rawAt n (j - 1)).toNat : Int) := ⟨_, rfl⟩
      rw [← hcv] at hcell HV
      have hcv8 : 0 ≤ cv ∧ cv ≤ 255 := by omega
      clear hst hown2 e0 hcv hx
      go_wp2
      go_region_with (go_at_call 49; refine (mark_c j HK.out ?_).mono ?_; exact hTd; rintro e w' ⟨rfl, rfl⟩)
      all_goals go_wp2
      all_goals go_ret
      all_goals refine ⟨_, rfl, ?_, (hbr.setCell (p := ⟨w.heap.size, l.length, none⟩) (Nat.le_refl _) _)⟩
      all_goals (rw [HV.out, HB.out]; unfold OwnB; rw [List.length_append, numK_length]; exact HST.out.1)
end Go.Proofs.YtjkifdjjcfempaaDoor
end

section
namespace Go.Proofs.YtjkifdjjcfempaaDoor
open Go.RowKit
set_option linter.unusedVariables false

/-- Where the loop stands: j of the number's bytes are appended. -/
def PutAt (l : List UInt8) (n : Int) (k j : Nat) (w : World) (v : Value) (wr : World) : Prop :=
  OwnB wr w.heap.size 5 v (l ++ (numK n k).take j) ∧ Below w.heap.size w wr
theorem PutAt.next {l : List UInt8} {n : Int} {k j : Nat} {w wr w1 : World} {v v' : Value} {o : Obj} (hj : j < k) (h : PutAt l n k j w v wr)
    (ho : OwnB w1 w.heap.size 5 v' (l ++ ((numK n k).take j ++ [byt8 (numK n k) j]))) (hg : (wr.alloc o).grownBy w1 v.ownBlock) : PutAt l n k (j + 1) w v' w1 := by
  refine ⟨?_, (h.2.alloc h.2.size _).grown hg (by have := h.2.size; simp; omega) (fun q hq => (h.1.lt q hq).1)⟩
  have := take_snoc8 (numK n k) j (by rw [numK_length]; exact hj)
  rw [this]
  exact ho

theorem put_c {w : World} {a : Option Addr} {m cap : Nat} {l : List UInt8} (hb : Bys w a m cap l) (hn : m ≤ 1000000) (n : Int) (h0 : -9223372036854775808 ≤ n) (h1 : n ≤ 9223372036854775807) (hT : TabW w) :
    Calls Tryd.prog 35 #[.slice a m cap, .int .i64 n] w (BytesPost (l ++ numB n) w) := by
  by_cases h : n < 0 ∨ 4611686018427387903 < n
  · exact put_none hb hn n h0 h1 h
  · exact put_some hb hn n (by omega) (by omega) hT
end Go.Proofs.YtjkifdjjcfempaaDoor
end

section
namespace Go.Proofs.YtjkifdjjcfempaaDoor
open Go.RowKit
set_option linter.unusedVariables false

theorem text_toList (l : List UInt8) : (text l).toList = l := by unfold text; simp
theorem text_size (l : List UInt8) : (text l).size = l.length := by unfold text; rfl
end Go.Proofs.YtjkifdjjcfempaaDoor
end

section
namespace Go.Proofs.YtjkifdjjcfempaaDoor
open Go Go.RowKit
set_option linter.unusedVariables false

section
variable {P : Program} {ops : Array Oper} {md : Region.Mode}

theorem upon_weak {o : Oper} {a : Act} {K K' : Act → World → Prop} {Q Q' : Exit → Act → World → Prop} (hK : ∀ a w, K a w → K' a w) (hQ : ∀ e a w, Q e a w → e = .normal) (r : Result Next) (h : o.upon P a K Q r) : o.upon P a K' Q' r := by
  cases r with
  | ok n w' =>
    cases n with
    | value v => exact hK _ _ h
    | skip => exact hK _ _ h
    | defer d => exact hK _ _ h
    | enter f args =>
      refine Calls.mono h fun e w'' he => ?_
      cases e with
      | returned v => exact hK _ _ he
      | panicked c => exact absurd (hQ _ _ _ he) (by simp)
      | outgrown => exact absurd (hQ _ _ _ he.choose_spec.choose_spec) (by simp)
    | row r args => exact Rows.mono h fun v w'' he => hK _ _ he
    | _ => exact h
  | halt x w' =>
    cases x with
    | panic v => exact absurd (hQ _ _ _ h) (by simp)
    | _ => exact h
theorem wpOp_of_one {i : Nat} {o : Oper} {a : Act} {w : World} {K : Act → World → Prop} {Q Q' : Exit → Act → World → Prop} (ho : ops[i]? = some o) (hK : ∀ a w, Q' .normal a w → K a w) (hQ : ∀ e a w, Q' e a w → e = .normal)
    (h : wpList P ops Q' [o] a w) : wpOp P ops Q i K a w := by
  unfold wpOp
  simp only [ho]
  unfold wpList at h
  split
  · rename_i hw
    rw [if_pos hw] at h
    rcases h with h | ⟨_, a', w', h⟩
    · left
      exact upon_weak (fun a w h => hK a w h) hQ _ h
    · exact absurd (hQ _ _ _ h) (by simp)
  · rename_i hw
    rw [if_neg hw] at h
    exact hK _ _ h

/-- How one operation ends. -/
def FlowEnd (a : Act) (o : Oper) (R : World → World → Prop) (g : Value → World → Prop) (w : World) (e : Exit) (a' : Act) (w' : World) : Prop :=
  e = .normal ∧ ∃ v, a' = a.put o.dst v ∧ R w w' ∧ g v w'

theorem count_set_lt (l : List Bool) (i : Nat) (h : l[i]? = some false) : (l.set i true).count false < l.count false := by
  induction l generalizing i with
  | nil => simp at h
  | cons b l ih =>
    cases i with
    | zero =>
      have : b = false := by simpa using h
      subst this
      simp
    | succ i =>
      have := ih i (by simpa using h)
      cases b <;> simp <;> omega

theorem wpAny_flow {Q : Exit → Act → World → Prop} (act : (Nat → Value) → Act) (R : World → World → Prop) (G : Nat → Value → World → Prop) (w0 : World)
    (hR : ∀ a b c, R a b → R b c → R a c) (hG : ∀ i v w w', R w0 w → R w w' → G i v w → G i v w')
    (hwf : ∀ i o, ops[i]? = some o → ∀ e ∈ o.after, Region.binds md e = true → e.on < i)
    (hput : ∀ i o xs v, ops[i]? = some o → (act xs).put o.dst v = act (fun j => if j = i then v else xs j))
    (hop : ∀ i o, ops[i]? = some o → ∀ xs w, R w0 w → (∀ e ∈ o.after, Region.binds md e = true → G e.on (xs e.on) w) → wpList P ops (FlowEnd (act xs) o R (G i) w) [o] (act xs) w)
    (hend : ∀ xs w, R w0 w → (∀ i, i < ops.size → G i (xs i) w) → Q .normal (act xs) w) :
    ∀ (f : Nat) (listed : Array Bool) (xs : Nat → Value) (w : World), R w0 w → listed.size = ops.size → listed.toList.count false ≤ f → (∀ i, i < ops.size → listed.getD i true = true → G i (xs i) w) → wpAny P md ops Q f listed (act xs) w := by
  have hnone : ∀ (listed : Array Bool), listed.size = ops.size → Region.ready md ops listed = [] → ∀ i, i < ops.size → listed.getD i true = true := by
    intro listed hs hr i
    induction i using Nat.strongRecOn with
    | _ i ih =>
      intro hi
      cases hl : listed.getD i true with
      | true => rfl
      | false =>
        have : i ∈ Region.ready md ops listed := by
          refine mem_ready.2 ⟨hl, ops[i], by simp [hi], fun e he hb => ?_⟩
          have hlt := hwf i ops[i] (by simp [hi]) e he hb
          have h1 := ih e.on hlt (by omega)
          have h2 : e.on < listed.size := by omega
          simp only [Array.getD_eq_getD_getElem?, Array.getElem?_eq_getElem h2, Option.getD_some] at h1 ⊢
          exact h1
        rw [hr] at this
        cases this
  intro f
  induction f with
  | zero =>
    intro listed xs w hw hs hc hg
    have hall : ∀ i, i < ops.size → listed.getD i true = true := by
      intro i hi
      cases hl : listed.getD i true with
      | true => rfl
      | false =>
        have h2 : i < listed.size := by omega
        have h3 : listed[i] = false := by simpa [Array.getD_eq_getD_getElem?, Array.getElem?_eq_getElem h2] using hl
        have : false ∈ listed.toList := by rw [← h3]; simp
        have := List.count_pos_iff.2 this
        omega
    refine ⟨?_, hend xs w hw fun i hi => hg i hi (hall i hi)⟩
    cases hr : Region.ready md ops listed with
    | nil => rfl
    | cons i r =>
      have hm : i ∈ Region.ready md ops listed := by rw [hr]; simp
      obtain ⟨hun, o, ho, _⟩ := mem_ready.1 hm
      have := hall i (Array.getElem?_eq_some_iff.1 ho).1
      rw [hun] at this
      cases this
  | succ f ih =>
    intro listed xs w hw hs hc hg
    refine ⟨fun hr => hend xs w hw fun i hi => hg i hi (hnone listed hs hr i hi), fun i hi => ?_⟩
    obtain ⟨hun, o, ho, hall⟩ := mem_ready.1 hi
    have hilt := (Array.getElem?_eq_some_iff.1 ho).1
    refine wpOp_of_one ho (fun a' w' h => ?_) (fun e a' w' h => h.1) (hop i o ho xs w hw fun e he hb => ?_)
    · obtain ⟨_, v, rfl, hww, hv⟩ := h
      rw [hput i o xs v ho]
      refine ih _ _ w' (hR _ _ _ hw hww) (by simpa using hs) ?_ fun j hj hl => ?_
      · have h2 : i < listed.size := by omega
        have h3 : listed[i] = false := by simpa [Array.getD_eq_getD_getElem?, Array.getElem?_eq_getElem h2] using hun
        have := count_set_lt listed.toList i (by simp [h2, h3])
        rw [Array.toList_setIfInBounds]
        omega
      · by_cases hji : j = i
        · subst hji
          simpa using hv
        · rw [getD_set_ne true (Ne.symm hji)] at hl
          simp only [if_neg hji]
          exact hG j _ w w' hw hww (hg j hj hl)
    · have h1 := hall e he hb
      have h2 : e.on < ops.size := by have := hwf i o ho e he hb; omega
      refine hg e.on h2 ?_
      have h3 : e.on < listed.size := by omega
      simp only [Array.getD_eq_getD_getElem?, Array.getElem?_eq_getElem h3, Option.getD_some] at h1 ⊢
      exact h1

/-- What is known of the slots: those that the region writes have the values 'xs'. -/
def flowAct (a : Act) (srcs : List (Option Nat)) (xs : Nat → Value) : Act :=
  { a with tmps := (List.zipWith (fun t s => match s with | some i => xs i | none => t) a.tmps.toList srcs).toArray }
theorem zwc {α β γ : Type} {f : α → β → γ} {a : α} {b : β} {l : List α} {m : List β} : List.zipWith f (a :: l) (b :: m) = f a b :: List.zipWith f l m := rfl
theorem zwn {α β γ : Type} {f : α → β → γ} {m : List β} : List.zipWith f [] m = [] := rfl
def flowB (md : Region.Mode) (ops : Array Oper) (srcs : List (Option Nat)) : Bool :=
  (List.range ops.size).all fun i => ((ops[i]?).map (fun o => (o.after.all fun e => !Region.binds md e || decide (e.on < i)) &&
    (List.range srcs.length).all fun s => decide ((srcs.getD s none = some i) ↔ (o.dst = some s)))).getD true
theorem flowB_spec {srcs : List (Option Nat)} (h : flowB md ops srcs = true) {i : Nat} {o : Oper} (ho : ops[i]? = some o) :
    (∀ e ∈ o.after, Region.binds md e = true → e.on < i) ∧ ∀ s, s < srcs.length → (srcs.getD s none = some i ↔ o.dst = some s) := by
  have h1 := List.all_eq_true.1 h i (List.mem_range.2 (Array.getElem?_eq_some_iff.1 ho).1)
  simp only [ho, Option.map_some, Option.getD_some, Bool.and_eq_true] at h1
  refine ⟨fun e he hb => ?_, fun s hs => ?_⟩
  · have h2 := (Array.all_eq_true_iff_forall_mem.1 h1.1) e he
    simpa [hb] using h2
  · have h2 := List.all_eq_true.1 h1.2 s (List.mem_range.2 hs)
    simpa using h2
theorem flowAct_put {a : Act} {srcs : List (Option Nat)} (hB : flowB md ops srcs = true) (hl : a.tmps.size = srcs.length) {i : Nat} {o : Oper} (ho : ops[i]? = some o) (xs : Nat → Value) (v : Value) :
    (flowAct a srcs xs).put o.dst v = flowAct a srcs (fun j => if j = i then v else xs j) := by
  have hs := (flowB_spec hB ho).2
  have key : ∀ (d : Option Tmp), o.dst = d → (match d with | some d => { flowAct a srcs xs with tmps := (flowAct a srcs xs).tmps.setIfInBounds d v } | none => flowAct a srcs xs) = flowAct a srcs (fun j => if j = i then v else xs j) := by
    intro d hd
    cases d with
    | none =>
      simp only [flowAct]
      congr 2
      apply List.ext_getElem?
      intro s
      simp only [List.getElem?_zipWith]
      by_cases hlt : s < srcs.length
      · have h1 := hs s hlt
        rw [hd] at h1
        have h2 : ¬ srcs.getD s none = some i := fun h => by cases h1.1 h
        rw [List.getElem?_eq_getElem hlt]
        rw [List.getD_eq_getElem?_getD, List.getElem?_eq_getElem hlt] at h2
        simp only [Option.getD_some] at h2
        cases a.tmps.toList[s]? with
        | none => rfl
        | some t =>
          cases hx : srcs[s] with
          | none => rfl
          | some j =>
            rw [hx] at h2
            have : j ≠ i := fun h => h2 (by rw [h])
            simp [this]
      · rw [List.getElem?_eq_none (l := srcs) (by omega)]
        cases a.tmps.toList[s]? <;> rfl
    | some d =>
      simp only [flowAct, List.setIfInBounds_toArray]
      congr 2
      apply List.ext_getElem?
      intro s
      by_cases hlt : s < srcs.length
      · have h1 := hs s hlt
        rw [hd] at h1
        have hta : s < a.tmps.toList.length := by simpa [hl] using hlt
        rw [List.getD_eq_getElem?_getD, List.getElem?_eq_getElem hlt] at h1
        simp only [Option.getD_some] at h1
        by_cases hsd : d = s
        · subst hsd
          rw [List.getElem?_set_self (by rw [List.length_zipWith]; exact Nat.lt_min.2 ⟨hta, hlt⟩)]
          rw [List.getElem?_zipWith, List.getElem?_eq_getElem hlt, List.getElem?_eq_getElem hta]
          simp [h1.2 rfl]
        · rw [List.getElem?_set_ne hsd]
          simp only [List.getElem?_zipWith, List.getElem?_eq_getElem hlt, List.getElem?_eq_getElem hta]
          cases hx : srcs[s] with
          | none => rfl
          | some j =>
            rw [hx] at h1
            have : j ≠ i := fun h => hsd (by have := h1.1 (by rw [h]); simpa using this)
            simp [this]
      · rw [List.getElem?_eq_none (by simp; omega), List.getElem?_eq_none (by simp; omega)]
  have := key o.dst rfl
  unfold Act.put
  exact this

def flowNeeds (md : Region.Mode) (Gs : List (Value → World → Prop)) (xs : Nat → Value) (w : World) : List Edge → Prop
  | [] => True
  | e :: l => (Region.binds md e = true → (Gs.getD e.on fun _ _ => True) (xs e.on) w) ∧ flowNeeds md Gs xs w l
def flowOps (P : Program) (md : Region.Mode) (ops : Array Oper) (a : Act) (srcs : List (Option Nat)) (Gs : List (Value → World → Prop)) (w0 : World) : List Oper → Nat → Prop
  | [], _ => True
  | o :: l, k => (∀ xs w, Below w0.heap.size w0 w → flowNeeds md Gs xs w o.after.toList → wpList P ops (FlowEnd (flowAct a srcs xs) o (fun x y => Below x.heap.size x y) (Gs.getD k fun _ _ => True) w) [o] (flowAct a srcs xs) w) ∧ flowOps P md ops a srcs Gs w0 l (k + 1)
def flowAll (xs : Nat → Value) (w : World) : List (Value → World → Prop) → Nat → Prop
  | [], _ => True
  | g :: l, k => g (xs k) w ∧ flowAll xs w l (k + 1)
theorem flowNeeds_of {Gs : List (Value → World → Prop)} {xs : Nat → Value} {w : World} : ∀ (l : List Edge), (∀ e ∈ l, Region.binds md e = true → (Gs.getD e.on fun _ _ => True) (xs e.on) w) → flowNeeds md Gs xs w l
  | [], _ => trivial
  | e :: l, h => ⟨h e (by simp), flowNeeds_of l fun e' he => h e' (by simp [he])⟩
theorem flowOps_get {a : Act} {srcs : List (Option Nat)} {Gs : List (Value → World → Prop)} {w0 : World} : ∀ (l : List Oper) (k : Nat), flowOps P md ops a srcs Gs w0 l k → ∀ i o, l[i]? = some o →
    ∀ xs w, Below w0.heap.size w0 w → flowNeeds md Gs xs w o.after.toList → wpList P ops (FlowEnd (flowAct a srcs xs) o (fun x y => Below x.heap.size x y) (Gs.getD (k + i) fun _ _ => True) w) [o] (flowAct a srcs xs) w
  | [], _, _, i, o, h => by simp at h
  | o' :: l, k, hh, 0, o, h => by
    obtain rfl : o' = o := by simpa using h
    exact hh.1
  | o' :: l, k, hh, i + 1, o, h => by
    have := flowOps_get l (k + 1) hh.2 i o (by simpa using h)
    rwa [show k + 1 + i = k + (i + 1) by omega] at this
theorem flowAll_of {xs : Nat → Value} {w : World} : ∀ (l : List (Value → World → Prop)) (k : Nat), (∀ i, i < l.length → (l.getD i fun _ _ => True) (xs (k + i)) w) → flowAll xs w l k
  | [], _, _ => trivial
  | g :: l, k, h => ⟨by simpa using h 0 (by simp), flowAll_of l (k + 1) fun i hi => by
      have := h (i + 1) (by simpa using hi)
      rw [show k + 1 + i = k + (i + 1) by omega]
      simpa using this⟩
theorem wp_region_flow {id : Nat} {Q : Exit → Act → World → Prop} {l : List Oper} {a : Act} {w : World} (srcs : List (Option Nat)) (xs0 : Nat → Value) (Gs : List (Value → World → Prop)) (hm : P.follows .mixedOrders = true)
    (hB : flowB .any l.toArray srcs = true) (hl : a.tmps.size = srcs.length) (h0 : flowAct a srcs xs0 = a) (hn : Gs.length = l.length)
    (hG : ∀ g ∈ Gs, ∀ v x y, Below w.heap.size w x → Below x.heap.size x y → g v x → g v y)
    (hops : flowOps P .any l.toArray a srcs Gs w l 0)
    (hend : ∀ xs w', Below w.heap.size w w' → flowAll xs w' Gs 0 → Q .normal (flowAct a srcs xs) w') : (Code.region id l.toArray true).wp P Q a w := by
  refine wp_region_any hm ?_
  have := wpAny_flow (P := P) (ops := l.toArray) (md := .any) (Q := Q) (flowAct a srcs) (fun x y => Below x.heap.size x y) (fun i => Gs.getD i fun _ _ => True) w
    (fun a b c h1 h2 => h1.trans (h2.mono h1.size)) (fun i v x y h1 h2 h3 => ?_) (fun i o ho => (flowB_spec hB ho).1) (fun i o xs v ho => flowAct_put hB hl ho xs v)
    (fun i o ho xs x hx hn => by
      have := flowOps_get l 0 hops i o (by simpa using ho) xs x hx (flowNeeds_of _ fun e he hb => hn e (by simpa using he) hb)
      rwa [Nat.zero_add] at this)
    (fun xs x hx hg => hend xs x hx (flowAll_of Gs 0 fun i hi => by rw [Nat.zero_add]; exact hg i (by simpa using (by omega : i < l.length))))
    l.toArray.size (Array.replicate l.toArray.size false) xs0 { w with drawn := w.drawn + 1 } ⟨rfl, rfl, rfl, Nat.le_refl _, fun _ _ => rfl⟩ (by simp) (by simp) (fun i hi hl => by
      exfalso
      rw [Array.getD_eq_getD_getElem?, Array.getElem?_eq_getElem (by simpa using hi)] at hl
      simp at hl)
  · rwa [h0] at this
  · by_cases hi : i < Gs.length
    · have hm := List.getElem_mem hi
      rw [List.getD_eq_getElem?_getD, List.getElem?_eq_getElem hi] at h3 ⊢
      exact hG _ hm v x y h1 h2 h3
    · rw [List.getD_eq_getElem?_getD, List.getElem?_eq_none (by omega)]
      trivial
end
end Go.Proofs.YtjkifdjjcfempaaDoor
end

section
namespace Go.Proofs.YtjkifdjjcfempaaDoor
open Go Go.RowKit
set_option linter.unusedVariables false

section
variable {P : Program} {ops : Array Oper} {md : Region.Mode}

theorem count_set_one (l : List Bool) (i : Nat) (h : l[i]? = some false) : (l.set i true).count false + 1 = l.count false := by
  induction l generalizing i with
  | nil => simp at h
  | cons b l ih =>
    cases i with
    | zero =>
      have : b = false := by simpa using h
      subst this
      simp
    | succ i =>
      have := ih i (by simpa using h)
      cases b <;> simp <;> omega

def headDone (n m : Nat) : Array Bool := Array.replicate n true ++ Array.replicate m false
theorem headDone_of {n : Nat} {listed : Array Bool} (hn : n < ops.size) (inv : HeadInv md ops n listed) (hall : ∀ i, i < n → listed.getD i true = true) : listed = headDone n (ops.size - n) := by
  have hs := inv.size
  apply Array.ext
  · simp [headDone]; omega
  · intro i h1 h2
    by_cases hi : i < n
    · have := hall i hi
      simp only [Array.getD_eq_getD_getElem?, Array.getElem?_eq_getElem h1, Option.getD_some] at this
      rw [this]
      simp [headDone, hi]
    · have := inv.tail i (by omega) (by omega)
      simp only [Array.getD_eq_getD_getElem?, Array.getElem?_eq_getElem h1, Option.getD_some] at this
      rw [this]
      simp [headDone, Array.getElem_append, hi]

/-- How one operation of the head ends; those of 'Fr' leave what none of the others of 'Fr' has. -/
def FlowEndF (a : Act) (o : Oper) (R : World → World → Prop) (G : Nat → Value → World → Prop) (Fr : Nat → Prop) (i : Nat) (w : World) (e : Exit) (a' : Act) (w' : World) : Prop :=
  e = .normal ∧ ∃ v, a' = a.put o.dst v ∧ R w w' ∧ G i v w' ∧ (Fr i → ∀ j, Fr j → ∀ u, G j u w → u ≠ v)

theorem wpAny_flow_tail {Q : Exit → Act → World → Prop} (act : (Nat → Value) → Act) (R : World → World → Prop) (G : Nat → Value → World → Prop) (Fr : Nat → Prop) (w0 : World) (n : Nat) (l : List Oper) (hl : l.toArray = ops)
    (hn : n < ops.size) (hs : Region.sinkB md ops n = true) (hc : Region.chainB md ops n = true) (hseq : Region.seqB md ops (ops.size - n) n (headDone n (ops.size - n)) = true)
    (hR : ∀ a b c, R a b → R b c → R a c) (hG : ∀ i v w w', R w0 w → R w w' → G i v w → G i v w')
    (hwf : ∀ i o, ops[i]? = some o → i < n → ∀ e ∈ o.after, Region.binds md e = true → e.on < i)
    (hput : ∀ i o xs v, ops[i]? = some o → i < n → (act xs).put o.dst v = act (fun j => if j = i then v else xs j))
    (hop : ∀ i o, ops[i]? = some o → i < n → ∀ xs w, R w0 w → (∀ e ∈ o.after, Region.binds md e = true → G e.on (xs e.on) w) → wpList P ops (FlowEndF (act xs) o R G Fr i w) [o] (act xs) w)
    (hend : ∀ xs w, R w0 w → (∀ i, i < n → G i (xs i) w) → (∀ i j, i < n → j < n → i ≠ j → Fr i → Fr j → xs i ≠ xs j) → wpList P ops Q (l.drop n) (act xs) w) :
    ∀ (f : Nat) (listed : Array Bool) (xs : Nat → Value) (w : World), R w0 w → HeadInv md ops n listed → listed.toList.count false = f → (∀ i, i < n → listed.getD i true = true → G i (xs i) w) →
      (∀ i j, i < n → j < n → i ≠ j → Fr i → Fr j → listed.getD i true = true → listed.getD j true = true → xs i ≠ xs j) → wpAny P md ops Q f listed (act xs) w := by
  intro f
  induction f with
  | zero =>
    intro listed xs w hw inv hcn hg hfr
    exfalso
    have hsz := inv.size
    have h1 := inv.tail n (Nat.le_refl _) hn
    have h2 : n < listed.size := by omega
    simp only [Array.getD_eq_getD_getElem?, Array.getElem?_eq_getElem h2, Option.getD_some] at h1
    have : false ∈ listed.toList := by rw [← h1]; simp
    have := List.count_pos_iff.2 this
    omega
  | succ f ih =>
    intro listed xs w hw inv hcn hg hfr
    have hsz := inv.size
    by_cases hall : ∀ i, i < n → listed.getD i true = true
    · have hd := headDone_of hn inv hall
      have hcount : (headDone n (ops.size - n)).toList.count false = ops.size - n := by
        simp [headDone, List.count_replicate]
      rw [hd, hcount] at hcn
      have hlen : (l.drop n).length = ops.size - n := by rw [← hl]; simp
      have := wpAny_of_seq (P := P) (md := md) (ops := ops) (Q' := Q) (l.drop n) n (headDone n (ops.size - n)) (act xs) w (fun j => by rw [← hl]; simp [List.getElem?_drop]) (by rw [hlen]; exact hseq) (hend xs w hw (fun i hi => hg i hi (hall i hi)) fun i j hi hj hne fi fj => hfr i j hi hj hne fi fj (hall i hi) (hall j hj))
      rw [hlen] at this
      rw [hd]
      rw [hcn] at this ⊢
      exact this
    · have hex : ∃ i, i < n ∧ listed.getD i true = false := by
        apply Classical.byContradiction
        intro hne
        apply hall
        intro i hi
        cases hx : listed.getD i true with
        | true => rfl
        | false => exact absurd ⟨i, hi, hx⟩ hne
      refine ⟨fun hr => ?_, fun i hi => ?_⟩
      · exfalso
        apply hall
        intro i
        induction i using Nat.strongRecOn with
        | _ i ihi =>
          intro hi
          cases hlx : listed.getD i true with
          | true => rfl
          | false =>
            have hio : i < ops.size := by omega
            have : i ∈ Region.ready md ops listed := by
              refine mem_ready.2 ⟨hlx, ops[i], by simp [hio], fun e he hb => ?_⟩
              have hlt := hwf i ops[i] (by simp [hio]) hi e he hb
              have h1 := ihi e.on hlt (by omega)
              have h2 : e.on < listed.size := by omega
              simp only [Array.getD_eq_getD_getElem?, Array.getElem?_eq_getElem h2, Option.getD_some] at h1 ⊢
              exact h1
            rw [hr] at this
            cases this
      · obtain ⟨i0, hi0, hx0⟩ := hex
        have hin : i < n := Nat.lt_of_not_le fun h => tail_waits hs hc hn inv (n - i0) i0 rfl hi0 hx0 i h hi
        obtain ⟨hun, o, ho, hdep⟩ := mem_ready.1 hi
        have hilt := (Array.getElem?_eq_some_iff.1 ho).1
        refine wpOp_of_one ho (fun a' w' h => ?_) (fun e a' w' h => h.1) (hop i o ho hin xs w hw fun e he hb => ?_)
        · obtain ⟨_, v, rfl, hww, hv, hfv⟩ := h
          rw [hput i o xs v ho hin]
          refine ih _ _ w' (hR _ _ _ hw hww) (inv.set hi hin) ?_ (fun j hj hlj => ?_) fun j k hj hk hne fj fk lj lk => ?_
          · have h2 : i < listed.size := by omega
            have h3 : listed[i] = false := by simpa [Array.getD_eq_getD_getElem?, Array.getElem?_eq_getElem h2] using hun
            have := count_set_one listed.toList i (by simp [h2, h3])
            rw [Array.toList_setIfInBounds]
            omega
          · by_cases hji : j = i
            · subst hji
              simpa using hv
            · rw [getD_set_ne true (Ne.symm hji)] at hlj
              simp only [if_neg hji]
              exact hG j _ w w' hw hww (hg j hj hlj)
          · by_cases hji : j = i
            · subst hji
              rw [getD_set_ne true hne] at lk
              simp only [if_neg (Ne.symm hne)]
              exact (hfv fj k fk _ (hg k hk lk)).symm
            · rw [getD_set_ne true (Ne.symm hji)] at lj
              by_cases hki : k = i
              · subst hki
                simp only [if_neg hne]
                exact hfv fk j fj _ (hg j hj lj)
              · rw [getD_set_ne true (Ne.symm hki)] at lk
                simp only [if_neg hji, if_neg hki]
                exact hfr j k hj hk hne fj fk lj lk
        · have h1 := hdep e he hb
          have hlt := hwf i o ho hin e he hb
          refine hg e.on (by omega) ?_
          have h3 : e.on < listed.size := by omega
          simp only [Array.getD_eq_getD_getElem?, Array.getElem?_eq_getElem h3, Option.getD_some] at h1 ⊢
          exact h1

def flowTB (md : Region.Mode) (ops : Array Oper) (n : Nat) (srcs : List (Option Nat)) : Bool :=
  (List.range n).all fun i => ((ops[i]?).map (fun o => (o.after.all fun e => !Region.binds md e || decide (e.on < i)) &&
    (List.range srcs.length).all fun s => decide ((srcs.getD s none = some i) ↔ (o.dst = some s)))).getD true
theorem flowTB_take {l : List Oper} {n : Nat} {srcs : List (Option Nat)} (h : flowTB md l.toArray n srcs = true) : flowB md (l.take n).toArray srcs = true := by
  refine List.all_eq_true.2 fun i hi => ?_
  have hlt : i < (l.take n).length := by simpa using List.mem_range.1 hi
  have h1 := List.all_eq_true.1 h i (List.mem_range.2 (by simp at hlt; omega))
  have e : (l.take n).toArray[i]? = l.toArray[i]? := by simp [List.getElem?_take]; intro hh; simp at hlt; omega
  rw [e]
  exact h1

def flowOpsF (P : Program) (md : Region.Mode) (ops : Array Oper) (a : Act) (srcs : List (Option Nat)) (Gs : List (Value → World → Prop)) (Fr : Nat → Prop) (w0 : World) : List Oper → Nat → Prop
  | [], _ => True
  | o :: l, k => (∀ xs w, Below w0.heap.size w0 w → flowNeeds md Gs xs w o.after.toList → wpList P ops (FlowEndF (flowAct a srcs xs) o (fun x y => Below x.heap.size x y) (fun i => Gs.getD i fun _ _ => True) Fr k w) [o] (flowAct a srcs xs) w) ∧ flowOpsF P md ops a srcs Gs Fr w0 l (k + 1)
theorem flowOpsF_get {a : Act} {srcs : List (Option Nat)} {Gs : List (Value → World → Prop)} {Fr : Nat → Prop} {w0 : World} : ∀ (l : List Oper) (k : Nat), flowOpsF P md ops a srcs Gs Fr w0 l k → ∀ i o, l[i]? = some o →
    ∀ xs w, Below w0.heap.size w0 w → flowNeeds md Gs xs w o.after.toList → wpList P ops (FlowEndF (flowAct a srcs xs) o (fun x y => Below x.heap.size x y) (fun i => Gs.getD i fun _ _ => True) Fr (k + i) w) [o] (flowAct a srcs xs) w
  | [], _, _, i, o, h => by simp at h
  | o' :: l, k, hh, 0, o, h => by
    obtain rfl : o' = o := by simpa using h
    exact hh.1
  | o' :: l, k, hh, i + 1, o, h => by
    have := flowOpsF_get l (k + 1) hh.2 i o (by simpa using h)
    rwa [show k + 1 + i = k + (i + 1) by omega] at this

theorem wp_region_flow_tail {id : Nat} {Q : Exit → Act → World → Prop} {l : List Oper} {a : Act} {w : World} (n : Nat) (srcs : List (Option Nat)) (xs0 : Nat → Value) (Gs : List (Value → World → Prop)) (Fr : Nat → Prop) (hm : P.follows .mixedOrders = true)
    (hB : flowTB .any l.toArray n srcs = true) (hT : (decide (n < l.toArray.size) && Region.sinkB .any l.toArray n && Region.chainB .any l.toArray n && Region.seqB .any l.toArray (l.toArray.size - n) n (headDone n (l.toArray.size - n))) = true)
    (hl : a.tmps.size = srcs.length) (h0 : flowAct a srcs xs0 = a) (hn : Gs.length = n)
    (hG : ∀ g ∈ Gs, ∀ v x y, Below w.heap.size w x → Below x.heap.size x y → g v x → g v y)
    (hops : flowOpsF P .any l.toArray a srcs Gs Fr w (l.take n) 0)
    (hend : ∀ xs w', Below w.heap.size w w' → flowAll xs w' Gs 0 → (∀ i j, i < n → j < n → i ≠ j → Fr i → Fr j → xs i ≠ xs j) → wpList P l.toArray Q (l.drop n) (flowAct a srcs xs) w') : (Code.region id l.toArray true).wp P Q a w := by
  simp only [Bool.and_eq_true, decide_eq_true_eq] at hT
  obtain ⟨⟨⟨t1, t2⟩, t3⟩, t4⟩ := hT
  have hB' := flowTB_take hB
  have tk : ∀ i o, l.toArray[i]? = some o → i < n → (l.take n).toArray[i]? = some o := fun i o ho hi => by
    simp only [List.getElem?_toArray] at ho ⊢
    rw [List.getElem?_take, if_pos hi]
    exact ho
  refine wp_region_any hm ?_
  have := wpAny_flow_tail (P := P) (ops := l.toArray) (md := .any) (Q := Q) (flowAct a srcs) (fun x y => Below x.heap.size x y) (fun i => Gs.getD i fun _ _ => True) Fr w n l rfl t1 t2 t3 t4
    (fun a b c h1 h2 => h1.trans (h2.mono h1.size)) (fun i v x y h1 h2 h3 => ?_) (fun i o ho hi => (flowB_spec hB' (tk i o ho hi)).1) (fun i o xs v ho hi => flowAct_put hB' hl (tk i o ho hi) xs v)
    (fun i o ho hi xs x hx hn => by
      have := flowOpsF_get (l.take n) 0 hops i o (by simpa using tk i o ho hi) xs x hx (flowNeeds_of _ fun e he hb => hn e (by simpa using he) hb)
      rwa [Nat.zero_add] at this)
    (fun xs x hx hg hf => hend xs x hx (flowAll_of Gs 0 fun i hi => by rw [Nat.zero_add]; exact hg i (by omega)) hf)
    l.toArray.size (Array.replicate l.toArray.size false) xs0 { w with drawn := w.drawn + 1 } ⟨rfl, rfl, rfl, Nat.le_refl _, fun _ _ => rfl⟩
    ⟨by simp, fun j oj hj hl => (by rw [getD_replicate_false] at hl; cases hl), fun t _ ht => by
      rw [Array.getD_eq_getD_getElem?, Array.getElem?_eq_getElem (by simpa using ht)]; simp⟩ (by simp) (fun i hi hl => by
      exfalso
      rw [Array.getD_eq_getD_getElem?, Array.getElem?_eq_getElem (by simp at t1 ⊢; omega)] at hl
      simp at hl) (fun i j hi hj hne fi fj li lj => by
      exfalso
      rw [Array.getD_eq_getD_getElem?, Array.getElem?_eq_getElem (by simp at t1 ⊢; omega)] at li
      simp at li)
  · rwa [h0] at this
  · by_cases hi : i < Gs.length
    · have hm := List.getElem_mem hi
      rw [List.getD_eq_getElem?_getD, List.getElem?_eq_getElem hi] at h3 ⊢
      exact hG _ hm v x y h1 h2 h3
    · rw [List.getD_eq_getElem?_getD, List.getElem?_eq_none (by omega)]
      trivial
end
end Go.Proofs.YtjkifdjjcfempaaDoor
end

section
namespace Go.Proofs.YtjkifdjjcfempaaDoor
open Go.RowKit Go Go.Sort
set_option linter.unusedVariables false
set_option maxRecDepth 20000

def sgood (n s : Int) : Bool := decide ((n = 0 ∧ s = 0) ∨ (1 ≤ n ∧ n ≤ 281474976710656 ∧ (s = 1 ∨ s = 2)))
def scode (n s : Int) : Int := if n = 0 then 0 else 2 * n + s - 1
/-- Bytes with a stamp behind them. -/
def sputS (l : List UInt8) (n s : Int) : List UInt8 := if sgood n s = true then l ++ numB (scode n s) else l
def vgood (a b : Int) : Bool := decide (0 ≤ a) && (decide (a ≤ 1099511627776) && (decide (0 ≤ b) && decide (b ≤ 1099511627776)))
def vcov (a b c d : Int) : Bool := decide (c ≤ a) && decide (d ≤ b)
/-- The greatest counts of a list. -/
def joinS (l : List (Int × Int)) : Int × Int := l.foldl (fun r p => (Max.max r.1 p.1, Max.max r.2 p.2)) (0, 0)
def vputS (l : List UInt8) (a b : Int) : List UInt8 := if vgood a b = true then l ++ numB a ++ numB b else l
theorem vgood_bd {a b : Int} (h : vgood a b = true) : 0 ≤ a ∧ a ≤ 1099511627776 ∧ 0 ≤ b ∧ b ≤ 1099511627776 := by simpa [vgood] using h
end Go.Proofs.YtjkifdjjcfempaaDoor
end

section
namespace Go.Proofs.YtjkifdjjcfempaaDoor
open Go.RowKit Go Go.Sort Go.Deep
set_option linter.unusedVariables false
set_option maxRecDepth 20000

def IsI64 (n : Int) : Prop := -9223372036854775808 ≤ n ∧ n ≤ 9223372036854775807
theorem srun_part_int {W : World} (xs : Array Value) (k : Nat) {v : Value} (hv : xs[k]? = some v) : (part 3 xs k).run Tryd.prog W = .ok v W := by
  have hi : (Tryd.prog.info? 3).map (fun i => (i.zero, i.size, i.bytes)) = some (some (.int .i64 0), 1, 8) := by kernel_rfl
  obtain ⟨i0, hi, hz0, hz1, hz2⟩ := info_parts hi
  have hag : (isAgg 3).run Tryd.prog W = .ok false W := by
    unfold isAgg
    rw [Sem.run_bind, run_underlying Tryd.underlying3 W]
    rfl
  simp [part, hag, sizeOf, typeInfo, hi, hz1, hv, go_sem]
theorem stamp_eqIn (x y x' y' : Int) (W : World) : (Op.equalIn 10000 35 (.agg #[.int .i64 x, .int .i64 y]) (.agg #[.int .i64 x', .int .i64 y'])).run Tryd.prog W = .ok ((x == x') && (y == y')) W := by
  rw [run_equalIn_struct W 9999 _ _ _ Tryd.underlying35 (by kernel_rfl)]
  obtain ⟨f0, f1, hf, h0, h1, t0, t1, n0, n1⟩ : ∃ f0 f1, (Tryd.prog.fieldsOf 35).toList = [f0, f1] ∧ f0.offset = 0 ∧ f1.offset = 1 ∧ f0.type = 3 ∧ f1.type = 3 ∧ f0.name ≠ "_" ∧ f1.name ≠ "_" := ⟨_, _, rfl, rfl, rfl, rfl, rfl, by decide, by decide⟩
  rw [hf]
  have p0 := srun_part_int (W := W) #[.int .i64 x, .int .i64 y] 0 rfl
  have p1 := srun_part_int (W := W) #[.int .i64 x, .int .i64 y] 1 rfl
  have q0 := srun_part_int (W := W) #[.int .i64 x', .int .i64 y'] 0 rfl
  have q1 := srun_part_int (W := W) #[.int .i64 x', .int .i64 y'] 1 rfl
  cases e0 : (x == x') <;> cases e1 : (y == y') <;> simp [Op.eqFields, n0, n1, h0, h1, t0, t1, p0, q0, p1, q1, e0, e1, run_equalIn_int W 9998 3 .i64 .i64 _ _ Tryd.underlying3, Sem.run_bind, Result.andThen_ok]
theorem stamp_eql (x y : Int) (W : World) : (binOp .eql 35 (.agg #[.int .i64 x, .int .i64 y]) (.agg #[.int .i64 x, .int .i64 y])).run Tryd.prog W = .ok (.bool true) W := by
  rw [run_eql_struct, stamp_eqIn]; simp
theorem stamp_eqg (op : BinOp) (x y : Operand) (xs ys : Array Value) (W : World) : (eqGuard op 35 x y (.agg xs) (.agg ys)).run Tryd.prog W = .ok () W := run_eqGuard_agg W op _ x y xs ys (by kernel_rfl)
theorem stamp_eqb (x y x' y' : Int) (b : Bool) (h : ((x == x') && (y == y')) = b) (W : World) : (binOp .eql 35 (.agg #[.int .i64 x, .int .i64 y]) (.agg #[.int .i64 x', .int .i64 y'])).run Tryd.prog W = .ok (.bool b) W := by
  rw [run_eql_struct, stamp_eqIn, h]; rfl
set_option maxHeartbeats 800000 in
theorem issite_c (s : Int) (w : World) : Calls Tryd.prog 46 #[.int .i64 s] w (fun e w' => e = .returned (.bool (decide (s = 1 ∨ s = 2))) ∧ w' = w) := by
  by_cases h1 : s = 1
  · subst h1
    go_enter Tryd.func46, Tryd.ntmps46
    go_wp2
    go_ret
    exact ⟨rfl, rfl⟩
  · have e1 : (s == 1) = false := by simpa using h1
    by_cases h2 : s = 2
    · subst h2
      go_enter Tryd.func46, Tryd.ntmps46
      go_wp2
      go_ret
      exact ⟨rfl, rfl⟩
    · have e2 : (s == 2) = false := by simpa using h2
      have hd : decide (s = 1 ∨ s = 2) = false := by simp [h1, h2]
      rw [hd]
      clear h1 h2 hd
      go_enter Tryd.func46, Tryd.ntmps46
      go_wp2
      go_ret
      exact ⟨rfl, rfl⟩
set_option maxHeartbeats 1600000 in
theorem sgood_c (n s : Int) (w : World) : Calls Tryd.prog 32 #[.agg #[.int .i64 n, .int .i64 s]] w (Tells (.bool (sgood n s)) w) := by
  have hp := Pair.new w 35 n s
  have hb := alloc_below w (.cells #[.int .i64 n, .int .i64 s] 35)
  have h0 := hp.c0
  have h1 := hp.c1
  have HB := Lib.hid hb
  have HS := Lib.hid (issite_c s)
  have hEG := stamp_eqg
  clear hp hb
  by_cases z : n = 0 ∧ s = 0
  · obtain ⟨rfl, rfl⟩ := z
    have hEQ := stamp_eql
    rw [show sgood 0 0 = true by decide]
    go_enter Tryd.func32, Tryd.ntmps32
    go_wp2
    go_ret
    exact ⟨rfl, HB.out⟩
  · have hEQ := stamp_eqb n s 0 0 false (by rw [Bool.eq_false_iff]; simp; intro h1 h2; exact z ⟨h1, h2⟩)
    by_cases hs : s = 1 ∨ s = 2
    · rw [decide_eq_true hs] at HS
      by_cases n1 : 1 ≤ n
      · by_cases n2 : n ≤ 281474976710656
        · have hv : sgood n s = true := by unfold sgood; simp; omega
          rw [hv]
          clear hv z hs
          go_enter Tryd.func32, Tryd.ntmps32
          go_wp2_with (go_at_call 46; (with_reducible refine (HS.out _).mono ?_); rintro e w1 ⟨rfl, rfl⟩)
          go_ret
          exact ⟨rfl, HB.out⟩
        · have hv : sgood n s = false := by unfold sgood; simp; omega
          rw [hv]
          clear hv z hs
          go_enter Tryd.func32, Tryd.ntmps32
          go_wp2_with (go_at_call 46; (with_reducible refine (HS.out _).mono ?_); rintro e w1 ⟨rfl, rfl⟩)
          go_ret
          exact ⟨by simp; omega, HB.out⟩
      · have hv : sgood n s = false := by unfold sgood; simp; omega
        rw [hv]
        clear hv z hs
        go_enter Tryd.func32, Tryd.ntmps32
        go_wp2_with (go_at_call 46; (with_reducible refine (HS.out _).mono ?_); rintro e w1 ⟨rfl, rfl⟩)
        go_ret
        exact ⟨rfl, HB.out⟩
    · rw [decide_eq_false hs] at HS
      have hv : sgood n s = false := by unfold sgood; simp; omega
      rw [hv]
      clear hv z hs
      go_enter Tryd.func32, Tryd.ntmps32
      go_wp2_with (go_at_call 46; (with_reducible refine (HS.out _).mono ?_); rintro e w1 ⟨rfl, rfl⟩)
      go_ret
      exact ⟨rfl, HB.out⟩
def scodeP (n s : Int) : Int := if sgood n s = true then scode n s else -1
set_option maxHeartbeats 1600000 in
theorem scode_c (n s : Int) (w : World) : Calls Tryd.prog 50 #[.agg #[.int .i64 n, .int .i64 s]] w (Tells (.int .i64 (scodeP n s)) w) := by
  have hp := Pair.new w 35 n s
  have hb := alloc_below w (.cells #[.int .i64 n, .int .i64 s] 35)
  have hEG := stamp_eqg
  have HV := Lib.hid (show scodeP n s = if sgood n s = true then scode n s else -1 from rfl)
  have G := sgood_c n s
  have HP := Lib.hid hp
  have HB := Lib.hid hb
  have p0 := hp.c0
  have p1 := hp.c1
  clear hp hb
  cases hg : sgood n s with
  | false =>
    rw [hg] at G
    have HG := Lib.hid G
    have hv : scodeP n s = -1 := by rw [HV.out, if_neg (by simp [hg])]
    rw [hv]
    clear hv G hg
    go_enter Tryd.func50, Tryd.ntmps50
    go_wp2_with (go_at_call 32; (with_reducible refine (HG.out _).mono ?_); rintro e w1 ⟨rfl, hb1⟩)
    go_ret
    exact ⟨rfl, HB.out.trans (hb1.mono HB.out.size)⟩
  | true =>
    rw [hg] at G
    have HG := Lib.hid G
    have hgd : (n = 0 ∧ s = 0) ∨ (1 ≤ n ∧ n ≤ 281474976710656 ∧ (s = 1 ∨ s = 2)) := by simpa [sgood] using hg
    have hv : scodeP n s = scode n s := by rw [HV.out, if_pos (by simp [hg])]
    rw [hv]
    rcases hgd with ⟨rfl, rfl⟩ | ⟨h1, h2, h3⟩
    · have hEQ := stamp_eql
      rw [show scode 0 0 = 0 by decide]
      clear hv G hg
      go_enter Tryd.func50, Tryd.ntmps50
      go_wp2_with (go_at_call 32; (with_reducible refine (HG.out _).mono ?_); rintro e w1 ⟨rfl, hb1⟩; have q0 := (HP.out.kept hb1).c0; have q1 := (HP.out.kept hb1).c1)
      go_ret
      exact ⟨rfl, HB.out.trans (hb1.mono HB.out.size)⟩
    · have hEQ := stamp_eqb n s 0 0 false (by rw [Bool.eq_false_iff]; simp; omega)
      have hc : scode n s = 2 * n + s - 1 := by unfold scode; rw [if_neg (by omega)]
      rw [hc]
      have hs1 : 1 ≤ s ∧ s ≤ 2 := by omega
      clear hv G hg hc h3
      go_enter Tryd.func50, Tryd.ntmps50
      go_wp2_with (go_at_call 32; (with_reducible refine (HG.out _).mono ?_); rintro e w1 ⟨rfl, hb1⟩; have q0 := (HP.out.kept hb1).c0; have q1 := (HP.out.kept hb1).c1)
      go_ret
      exact ⟨rfl, HB.out.trans (hb1.mono HB.out.size)⟩
set_option maxHeartbeats 1600000 in
theorem sput_c {w : World} {a : Option Addr} {m cap : Nat} {l : List UInt8} (hl : Bys w a m cap l) (hn : m ≤ 1000000) (hT : TabW w) (n s : Int) :
    Calls Tryd.prog 37 #[.slice a m cap, .agg #[.int .i64 n, .int .i64 s]] w (BytesPost (sputS l n s) w) := by
  have hp := Pair.new w 35 n s
  have hb := alloc_below w (.cells #[.int .i64 n, .int .i64 s] 35)
  have HL := Lib.hid (hl.below hb)
  have HTb := Lib.hid (hT.below hb)
  have HP := Lib.hid hp
  have HB := Lib.hid hb
  have C := scode_c n s
  have l0 := HP.out.c0
  have l1 := HP.out.c1
  have hv : sputS l n s = l ++ numB (scodeP n s) := by
    unfold sputS scodeP
    cases hg : sgood n s with
    | false => simp; rw [numB_none (.inl (by decide))]
    | true => simp
  have hbd : -9223372036854775808 ≤ scodeP n s ∧ scodeP n s ≤ 9223372036854775807 := by
    unfold scodeP
    cases hg : sgood n s with
    | false => simp
    | true =>
      have hgd : (n = 0 ∧ s = 0) ∨ (1 ≤ n ∧ n ≤ 281474976710656 ∧ (s = 1 ∨ s = 2)) := by simpa [sgood] using hg
      simp; unfold scode; split <;> omega
  rw [hv]
  obtain ⟨c, hc⟩ : ∃ c, scodeP n s = c := ⟨_, rfl⟩
  rw [hc] at C hbd ⊢
  have HC := Lib.hid C
  obtain ⟨hc0, hc1⟩ := hbd
  have HR := Lib.hid (fun (W : World) (h : Bys W a m cap l) (hT : TabW W) => put_c h hn c hc0 hc1 hT)
  clear hp hb hl hT C hv hc
  go_enter Tryd.func37, Tryd.ntmps37
  go_upto_region 1 with (fail)
  generalize w.alloc (.cells #[.int .i64 n, .int .i64 s] 35) = W1 at *
  go_wp2_with (first
    | (go_at_call 50; (with_reducible refine (HC.out _).mono ?_); rintro e w2 ⟨rfl, hb2⟩)
    | (go_at_call 35; (with_reducible refine (HR.out _ (HL.out.below hb2) (HTb.out.below hb2)).mono ?_); rintro e w3 ⟨v, rfl, ho, hb3⟩))
  go_ret
  have h2 := HB.out.trans (hb2.mono HB.out.size)
  exact ⟨_, rfl, ho.mono h2.size, h2.trans (hb3.mono h2.size)⟩
/-- One block is other than it was. -/
structure Wrote (g : Nat) (cs : Array Value) (t : TypeId) (w w' : World) : Prop where
  os : w'.os = w.os
  tape : w'.tape = w.tape
  output : w'.output = w.output
  size : w.heap.size ≤ w'.heap.size
  cell : w'.heap[g]? = some (.cells cs t (0, 0))
  rest : ∀ k, k < w.heap.size → k ≠ g → w'.heap[k]? = w.heap[k]?
theorem Wrote.below {g : Nat} {cs : Array Value} {t : TypeId} {w w' : World} (h : Wrote g cs t w w') {B : Nat} (hB : B ≤ g) (hg : g ≤ w.heap.size) : Below B w w' :=
  ⟨h.os, h.tape, h.output, h.size, fun k hk => h.rest k (by omega) (by omega)⟩
theorem Wrote.of_set {g : Nat} {t : TypeId} {w w1 : World} {cs : Array Value} (hb : Below w.heap.size w w1) (hc : w1.heap[g]? = some (.cells cs t (0, 0))) (i : Nat) (v : Value) :
    Wrote g (cs.setIfInBounds i v) t w (w1.setCell ⟨g, i, none⟩ v) := by
  refine ⟨hb.os, hb.tape, hb.output, ?_, heap_setCell_same w1 g i _ t _ hc, fun k hk hkg => ?_⟩
  · exact Nat.le_trans hb.size (Nat.le_of_eq (World.size_setCell _ _ _).symm)
  · rw [heap_setCell_other w1 _ k _ hkg]; exact hb.block k hk
theorem Wrote.trans {g : Nat} {t : TypeId} {w w1 w2 : World} {cs cs' : Array Value} (h : Wrote g cs t w w1) (k : Wrote g cs' t w1 w2) : Wrote g cs' t w w2 :=
  ⟨k.os.trans h.os, k.tape.trans h.tape, k.output.trans h.output, Nat.le_trans h.size k.size, k.cell, fun i hi hg => (k.rest i (Nat.lt_of_lt_of_le hi h.size) hg).trans (h.rest i hi hg)⟩
theorem Wrote.after {g : Nat} {t : TypeId} {w w1 w2 : World} {cs : Array Value} (h : Below w.heap.size w w1) (k : Wrote g cs t w1 w2) : Wrote g cs t w w2 :=
  ⟨k.os.trans h.os, k.tape.trans h.tape, k.output.trans h.output, Nat.le_trans h.size k.size, k.cell, fun i hi hg => (k.rest i (Nat.lt_of_lt_of_le hi h.size) hg).trans (h.block i hi)⟩
theorem Wrote.pair {g g' : Nat} {t t' : TypeId} {w w' : World} {cs : Array Value} {a b : Int} (h : Wrote g cs t w w') (hp : Pair w g' t' a b) (hne : g' ≠ g) : Pair w' g' t' a b :=
  (h.rest g' hp.lt hne).trans hp
/-- Nothing comes back; one block is other than it was. -/
def Sets (g : Nat) (cs : Array Value) (t : TypeId) (w : World) (e : Ending) (w' : World) : Prop := e = .returned (.tuple #[]) ∧ Wrote g cs t w w'
theorem idx_vec (xs : Array Value) (k : Nat) (hk : k < 2) {v : Value} (hv : xs[k]? = some v) (W : World) : (Instr.index 37 (.agg xs) (.int .i64 (k : Int))).run Tryd.prog W = .ok v W := by
  have hi : (Tryd.prog.info? 3).map (fun i => (i.zero, i.size, i.bytes)) = some (some (.int .i64 0), 1, 8) := by kernel_rfl
  obtain ⟨i0, hi, hz0, hz1, hz2⟩ := info_parts hi
  simp [Instr.index, run_underlying Tryd.underlying37, asIntOf, hk, hv, sizeOf, typeInfo, hi, hz1, go_sem]
theorem idx0 (a b : Int) (W : World) : (Instr.index 37 (.agg #[.int .i64 a, .int .i64 b]) (.int .i64 0)).run Tryd.prog W = .ok (.int .i64 a) W := idx_vec _ 0 (by decide) rfl W
theorem idx1 (a b : Int) (W : World) : (Instr.index 37 (.agg #[.int .i64 a, .int .i64 b]) (.int .i64 1)).run Tryd.prog W = .ok (.int .i64 b) W := idx_vec _ 1 (by decide) rfl W
theorem step_cov (k : Bool) (a b c d : Int) : (k && decide (c ≤ a) && decide (d ≤ b)) = (k && vcov a b c d) := by unfold vcov; cases k <;> rfl
set_option maxHeartbeats 800000 in
theorem cov1_c (i x y : Int) (c : Bool) (g : Nat) {w : World} (h : w.heap[g]? = some (.cells #[.bool c] 4 (0, 0))) :
    Calls Tryd.prog 62 #[.int .i64 i, .int .i64 x, .int .i64 y, .pointer (some ⟨g, 0, none⟩)] w (Sets g #[.bool (c && decide (y ≤ x))] 4 w) := by
  have h0 : w.cell? ⟨g, 0, none⟩ = some (.bool c) := by rw [cell_of_row w g 0 _ 4 (0, 0) h]; rfl
  have hz : w.frozen? ⟨g, 0, none⟩ = false := frozen_of_row w g 0 _ 4 h
  have HH := Lib.hid h
  clear h
  cases c <;> by_cases g0 : y ≤ x
  all_goals
    have HD := Lib.hid (show decide (y ≤ x) = _ from rfl)
    simp only [g0, decide_true, decide_false] at HD
    go_enter Tryd.func62, Tryd.ntmps62
    go_wp2
    refine bodyPost_ret (results_none rfl _ _ _) rfl ⟨rfl, ?_⟩
    first
      | exact Wrote.of_set (Below.refl _ _) HH.out 0 _
      | (have hd : decide (y ≤ x) = false := by simp; omega
         rw [hd]; exact Wrote.of_set (Below.refl _ _) HH.out 0 _)
      | (have hd : decide (y ≤ x) = true := by simp; omega
         rw [hd]; exact Wrote.of_set (Below.refl _ _) HH.out 0 _)
set_option maxHeartbeats 1600000 in
theorem each_cov (a b c d : Int) (k : Bool) (g : Nat) {w : World} (h : w.heap[g]? = some (.cells #[.bool k] 4 (0, 0))) :
    Calls Tryd.prog 61 #[.agg #[.int .i64 a, .int .i64 b], .agg #[.int .i64 c, .int .i64 d], .func (.func 62) #[] #[.pointer (some ⟨g, 0, none⟩)]] w (Sets g #[.bool (k && decide (c ≤ a) && decide (d ≤ b))] 4 w) := by
  have hg : g < w.heap.size := (Array.getElem?_eq_some_iff.1 h).1
  have hp := (Pair.new w 37 a b).alloc (.cells #[.int .i64 c, .int .i64 d] 37)
  have hq := Pair.second w (.cells #[.int .i64 a, .int .i64 b] 37) 37 c d
  have hb := second_below w (.cells #[.int .i64 a, .int .i64 b] 37) (.cells #[.int .i64 c, .int .i64 d] 37)
  have hW : Wrote g #[.bool k] 4 w ((w.alloc (.cells #[.int .i64 a, .int .i64 b] 37)).alloc (.cells #[.int .i64 c, .int .i64 d] 37)) :=
    ⟨hb.os, hb.tape, hb.output, hb.size, (hb.block g hg).trans h, fun k hk _ => hb.block k hk⟩
  have HA := Lib.hid (fun (W : World) (h : W.heap[g]? = _) => cov1_c 0 a c k g h)
  have HB := Lib.hid (fun (W : World) (h : W.heap[g]? = _) => cov1_c 1 b d (k && decide (c ≤ a)) g h)
  clear h hb
  go_enter Tryd.func61, Tryd.ntmps61
  go_upto_region 1 with (fail)
  generalize (w.alloc (.cells #[.int .i64 a, .int .i64 b] 37)).alloc (.cells #[.int .i64 c, .int .i64 d] 37) = W1 at *
  have p0 := hp.c0
  have p1 := hp.c1
  have HP := Lib.hid hp
  have HQ := Lib.hid hq
  have HW := Lib.hid hW
  clear hp hq hW
  go_wp2
  go_loopw [9] (fun i wr => (Pair wr w.heap.size 37 a b ∧ Pair wr (w.heap.size + 1) 37 c d) ∧ ((i = .int .i64 0 ∧ Wrote g #[.bool k] 4 w wr) ∨ (i = .int .i64 1 ∧ Wrote g #[.bool (k && decide (c ≤ a))] 4 w wr) ∨ (i = .int .i64 2 ∧ Wrote g #[.bool (k && decide (c ≤ a) && decide (d ≤ b))] 4 w wr))) (fun i _ => 2 - (intOf i).toNat)
  case atStart => exact ⟨⟨HP.out, HQ.out⟩, .inl ⟨rfl, HW.out⟩⟩
  case round =>
    clear HP HQ HW p0 p1
    obtain ⟨⟨hp, hq⟩, ⟨rfl, hW⟩ | ⟨rfl, hW⟩ | ⟨rfl, hW⟩⟩ := hrel
    · have q0 := hq.c0
      have hix := idx0 a b
      have HP := Lib.hid hp
      have HQ := Lib.hid hq
      have HW := Lib.hid hW
      clear hp hq hW
      go_wp2_with (go_at_call 62; (with_reducible refine (HA.out _ HW.out.cell).mono ?_); rintro e w2 ⟨rfl, hw2⟩)
      have HR := Lib.hid (HW.out.trans hw2)
      have HP2 := Lib.hid (hw2.pair HP.out (by omega))
      have HQ2 := Lib.hid (hw2.pair HQ.out (by omega))
      clear hw2 q0
      go_wp2
      go_roundw
      case rel => exact ⟨⟨HP2.out, HQ2.out⟩, .inr (.inl ⟨rfl, HR.out⟩)⟩
      case measure => simp [intOf]
    · have q1 := hq.c1
      have hix := idx1 a b
      have HP := Lib.hid hp
      have HQ := Lib.hid hq
      have HW := Lib.hid hW
      clear hp hq hW
      go_wp2_with (go_at_call 62; (with_reducible refine (HB.out _ HW.out.cell).mono ?_); rintro e w2 ⟨rfl, hw2⟩)
      have HR := Lib.hid (HW.out.trans hw2)
      have HP2 := Lib.hid (hw2.pair HP.out (by omega))
      have HQ2 := Lib.hid (hw2.pair HQ.out (by omega))
      clear hw2 q1
      go_wp2
      go_roundw
      case rel => exact ⟨⟨HP2.out, HQ2.out⟩, .inr (.inr ⟨rfl, HR.out⟩)⟩
      case measure => simp [intOf]
    · have HW := Lib.hid hW
      clear hp hq hW
      go_wp2
      refine bodyPost_ret (results_none rfl _ _ _) rfl ⟨rfl, HW.out⟩
theorem Wrote.flag {g : Nat} {v : Value} {t : TypeId} {w w' : World} (h : Wrote g #[v] t w w') : w'.cell? ⟨g, 0, none⟩ = some v := by
  rw [cell_of_row w' g 0 _ t (0, 0) h.cell]; rfl
theorem flag_new (W : World) (v : Value) (t : TypeId) : (W.alloc (.cells #[v] t)).heap[W.heap.size]? = some (.cells #[v] t (0, 0)) := heap_alloc_new W _
theorem mkf (fn : Fn) (first cap : Array Value) (w : World) : (Instr.makeFunc fn first cap).run Tryd.prog w = .ok (.func fn first cap) w := rfl
set_option maxHeartbeats 1600000 in
theorem vcov_c (a b c d : Int) (w : World) : Calls Tryd.prog 47 #[.agg #[.int .i64 a, .int .i64 b], .agg #[.int .i64 c, .int .i64 d]] w (Tells (.bool (vcov a b c d)) w) := by
  have hp := (Pair.new w 37 a b).alloc (.cells #[.int .i64 c, .int .i64 d] 37)
  have hq := Pair.second w (.cells #[.int .i64 a, .int .i64 b] 37) 37 c d
  have hb := second_below w (.cells #[.int .i64 a, .int .i64 b] 37) (.cells #[.int .i64 c, .int .i64 d] 37)
  have hs : ((w.alloc (.cells #[.int .i64 a, .int .i64 b] 37)).alloc (.cells #[.int .i64 c, .int .i64 d] 37)).heap.size = w.heap.size + 1 + 1 := by simp
  have HE := Lib.hid (fun (W : World) (g : Nat) (h : W.heap[g]? = _) => each_cov a b c d true g h)
  have HS := Lib.hid (step_cov true a b c d)
  have hmf := mkf
  go_enter Tryd.func47, Tryd.ntmps47
  go_upto_region 1 with (fail)
  generalize (w.alloc (.cells #[.int .i64 a, .int .i64 b] 37)).alloc (.cells #[.int .i64 c, .int .i64 d] 37) = W1 at *
  have HP := Lib.hid hp
  have HQ := Lib.hid hq
  have HB := Lib.hid hb
  have HZ := Lib.hid hs
  clear hp hq hb hs
  go_upto_region 2 with (fail)
  have hp2 := HP.out.alloc (.cells #[.bool true] 4)
  have hq2 := HQ.out.alloc (.cells #[.bool true] 4)
  have hb2 := HB.out.alloc HB.out.size (.cells #[.bool true] 4)
  have hf2 := flag_new W1 (.bool true) 4
  obtain ⟨g, hg⟩ : ∃ g, W1.heap.size = g := ⟨_, rfl⟩
  have hs2 : g ≤ (W1.alloc (.cells #[.bool true] 4)).heap.size := by simp [World.size_alloc]; omega
  have hwg : w.heap.size ≤ g := by rw [← hg]; exact HB.out.size
  rw [hg] at hf2 ⊢
  generalize W1.alloc (.cells #[.bool true] 4) = W2 at *
  have p0 := hp2.c0
  have p1 := hp2.c1
  have q0 := hq2.c0
  have q1 := hq2.c1
  have HF := Lib.hid hf2
  have HB2 := Lib.hid hb2
  have HS2 := Lib.hid hs2
  clear hp2 hq2 hf2 hb2 hs2 HP HQ HB HZ hg
  go_upto_region 3 with (go_at_call 61; (with_reducible refine (HE.out _ g HF.out).mono ?_); rintro e w3 ⟨rfl, hw3⟩)
  have hv := hw3.flag
  rw [HS.out] at hv
  have HW := Lib.hid (HB2.out.trans (hw3.below hwg HS2.out))
  clear hw3 p0 p1 q0 q1
  go_wp2
  go_ret
  exact ⟨by simp, HW.out⟩
theorem vgood_cov (a b : Int) : vgood a b = (vcov a b 0 0 && vcov 1099511627776 1099511627776 a b) := by
  unfold vgood vcov
  rw [Bool.eq_iff_iff]
  simp only [Bool.and_eq_true, decide_eq_true_eq]
  omega
set_option maxHeartbeats 1600000 in
theorem vgood_c (a b : Int) (w : World) : Calls Tryd.prog 33 #[.agg #[.int .i64 a, .int .i64 b]] w (Tells (.bool (vgood a b)) w) := by
  have hp := Pair.new w 37 a b
  have hb := alloc_below w (.cells #[.int .i64 a, .int .i64 b] 37)
  have HV := Lib.hid (vgood_cov a b)
  have H1 := Lib.hid (vcov_c a b 0 0)
  have H2 := Lib.hid (vcov_c 1099511627776 1099511627776 a b)
  have HP := Lib.hid hp
  have HB := Lib.hid hb
  have p0 := hp.c0
  have p1 := hp.c1
  clear hp hb
  cases e1 : vcov a b 0 0 <;> cases e2 : vcov 1099511627776 1099511627776 a b
  all_goals
    rw [e1, e2] at HV
    rw [e1] at H1
    rw [e2] at H2
    clear e1 e2
    go_enter Tryd.func33, Tryd.ntmps33
    go_wp2_with (first
      | (go_at_call 47; (with_reducible refine (H2.out w1).mono ?_); rintro e w2 ⟨rfl, hb2⟩; have hs2 := HB.out.trans ((hb1.trans (hb2.mono hb1.size)).mono HB.out.size))
      | (go_at_call 47; (with_reducible refine (H1.out _).mono ?_); rintro e w1 ⟨rfl, hb1⟩; have hs1 := HB.out.trans (hb1.mono HB.out.size); have q0 := (HP.out.kept hb1).c0; have q1 := (HP.out.kept hb1).c1))
    go_ret
    refine ⟨by rw [HV.out]; rfl, ?_⟩
    first
      | exact hs2
      | exact hs1
set_option maxRecDepth 100000 in
set_option maxHeartbeats 3200000 in
theorem vput_c {w : World} {a : Option Addr} {m cap : Nat} {l : List UInt8} (hl : Bys w a m cap l) (hn : m ≤ 100000) (hT : TabW w) (x y : Int) :
    Calls Tryd.prog 36 #[.slice a m cap, .agg #[.int .i64 x, .int .i64 y]] w (BytesPost (vputS l x y) w) := by
  obtain ⟨i0, hi, hz0, hz1, hz2⟩ := info_parts Tryd.info5
  have hp := Pair.new w 37 x y
  have hb := alloc_below w (.cells #[.int .i64 x, .int .i64 y] 37)
  have hln := hl.len
  have HL := Lib.hid (hl.below hb)
  have HTb := Lib.hid (hT.below hb)
  have HP := Lib.hid hp
  have HB := Lib.hid hb
  have G := vgood_c x y
  have HV := Lib.hid (show vputS l x y = if vgood x y = true then l ++ numB x ++ numB y else l from rfl)
  have l0 := HP.out.c0
  have l1 := HP.out.c1
  clear hp hb hl
  cases hg : vgood x y with
  | false =>
    rw [hg] at G
    have HG := Lib.hid G
    have hv : vputS l x y = l := by rw [HV.out, if_neg (by simp [hg])]
    rw [hv]
    clear hv HV G hg
    have HPut := Lib.hid (fun (W : World) (h : Bys W a m cap l) (hT : TabW W) => put_c h (show m ≤ 1000000 by omega) (-1) (by omega) (by omega) hT)
    rw [numB_none (.inl (by decide)), List.append_nil] at HPut
    go_enter Tryd.func36, Tryd.ntmps36
    go_upto_region 1 with (fail)
    generalize w.alloc (.cells #[.int .i64 x, .int .i64 y] 37) = W1 at *
    go_wp2_with (first
      | (go_at_call 33; (with_reducible refine (HG.out _).mono ?_); rintro e w2 ⟨rfl, hb2⟩)
      | (go_at_call 35; (with_reducible refine (HPut.out _ (HL.out.below hb2) (HTb.out.below hb2)).mono ?_); rintro e w3 ⟨v, rfl, ho, hb3⟩))
    go_ret
    have h2 := HB.out.trans (hb2.mono HB.out.size)
    exact ⟨_, rfl, ho.mono h2.size, h2.trans (hb3.mono h2.size)⟩
  | true =>
    rw [hg] at G
    have HG := Lib.hid G
    have hv : vputS l x y = l ++ numB x ++ numB y := by rw [HV.out, if_pos (by simp [hg])]
    rw [hv]
    obtain ⟨x0, x1, y0, y1⟩ := vgood_bd hg
    have hx8 := numB_length x
    obtain ⟨lx, hlx⟩ : ∃ q, l ++ numB x = q := ⟨_, rfl⟩
    have hxl : lx.length ≤ 1000000 := by rw [← hlx, List.length_append]; omega
    obtain ⟨ly, hly⟩ : ∃ q, lx ++ numB y = q := ⟨_, rfl⟩
    rw [hlx, hly]
    clear hv HV G hg
    go_enter Tryd.func36, Tryd.ntmps36
    go_upto_region 1 with (fail)
    generalize w.alloc (.cells #[.int .i64 x, .int .i64 y] 37) = W1 at *
    go_upto_region 3 with (go_at_call 33; (with_reducible refine (HG.out _).mono ?_); rintro e w2 ⟨rfl, hb2⟩)
    have HP2 := Lib.hid (HP.out.kept hb2)
    have HL2 := Lib.hid (HL.out.below hb2)
    have HT2 := Lib.hid (HTb.out.below hb2)
    have HB2 := Lib.hid (HB.out.trans (hb2.mono HB.out.size))
    clear l0 l1 hb2 HP HL HB
    have HC := Lib.hid (fun W (h : Below w2.heap.size w2 W) => And.intro (HP2.out.kept h).c0 (HP2.out.kept h).c1)
    have HPut := Lib.hid (fun W (h : Below w2.heap.size w2 W) => put_c (HL2.out.below h) (show m ≤ 1000000 by omega) x (by omega) (by omega) (HT2.out.below h))
    rw [hlx] at HPut
    have HPut2 := Lib.hid (fun (W : World) (h : Below w2.heap.size w2 W) (a' : Option Addr) (c' : Nat) (hy : Bys W a' lx.length c' lx) => put_c hy hxl y (by omega) (by omega) (HT2.out.below h))
    rw [hly] at HPut2
    clear hlx hly hln
    refine wp_region_flow [none,none,none,none, some 7, none,none,none,none,none, some 0, some 1, some 2, some 3, some 4, some 5, some 6] (fun i => if i = 7 then .slice none 0 0 else undef) [(fun v _ => v = .slice a m cap), (fun v _ => v = .pointer (some ⟨w.heap.size, 0, none⟩)), (fun v _ => v = .int .i64 x), (fun v W => OwnB W w.heap.size 5 v lx), (fun v _ => v = .pointer (some ⟨w.heap.size, 1, none⟩)), (fun v _ => v = .int .i64 y), (fun v W => OwnB W w.heap.size 5 v ly), (fun v W => OwnB W w.heap.size 5 v ly)] (by kernel_rfl) (by kernel_rfl) rfl rfl rfl ?_ ?_ ?_
    · intro g hg v X Y hX hY hv
      simp only [List.mem_cons, List.not_mem_nil, or_false] at hg
      rcases hg with rfl | rfl | rfl | rfl | rfl | rfl | rfl | rfl
      all_goals first
        | exact hv
        | exact hv.kept hY
    · simp only [flowOps, and_true]
      refine ⟨?_,?_,?_,?_,?_,?_,?_,?_⟩
      · intro xs W hW hn
        simp only [flowAct, zwc, zwn]
        go_wp2_with (fail)
        exact ⟨rfl, _, rfl, Below.refl _ _, rfl⟩
      · intro xs W hW hn
        obtain ⟨p0, p1⟩ := HC.out W hW
        simp only [flowAct, zwc, zwn]
        go_wp2_with (fail)
        exact ⟨rfl, _, rfl, Below.refl _ _, rfl⟩
      · intro xs W hW hn
        obtain ⟨p0, p1⟩ := HC.out W hW
        simp [flowNeeds, Region.binds] at hn
        simp only [flowAct, zwc, zwn, hn]
        go_wp2_with (fail)
        exact ⟨rfl, _, rfl, Below.refl _ _, rfl⟩
      · intro xs W hW hn
        simp [flowNeeds, Region.binds] at hn
        simp only [flowAct, zwc, zwn, hn]
        go_wp2_with (go_at_call 35; (with_reducible refine (HPut.out _ hW).mono ?_); rintro e w9 ⟨v, rfl, ho, hb9⟩)
        exact ⟨rfl, _, rfl, hb9, ho.mono (Nat.le_trans HB2.out.size hW.size)⟩
      · intro xs W hW hn
        obtain ⟨p0, p1⟩ := HC.out W hW
        simp only [flowAct, zwc, zwn]
        go_wp2_with (fail)
        exact ⟨rfl, _, rfl, Below.refl _ _, rfl⟩
      · intro xs W hW hn
        obtain ⟨p0, p1⟩ := HC.out W hW
        simp [flowNeeds, Region.binds] at hn
        simp only [flowAct, zwc, zwn, hn]
        go_wp2_with (fail)
        exact ⟨rfl, _, rfl, Below.refl _ _, rfl⟩
      · intro xs W hW hn
        simp [flowNeeds, Region.binds] at hn
        obtain ⟨ho3, e5⟩ := hn
        obtain ⟨a', c', e3, hy3⟩ := ho3.bys
        simp only [flowAct, zwc, zwn, e3, e5]
        go_wp2_with (go_at_call 35; (with_reducible refine (HPut2.out _ hW _ _ hy3).mono ?_); rintro e w9 ⟨v, rfl, ho, hb9⟩)
        exact ⟨rfl, _, rfl, hb9, ho.mono (Nat.le_trans HB2.out.size hW.size)⟩
      · intro xs W hW hn
        simp [flowNeeds, Region.binds] at hn
        simp only [flowAct, zwc, zwn]
        go_wp2_with (fail)
        exact ⟨rfl, _, rfl, Below.refl _ _, hn.1⟩
    · intro xs W hW hall
      simp only [flowAll, and_true, Nat.zero_add, Nat.reduceAdd] at hall
      obtain ⟨-,-,-,-,-,-,-, e7⟩ := hall
      simp only [flowAct, zwc, zwn]
      go_wp2
      go_ret
      exact ⟨_, rfl, e7, HB2.out.trans (hW.mono HB2.out.size)⟩
end Go.Proofs.YtjkifdjjcfempaaDoor
end

section
namespace Go.Proofs.YtjkifdjjcfempaaDoor
open Go.RowKit Go Go.Sort
set_option linter.unusedVariables false
set_option maxRecDepth 20000

def zeroS (d e : Int) : Bool := decide (d = 0) && decide (e = 0)
def wroteS (n s a b : Int) (g : Bool) (t : List UInt8) : Bool := n != 0 || (s != 0 || (a != 0 || (b != 0 || (g || t != []))))
end Go.Proofs.YtjkifdjjcfempaaDoor
end

section
namespace Go.Proofs.YtjkifdjjcfempaaDoor
open Go.RowKit Go Go.Sort
set_option linter.unusedVariables false
set_option maxRecDepth 20000

def cgoodS (p n s a b : Int) (g : Bool) (t : List UInt8) (d e : Int) : Bool :=
  ((p == 1 && zeroS d e) || (p == 2 && (!g && vgood d e))) && (!wroteS n s a b g t || (sgood n s && (decide (0 < n) && (vgood a b && (decide (t.length ≤ 64) && (!g || t == []))))))

end Go.Proofs.YtjkifdjjcfempaaDoor
end

section
namespace Go.Proofs.YtjkifdjjcfempaaDoor
open Go.RowKit Go Go.Sort
set_option linter.unusedVariables false
set_option maxRecDepth 20000

def cellEq (n s a b : Int) (g : Bool) (t : List UInt8) (d e : Int) (n' s' a' b' : Int) (g' : Bool) (t' : List UInt8) (d' e' : Int) : Bool :=
  ((n == n') && (s == s')) && (((a == a') && (b == b')) && ((g == g') && (decide (t = t') && ((d == d') && (e == e')))))
end Go.Proofs.YtjkifdjjcfempaaDoor
end

section
namespace Go.Proofs.YtjkifdjjcfempaaDoor
open Go.RowKit
set_option linter.unusedVariables false
set_option maxRecDepth 20000

def RetT (t : List UInt8 × Int × Int) (w : World) (e : Ending) (w' : World) : Prop := e = .returned (.tuple #[.string (text t.1), .int .i64 t.2.1, .int .i64 t.2.2]) ∧ w = w'
theorem RetT.mk {s : ByteArray} {x y : Int} {t : List UInt8 × Int × Int} {z : List UInt8} {w : World} (hs : s = text z) (h : t = (z, x, y)) : RetT t w (.returned (.tuple #[.string s, .int .i64 x, .int .i64 y])) w := by
  subst h; subst hs; exact ⟨rfl, rfl⟩

/-- append(v, s...), v a row of the call's own, s a string. -/
theorem run_append_text {P : Program} {w : World} {base : Nat} {t tx ty e : TypeId} {i : TypeInfo} {z : Value} (ht : P.underlying t = some (.slice e)) (hk : P.underlying tx = some .string) (hi : P.info? e = some i) (hz : i.zero = some z)
    (hsize : i.size = 1) (hby : i.bytes = 1) (hzs : z.cells.size = 1) {g cap : Nat} {k : List UInt8} (hown : OwnB w base e (.slice (some ⟨g, 0, none⟩) k.length cap) k)
    (s : ByteArray) (h63 : k.length + s.size ≤ 140737488355328) (hbase : base ≤ w.heap.size) :
    ∃ v' w', (Builtin.append_ #[t, tx] ty #[.slice (some ⟨g, 0, none⟩) k.length cap, .string s]).run P w = .ok v' w' ∧ OwnB w' base e v' (k ++ s.data.toList) ∧ w.grownBy w' (some g) := by
  have hS : Src P i.size tx (.string s) s.size (u8v s.data.toList) w := by rw [hsize]; exact Src.ofString w hk s
  have hsl : s.data.toList.length = s.size := by simp
  have hlen : (k ++ s.data.toList).length = k.length + s.size := by rw [List.length_append, hsl]
  have hown' := hown
  rcases hown'.2 with ⟨h', _⟩ | ⟨g', cap', cur, h', hbg, hg, hnc, hcm, hcs, htake⟩
  · simp at h'
  simp only [Value.slice.injEq, Option.some.injEq, Addr.mk.injEq, and_true, true_and] at h'
  obtain ⟨rfl, rfl⟩ := h'
  have hul : (u8v s.data.toList).length = s.size := by rw [u8v_length, hsl]
  by_cases hroom : k.length + s.size ≤ cap
  · have hfit : k.length * i.size + (u8v s.data.toList).length ≤ cur.size := by rw [hul, hcs, hsize]; omega
    have hst := run_storeCells_at P g (k.length * i.size) e (u8v s.data.toList) 0 cur w hg (by simpa using hfit) hS.one
    simp only [Nat.add_zero] at hst
    refine ⟨.slice (some ⟨g, 0, none⟩) (k.length + s.size) cap, w.setRow g (cur.toList.take (k.length * i.size) ++ u8v s.data.toList ++ cur.toList.drop (k.length * i.size + (u8v s.data.toList).length)).toArray, ?_,?_,?_⟩
    · simp [Builtin.append_, run_underlying ht, run_underlying hk, sizeOf, typeInfo, hi, hS.len, hroom, hS.cells, Addr.add_lit, hst]
    · unfold OwnB
      rw [hlen]
      refine ⟨by rw [u8v_length, hlen]; omega, .inr ⟨g, cap, _, rfl, hbg, setRow_heap w g cur _ e _ hg, hroom, hcm, ?_,?_⟩⟩
      · simp only [List.size_toArray, List.length_append, List.length_take, List.length_drop, Array.length_toList]
        omega
      · rw [hsize, htake, u8v_append]
        have h2 : (u8v k ++ u8v s.data.toList).length = (k.length + s.size) * 1 := by rw [List.length_append, u8v_length, hul]; omega
        simp only []
        rw [← h2]
        exact List.take_left
    · exact ⟨rfl, rfl, rfl, by simp, fun j _ hj => setRow_other w g j _ (fun e => hj (by simp [e]))⟩
  · have hcells : ∀ j u, (u8v k)[j]? = some u → w.drew.cell? ((⟨g, 0, none⟩ : Addr).add j) = some u := World.ownsRow.cells (g := g) (World.ownsRow.drew hown) rfl
    have hold := run_firstCells_some (P := P) w.drew i.size k.length ⟨g, 0, none⟩ k.length cap (u8v k) (by rw [u8v_length, hsize]; omega) hcells
    have hr := run_append_grow_src (P := P) w t tx ty e i z ht hi hz (some ⟨g, 0, none⟩) k.length cap (u8v k) hold (.string s) s.size (u8v s.data.toList) hS (by omega) (by omega) (growslice_fits (by omega) (by rw [hby]; omega))
    refine ⟨_, _, hr, ?_, ⟨rfl, rfl, rfl, by simp, fun j hj _ => heap_alloc_old w.drew _ hj⟩⟩
    have hge := grownCap_ge w (k.length + s.size) cap e
    have hcl : grownCap w (k.length + s.size) cap e ≤ maxLen := grownCap_le_maxLen w (k.length + s.size) cap e (by unfold maxLen; omega)
    unfold OwnB
    rw [hlen]
    refine ⟨by rw [u8v_length, hlen]; omega, .inr ⟨w.heap.size, _, _, rfl, hbase, heap_alloc_new w.drew _, hge, hcl, ?_,?_⟩⟩
    · simp only [Array.size_append, List.size_toArray, List.length_append, size_zeroCells, hzs, u8v_length, hsl]
      omega
    · simp only [Array.toList_append]
      rw [u8v_append]
      have h2 : (u8v k ++ u8v s.data.toList).length = (k.length + s.size) * 1 := by rw [List.length_append, u8v_length, hul]; omega
      rw [← h2]
      exact List.take_left

theorem wpList_append_text {P : Program} {w : World} {ops : Array Oper} {rest : List Oper} {o : Oper} {a : Act} {Q : Exit → Act → World → Prop} (hgd : o.guard = none) (sl x : Operand) (t tx : TypeId)
    (ho : o.op = .call { callee := .builtin .append, args := #[sl, x], argTypes := #[t, tx] })
    {base : Nat} {e : TypeId} {i : TypeInfo} {z : Value} (ht : P.underlying t = some (.slice e)) (hk : P.underlying tx = some .string) (hi : P.info? e = some i) (hz : i.zero = some z)
    (hsize : i.size = 1) (hby : i.bytes = 1) (hzs : z.cells.size = 1) {g cap : Nat} {k : List UInt8} (hs : a.eval sl = .slice (some ⟨g, 0, none⟩) k.length cap) (hown : OwnB w base e (.slice (some ⟨g, 0, none⟩) k.length cap) k)
    (s : ByteArray) (hx : a.eval x = .string s) (h63 : k.length + s.size ≤ 140737488355328) (hbase : base ≤ w.heap.size)
    (h : ∀ v' w', OwnB w' base e v' (k ++ s.data.toList) → w.grownBy w' (some g) → wpList P ops Q rest (a.put o.dst v') w') : wpList P ops Q (o :: rest) a w := by
  refine wpList_plain hgd fun K hK => ?_
  obtain ⟨v', w', hr, h2, h3⟩ := run_append_text (P := P) (ty := o.type) ht hk hi hz hsize hby hzs hown s h63 hbase
  unfold Oper.wp execOp
  simp only [ho, resolve, invoke, builtin, Sem.run_bind, Sem.run_pure, Result.andThen_ok, List.map_toArray, List.map_cons, List.map_nil, hs, hx, hr]
  exact hK _ _ (h v' w' h2 h3)
def putTextS (l s : List UInt8) : List UInt8 := l ++ numB (s.length : Int) ++ s

set_option maxHeartbeats 1600000 in
theorem puttext_c {w : World} {a : Option Addr} {m cap : Nat} {l : List UInt8} (hb : Bys w a m cap l) (s : ByteArray) (hn : m ≤ 1000000) (hs : s.size ≤ 1000000) (hT : TabW w) :
    Calls Tryd.prog 38 #[.slice a m cap, .string s] w (BytesPost (putTextS l s.data.toList) w) := by
  obtain ⟨i0, hi, hz0, hz1, hz2⟩ := info_parts Tryd.info5
  have hpos : 0 < (l ++ numB (s.size : Int)).length := by
    obtain ⟨k, h1, h2, _⟩ := sizeS_cases (n := (s.size : Int)) (by omega) (by omega)
    rw [List.length_append]; unfold numB; rw [numK_length, h1]; omega
  have hlen : (l ++ numB (s.size : Int)).length ≤ 1000008 := by
    have := numB_length (s.size : Int); have := hb.len; rw [List.length_append]; omega
  have hsl : s.data.toList.length = s.size := by simp
  have hc := put_c hb hn (s.size : Int) (by omega) (by omega) hT
  obtain ⟨K, hK⟩ : ∃ K, K = l ++ numB (s.size : Int) := ⟨_, rfl⟩
  have HK := Lib.hid (show putTextS l s.data.toList = K ++ s.data.toList by unfold putTextS; rw [hsl, hK])
  rw [← hK] at hpos hlen hc
  clear hsl hK
  have HC := Lib.hid hc
  clear hc
  go_enter Tryd.func38, Tryd.ntmps38
  go_wp2_with (first
    | (go_at_call 35; refine (HC.out).mono ?_; rintro e w1 ⟨v, rfl, hov, hbv⟩; obtain ⟨g, cv, rfl, hrow⟩ := hov.row hpos)
    | (at_builtin; refine wpList_append_text rfl (.tmp 8) (.tmp 9) 43 9 rfl Tryd.underlying43 Tryd.underlying9 hi hz0 hz1 hz2 rfl rfl hrow s rfl (by omega) hbv.size ?_; intro v2 w2 ho2 hg2))
  go_ret
  refine ⟨v2, rfl, by rw [HK.out]; exact ho2, hbv.grown hg2 hbv.size (fun k hk => ?_)⟩
  simp only [Option.some.injEq] at hk
  subst hk
  exact (hrow.lt g rfl).1

end Go.Proofs.YtjkifdjjcfempaaDoor
end

section
namespace Go.Proofs.YtjkifdjjcfempaaDoor
open Go.RowKit Go Go.Sort
set_option linter.unusedVariables false
set_option maxRecDepth 20000

/-- A cell. -/
structure Cl where
  n : Int
  s : Int
  a : Int
  b : Int
  g : Bool
  t : List UInt8
  d : Int
  e : Int
def Cl.zero : Cl := ⟨0, 0, 0, 0, false, [], 0, 0⟩
def Cl.arr (c : Cl) : Array Value := #[.int .i64 c.n, .int .i64 c.s, .int .i64 c.a, .int .i64 c.b, .bool c.g, .string (text c.t), .int .i64 c.d, .int .i64 c.e]
def Cl.good (p : Int) (c : Cl) : Bool := cgoodS p c.n c.s c.a c.b c.g c.t c.d c.e
def Cl.wrote (c : Cl) : Bool := wroteS c.n c.s c.a c.b c.g c.t

/-- The first number of a cell's bytes. -/
def sumS (w g z : Bool) : Int := (if w then 1 else 0) + (if g then 2 else 0) + (if z then 0 else 4)
def Cl.sum (c : Cl) : Int := sumS c.wrote c.g (zeroS c.d c.e)
def layS (l : List UInt8) (c : Cl) : List UInt8 :=
  let o1 := l ++ numB c.sum
  let o2 := if c.wrote = true then (let o := vputS (sputS o1 c.n c.s) c.a c.b; if c.g = true then o else putTextS o c.t) else o1
  if zeroS c.d c.e = true then o2 else vputS o2 c.d c.e
def cputS (l : List UInt8) (p : Int) (c : Cl) : List UInt8 := if c.good p = true then layS l c else l

theorem sput_app (l m : List UInt8) (n s : Int) : sputS (l ++ m) n s = l ++ sputS m n s := by unfold sputS; split <;> simp
theorem vput_app (l m : List UInt8) (a b : Int) : vputS (l ++ m) a b = l ++ vputS m a b := by unfold vputS; split <;> simp
theorem putText_app (l m t : List UInt8) : putTextS (l ++ m) t = l ++ putTextS m t := by unfold putTextS; simp
def Cl.gone (g : Bool) : Cl := ⟨0, 0, 0, 0, g, [], 0, 0⟩
end Go.Proofs.YtjkifdjjcfempaaDoor
end

section
namespace Go.Proofs.YtjkifdjjcfempaaDoor
open Go.RowKit Go Go.Sort
set_option linter.unusedVariables false
set_option maxRecDepth 20000

theorem sput_le (l : List UInt8) (n s : Int) : (sputS l n s).length ≤ l.length + 8 := by
  unfold sputS; have := numB_length (scode n s); split <;> simp <;> omega
theorem vput_le (l : List UInt8) (a b : Int) : (vputS l a b).length ≤ l.length + 16 := by
  unfold vputS; have := numB_length a; have := numB_length b; split <;> simp <;> omega
theorem putText_le (l t : List UInt8) : (putTextS l t).length ≤ l.length + 8 + t.length := by
  unfold putTextS; have := numB_length (t.length : Int); simp; omega
theorem text_back (t : List UInt8) : (text t).data.toList = t := by simp [text]

end Go.Proofs.YtjkifdjjcfempaaDoor
end

section
namespace Go.Proofs.YtjkifdjjcfempaaDoor
open Go.RowKit Go Go.Sort Go.Lib
set_option linter.unusedVariables false
set_option maxRecDepth 20000

set_option maxHeartbeats 3200000 in
theorem grow_c (n : Nat) (hn : n ≤ 1000000) (w : World) : Calls Tryd.prog 39 #[.slice none 0 0, .int .i64 (n : Int)] w (BytesPost [] w) := by
  by_cases h0 : n = 0
  · subst h0
    go_enter Tryd.func39, Tryd.ntmps39
    go_wp2
    go_ret
    exact ⟨_, rfl, World.ownsRow_nil _ _ _ _, Below.refl _ _⟩
  · obtain ⟨i0, hi, hz0, hz1, hz2⟩ := info_parts Tryd.info5
    have hneg : ¬ ((n : Int) < 0) := by omega
    have hpos : (0 : Int) < (n : Int) := by omega
    have hold : (Builtin.firstCells i0.size 0 (.slice none 0 0)).run Tryd.prog w.drew = .ok #[] w.drew := run_firstCells_none w.drew i0.size 0 0 0
    have hrz : ∀ ty, (Builtin.append_ #[43, 3] ty #[.slice none 0 0, .int .i64 (n : Int)]).run Tryd.prog w = .ok (.slice (some ⟨w.heap.size, 0, none⟩) n (grownCap w n 0 5)) (w.drew.alloc (.cells (#[] ++ Builtin.zeroCells #[Value.int .u8 0] n ++ Builtin.zeroCells #[Value.int .u8 0] (grownCap w n 0 5 - n)) 5)) := fun ty => by
      have h := Lib.run_append_grow_zeros w 43 3 ty 5 i0 (.int .u8 0) .i64 .i64 Tryd.underlying43 Tryd.underlying3 hi hz0 none 0 0 [] hold n (by omega) (by omega) (by omega) (by omega) (by rw [hz2]; omega) (growslice_fits (by omega) (by rw [hz2]; omega))
      rw [Nat.zero_add] at h
      exact h
    have hG1 : n ≤ grownCap w n 0 5 := grownCap_ge w _ _ _
    have hG2 : grownCap w n 0 5 ≤ maxLen := grownCap_le_maxLen w n 0 5 (by unfold maxLen; omega)
    obtain ⟨G, hG⟩ : ∃ G, grownCap w n 0 5 = G := ⟨_, rfl⟩
    rw [hG] at hrz hG1 hG2
    have hcs : (#[] ++ Builtin.zeroCells #[Value.int .u8 0] n ++ Builtin.zeroCells #[Value.int .u8 0] (G - n)).size = G := by
      simp [Builtin.zeroCells]; omega
    obtain ⟨C, hC⟩ : ∃ C : Array Value, #[] ++ Builtin.zeroCells #[Value.int .u8 0] n ++ Builtin.zeroCells #[Value.int .u8 0] (G - n) = C := ⟨_, rfl⟩
    rw [hC] at hrz hcs
    have HCS := Lib.hid hcs
    have hGm : G ≤ 9223372036854775807 := by unfold maxLen at hG2; exact hG2
    clear hold hG hC hcs h0
    go_enter Tryd.func39, Tryd.ntmps39
    go_wp2_with (at_builtin; refine Lib.wpList_append_run _ rfl _ _ _ _ rfl _ _ rfl rfl _ _ (hrz _) ?_)
    go_ret
    refine ⟨_, rfl, ⟨rfl, .inr ⟨w.heap.size, G, C, rfl, Nat.le_refl _, ?_, Nat.zero_le _, hG2, by rw [HCS.out, Nat.mul_one], by simp [u8v]⟩⟩, ?_⟩
    · exact heap_alloc_new w.drew _
    · have h := (Below.refl w.heap.size w).alloc (Nat.le_refl _) (.cells C 5)
      exact ⟨h.os, h.tape, h.output, h.size, h.block⟩

set_option maxHeartbeats 3200000 in
theorem concat_c {w : World} {q : Nat} {ad ad' : Option Addr} {m m' cap cap' : Nat} {l l' : List UInt8} (h0 : w.cell? ⟨q, 0, none⟩ = some (.slice ad m cap)) (h1 : w.cell? ⟨q, 1, none⟩ = some (.slice ad' m' cap'))
    (hl : Bys w ad m cap l) (hl' : Bys w ad' m' cap' l') (hm : m ≤ 100000) (hm' : m' ≤ 100000) :
    Calls Tryd.prog 23 #[.slice (some ⟨q, 0, none⟩) 2 2] w (BytesPost (l ++ l') w) := by
  obtain ⟨i0, hi, hz0, hz1, hz2⟩ := info_parts Tryd.info5
  have hln := hl.len
  have HC := Lib.hid (fun W (h : Below w.heap.size w W) => And.intro ((h.cell (World.block_lt_of_cell? w _ h0)).trans h0) ((h.cell (World.block_lt_of_cell? w _ h1)).trans h1))
  have HL := Lib.hid (fun W (h : Below w.heap.size w W) => hl.below h)
  have HL' := Lib.hid (fun W (h : Below w.heap.size w W) => hl'.below h)
  have hmi : (m : Int) ≤ 100000 := by omega
  have hmi' : (m' : Int) ≤ 100000 := by omega
  have hsum : (m : Int) + (m' : Int) = ((m + m' : Nat) : Int) := by omega
  have HG := Lib.hid (fun W => by have := grow_c (m + m') (by omega) W; rwa [← hsum] at this)
  have hnn : ¬ ((m : Int) + (m' : Int) < 0) := by omega
  have hnn0 : ¬ ((m : Int) < 0) := by omega
  clear hl hl' hsum
  go_enter Tryd.func23, Tryd.ntmps23
  go_wp2
  refine wp_loop_rounds 3 ?_
  rw [rounds_succ]
  go_wp2
  rw [rounds_succ]
  go_wp2
  rw [rounds_succ]
  go_upto_region 9 with (fail)
  go_upto_region 11 with (go_at_call 39; (with_reducible refine (HG.out _).mono ?_); rintro e1 w1 ⟨v1, rfl, ho1, hb1⟩)
  obtain ⟨c0, c1⟩ := HC.out w1 hb1
  have hy0 := HL.out w1 hb1
  have HO1 := Lib.hid ho1
  have HB1 := Lib.hid hb1
  clear ho1 hb1
  refine wp_loop_rounds 3 ?_
  rw [rounds_succ]
  go_wp2_with (at_builtin; refine wpList_append_bys rfl (.tmp 31) (.tmp 32) 43 rfl Tryd.underlying43 hi hz0 hz1 hz2 rfl rfl HO1.out rfl hy0 (by simp; omega) HB1.out.size ?_; intro v2 w2 ho2 hg2)
  have hb2 := HB1.out.grown hg2 HB1.out.size (fun k hk => (HO1.out.lt k hk).1)
  obtain ⟨d0, d1⟩ := HC.out w2 hb2
  have hy1 := HL'.out w2 hb2
  rw [List.nil_append] at ho2
  have HO2 := Lib.hid ho2
  have HB2 := Lib.hid hb2
  clear ho2 hb2 hg2 hy0 c0 c1
  rw [rounds_succ]
  go_wp2_with (at_builtin; refine wpList_append_bys rfl (.tmp 31) (.tmp 32) 43 rfl Tryd.underlying43 hi hz0 hz1 hz2 rfl rfl HO2.out rfl hy1 (by omega) HB2.out.size ?_; intro v3 w3 ho3 hg3)
  have hb3 := HB2.out.grown hg3 HB2.out.size (fun k hk => (HO2.out.lt k hk).1)
  have HO3 := Lib.hid ho3
  have HB3 := Lib.hid hb3
  clear ho3 hb3 hg3 hy1 d0 d1
  rw [rounds_succ]
  go_wp2
  go_ret
  exact ⟨_, rfl, HO3.out, HB3.out⟩

end Go.Proofs.YtjkifdjjcfempaaDoor
end

section
namespace Go.Proofs.YtjkifdjjcfempaaDoor
open Go.RowKit Go Go.Sort
set_option linter.unusedVariables false
set_option maxRecDepth 20000

/-- One block alone is other than it was, and there may be more. -/
structure Only (q : Nat) (w w' : World) : Prop where
  os : w'.os = w.os
  tape : w'.tape = w.tape
  output : w'.output = w.output
  size : w.heap.size ≤ w'.heap.size
  rest : ∀ k, k < w.heap.size → k ≠ q → w'.heap[k]? = w.heap[k]?
theorem Only.set (W : World) (p : Addr) (v : Value) : Only p.block W (W.setCell p v) := by
  have h := (Below.refl p.block W).setCell (p := p) (Nat.le_refl _) v
  exact ⟨h.os, h.tape, h.output, h.size, fun k _ hk => heap_setCell_other W p k v hk⟩
theorem Only.trans {q : Nat} {a b c : World} (h : Only q a b) (k : Only q b c) : Only q a c :=
  ⟨k.os.trans h.os, k.tape.trans h.tape, k.output.trans h.output, Nat.le_trans h.size k.size, fun i hi hne => (k.rest i (Nat.lt_of_lt_of_le hi h.size) hne).trans (h.rest i hi hne)⟩
theorem Only.below {q B : Nat} {w w' : World} (h : Only q w w') (hB : B ≤ q) (hs : B ≤ w.heap.size) : Below B w w' := ⟨h.os, h.tape, h.output, h.size, fun k hk => h.rest k (by omega) (by omega)⟩
end Go.Proofs.YtjkifdjjcfempaaDoor
end

section
namespace Go.Proofs.YtjkifdjjcfempaaDoor
open Go Go.RowKit
set_option linter.unusedVariables false

section
variable {P : Program} {ops : Array Oper} {md : Region.Mode}

def flowOpsR (P : Program) (md : Region.Mode) (ops : Array Oper) (a : Act) (srcs : List (Option Nat)) (Gs : List (Value → World → Prop)) (R : World → World → Prop) (w0 : World) : List Oper → Nat → Prop
  | [], _ => True
  | o :: l, k => (∀ xs w, R w0 w → flowNeeds md Gs xs w o.after.toList → wpList P ops (FlowEnd (flowAct a srcs xs) o R (Gs.getD k fun _ _ => True) w) [o] (flowAct a srcs xs) w) ∧ flowOpsR P md ops a srcs Gs R w0 l (k + 1)
theorem flowOpsR_get {a : Act} {srcs : List (Option Nat)} {Gs : List (Value → World → Prop)} {R : World → World → Prop} {w0 : World} : ∀ (l : List Oper) (k : Nat), flowOpsR P md ops a srcs Gs R w0 l k → ∀ i o, l[i]? = some o →
    ∀ xs w, R w0 w → flowNeeds md Gs xs w o.after.toList → wpList P ops (FlowEnd (flowAct a srcs xs) o R (Gs.getD (k + i) fun _ _ => True) w) [o] (flowAct a srcs xs) w
  | [], _, _, i, o, h => by simp at h
  | o' :: l, k, hh, 0, o, h => by
    obtain rfl : o' = o := by simpa using h
    exact hh.1
  | o' :: l, k, hh, i + 1, o, h => by
    have := flowOpsR_get l (k + 1) hh.2 i o (by simpa using h)
    rwa [show k + 1 + i = k + (i + 1) by omega] at this
theorem wp_region_flowR {id : Nat} {Q : Exit → Act → World → Prop} {l : List Oper} {a : Act} {w : World} (R : World → World → Prop) (srcs : List (Option Nat)) (xs0 : Nat → Value) (Gs : List (Value → World → Prop)) (hm : P.follows .mixedOrders = true)
    (hB : flowB .any l.toArray srcs = true) (hl : a.tmps.size = srcs.length) (h0 : flowAct a srcs xs0 = a) (hn : Gs.length = l.length)
    (hR : ∀ a b c, R a b → R b c → R a c) (hR0 : R w { w with drawn := w.drawn + 1 })
    (hG : ∀ g ∈ Gs, ∀ v x y, R w x → R x y → g v x → g v y)
    (hops : flowOpsR P .any l.toArray a srcs Gs R w l 0)
    (hend : ∀ xs w', R w w' → flowAll xs w' Gs 0 → Q .normal (flowAct a srcs xs) w') : (Code.region id l.toArray true).wp P Q a w := by
  refine wp_region_any hm ?_
  have := wpAny_flow (P := P) (ops := l.toArray) (md := .any) (Q := Q) (flowAct a srcs) R (fun i => Gs.getD i fun _ _ => True) w
    hR (fun i v x y h1 h2 h3 => ?_) (fun i o ho => (flowB_spec hB ho).1) (fun i o xs v ho => flowAct_put hB hl ho xs v)
    (fun i o ho xs x hx hn => by
      have := flowOpsR_get l 0 hops i o (by simpa using ho) xs x hx (flowNeeds_of _ fun e he hb => hn e (by simpa using he) hb)
      rwa [Nat.zero_add] at this)
    (fun xs x hx hg => hend xs x hx (flowAll_of Gs 0 fun i hi => by rw [Nat.zero_add]; exact hg i (by simpa using (by omega : i < l.length))))
    l.toArray.size (Array.replicate l.toArray.size false) xs0 { w with drawn := w.drawn + 1 } hR0 (by simp) (by simp) (fun i hi hl => by
      exfalso
      rw [Array.getD_eq_getD_getElem?, Array.getElem?_eq_getElem (by simpa using hi)] at hl
      simp at hl)
  · rwa [h0] at this
  · by_cases hi : i < Gs.length
    · have hm := List.getElem_mem hi
      rw [List.getD_eq_getElem?_getD, List.getElem?_eq_getElem hi] at h3 ⊢
      exact hG _ hm v x y h1 h2 h3
    · rw [List.getD_eq_getElem?_getD, List.getElem?_eq_none (by omega)]
      trivial
end
end Go.Proofs.YtjkifdjjcfempaaDoor
end

section
namespace Go.Proofs.YtjkifdjjcfempaaDoor
open Go.RowKit Go Go.Sort
set_option linter.unusedVariables false

abbrev Grp := List UInt8 × Int
def nameS (s : List UInt8) : Bool := s.all (fun c => decide (97 ≤ c.toNat ∧ c.toNat ≤ 122)) && decide (1 ≤ s.length ∧ s.length ≤ 12)
def goodFrom (ahead : List Grp) : List Grp → Int
  | [] => 0
  | g :: r => if ¬ (nameS g.1 = true ∧ (g.2 = 1 ∨ g.2 = 2)) then 2 else if ahead.any (fun h => h.1 == g.1) then 70 else goodFrom (ahead ++ [g]) r
def pgoodS (l : List Grp) : Int := if l.length = 0 then 2 else if 4 < l.length then 3 else goodFrom [] l
/-- A list of groups that lies in memory. -/
structure Grs (w : World) (a : Option Addr) (n cap : Nat) (l : List Grp) : Prop where
  len : l.length = n
  le : n ≤ cap
  max : cap ≤ 9223372036854775807
  adr : cap = 0 ∨ ∃ b off, a = some ⟨b, off, none⟩ ∧ ∀ i, i < n → w.cell? ⟨b, off + i * 2, none⟩ = some (.string (text (l.getD i ([], 0)).1)) ∧ w.cell? ⟨b, off + i * 2 + 1, none⟩ = some (.int .i64 (l.getD i ([], 0)).2)
theorem Grs.below {w w' : World} {a : Option Addr} {n cap : Nat} {l : List Grp} (h : Grs w a n cap l) (hb : Below w.heap.size w w') : Grs w' a n cap l := by
  refine ⟨h.len, h.le, h.max, ?_⟩
  rcases h.adr with h4 | ⟨b, off, rfl, hc⟩
  · exact .inl h4
  · refine .inr ⟨b, off, rfl, fun i hi => ?_⟩
    obtain ⟨h1, h2⟩ := hc i hi
    exact ⟨by rw [hb.cell (World.block_lt_of_cell? w _ h1)]; exact h1, by rw [hb.cell (World.block_lt_of_cell? w _ h2)]; exact h2⟩
/-- What a group's place holds, in every world in which nothing of the old is turned. -/
theorem Grs.at {w : World} {a : Option Addr} {n cap : Nat} {l : List Grp} (h : Grs w a n cap l) {k : Nat} (hk : k < n) :
    ∃ b off, a = some ⟨b, off, none⟩ ∧ ∀ W, Below w.heap.size w W → W.cell? ⟨b, off + k * 2, none⟩ = some (.string (text (l.getD k ([], 0)).1)) ∧ W.cell? ⟨b, off + k * 2 + 1, none⟩ = some (.int .i64 (l.getD k ([], 0)).2) := by
  have := h.le
  rcases h.adr with h4 | ⟨b, off, rfl, hc⟩
  · omega
  · exact ⟨b, off, rfl, fun W hb => ⟨by rw [hb.cell (World.block_lt_of_cell? w _ (hc k hk).1)]; exact (hc k hk).1, by rw [hb.cell (World.block_lt_of_cell? w _ (hc k hk).2)]; exact (hc k hk).2⟩⟩
end Go.Proofs.YtjkifdjjcfempaaDoor
end

section
namespace Go.Proofs.YtjkifdjjcfempaaDoor
open Go.RowKit Go Go.Sort
set_option linter.unusedVariables false
set_option maxRecDepth 20000

theorem text_list (l : List UInt8) : (text l).toList = l := by unfold text; simp
theorem text_len (l : List UInt8) : (text l).size = l.length := by show l.toArray.size = _; simp
def lowB (c : UInt8) : Bool := decide (97 ≤ c.toNat ∧ c.toNat ≤ 122)
theorem name_all (s : List UInt8) (k : Nat) (h : k < s.length) (hall : (s.take k).all lowB = true) :
    (97 ≤ by8 s k ∧ by8 s k ≤ 122 ∧ (s.take (k + 1)).all lowB = true) ∨ ((by8 s k < 97 ∨ 122 < by8 s k) ∧ s.all lowB = false) := by
  have hb : by8 s k = ((s[k]).toNat : Int) := by unfold by8; rw [List.getD_eq_getElem?_getD, List.getElem?_eq_getElem h]; rfl
  by_cases hd : 97 ≤ (s[k]).toNat ∧ (s[k]).toNat ≤ 122
  · left
    refine ⟨by omega, by omega, ?_⟩
    rw [List.take_succ_eq_append_getElem h, List.all_append, hall]
    simp [lowB, hd]
  · right
    refine ⟨by omega, ?_⟩
    rw [Bool.eq_false_iff]
    intro ha
    rw [List.all_eq_true] at ha
    have := ha s[k] (List.getElem_mem h)
    simp [lowB] at this
    omega
theorem nameS_low (s : List UInt8) : nameS s = (s.all lowB && decide (1 ≤ s.length ∧ s.length ≤ 12)) := rfl

attribute [-go_sem] run_index_string
end Go.Proofs.YtjkifdjjcfempaaDoor
end

section
namespace Go.Proofs.YtjkifdjjcfempaaDoor
open Go.RowKit Go Go.Sort
set_option linter.unusedVariables false
set_option maxRecDepth 20000

theorem good_step (l : List Grp) (k : Nat) (h : k < l.length) (s : List UInt8) (p : Int) (hg : l.getD k ([], 0) = (s, p)) :
    goodFrom (l.take k) (l.drop k) = if ¬ (nameS s = true ∧ (p = 1 ∨ p = 2)) then 2 else if (l.take k).any (fun h => h.1 == s) then 70 else goodFrom (l.take (k + 1)) (l.drop (k + 1)) := by
  have e : l[k] = (s, p) := by rw [← hg, List.getD_eq_getElem?_getD, List.getElem?_eq_getElem h]; rfl
  rw [List.drop_eq_getElem_cons h, e, List.take_succ_eq_append_getElem h, e]
  rfl
theorem any_step (l : List Grp) (j : Nat) (h : j < l.length) (s : List UInt8) : (l.take (j + 1)).any (fun h => h.1 == s) = ((l.take j).any (fun h => h.1 == s) || ((l.getD j ([], 0)).1 == s)) := by
  rw [List.take_succ_eq_append_getElem h, List.any_append, List.getD_eq_getElem?_getD, List.getElem?_eq_getElem h]
  simp
end Go.Proofs.YtjkifdjjcfempaaDoor
end

section
namespace Go.Proofs.YtjkifdjjcfempaaDoor
open Go.RowKit Go Go.Sort
set_option linter.unusedVariables false
set_option maxRecDepth 20000

def lowI (r : Int) : Bool := decide (97 ≤ r ∧ r ≤ 122)
theorem lowI_yes {r : Int} (h1 : 97 ≤ r) (h2 : r ≤ 122) : lowI r = true := decide_eq_true ⟨h1, h2⟩
theorem lowI_no {r : Int} (h : ¬ (97 ≤ r ∧ r ≤ 122)) : lowI r = false := decide_eq_false h
theorem isletter_c (r : Int) (w : World) : Calls Tryd.prog 45 #[.int .i32 r] w (fun e w' => e = .returned (.bool (lowI r)) ∧ w' = w) := by
  by_cases h1 : 97 ≤ r
  · by_cases h2 : r ≤ 122
    · have HR := Lib.hid (lowI_yes h1 h2)
      go_enter Tryd.func45, Tryd.ntmps45
      go_wp2
      go_ret
      exact ⟨by rw [HR.out]; rfl, rfl⟩
    · have HR := Lib.hid (lowI_no (r := r) (fun h => h2 h.2))
      go_enter Tryd.func45, Tryd.ntmps45
      go_wp2
      go_ret
      exact ⟨by rw [HR.out]; rfl, rfl⟩
  · have HR := Lib.hid (lowI_no (r := r) (fun h => h1 h.1))
    go_enter Tryd.func45, Tryd.ntmps45
    go_wp2
    go_ret
    exact ⟨by rw [HR.out]; rfl, rfl⟩
theorem text_get (s : List UInt8) (k : Nat) (h : k < s.length) (h2 : k < (text s).size) : (((text s)[k]'h2).toNat : Int) = by8 s k := by
  unfold by8
  rw [List.getD_eq_getElem?_getD, List.getElem?_eq_getElem h]
  rfl
/-- What an iterator over a text tells next: a sign below 128, or a rune that is none. -/
theorem next_sign (s : List UInt8) (pos : Nat) (h : pos < s.length) : (by8 s pos < 128 ∧ ∀ (W : World) (b : Nat), W.heap[b]? = some (.stringIter (text s) pos) → ∀ ty, (Instr.next (.pointer (some ⟨b, 0, none⟩)) true ty).run Tryd.prog W = .ok (.tuple #[.bool true, .int .i64 pos, .int .i32 (by8 s pos)]) (W.iterAt b (text s) (pos + 1))) ∨
    (128 ≤ by8 s pos ∧ ∃ r : Int, 128 ≤ r ∧ ∃ k : Nat, ∀ (W : World) (b : Nat), W.heap[b]? = some (.stringIter (text s) pos) → ∀ ty, (Instr.next (.pointer (some ⟨b, 0, none⟩)) true ty).run Tryd.prog W = .ok (.tuple #[.bool true, .int .i64 pos, .int .i32 r]) (W.iterAt b (text s) (pos + k))) := by
  have h2 : pos < (text s).size := by rw [text_len]; exact h
  have hg := text_get s pos h h2
  by_cases ha : ((text s)[pos]'h2).toNat < 128
  · left
    refine ⟨by omega, fun W b hb ty => ?_⟩
    rw [Lib.run_next_ascii_at W b (text s) pos ty hb h2 ha, hg]
  · right
    have hd := decode_high (text s) pos h2 (by omega)
    refine ⟨by omega, ((Utf8.decode (text s) pos).1 : Int), by omega, (Utf8.decode (text s) pos).2, fun W b hb ty => ?_⟩
    exact Lib.run_next_any_at W b (text s) pos ty hb h2
theorem next_end (s : List UInt8) (pos : Nat) (h : ¬ pos < s.length) (W : World) (b : Nat) (hb : W.heap[b]? = some (.stringIter (text s) pos)) : ∀ ty, (Instr.next (.pointer (some ⟨b, 0, none⟩)) true ty).run Tryd.prog W = .ok (.tuple #[.bool false]) W :=
  fun ty => Lib.run_next_end_at W b (text s) pos ty hb (by rw [text_len]; exact h)
set_option maxHeartbeats 1600000 in
theorem isname_c (s : List UInt8) (hmax : s.length ≤ 9223372036854775807) (w : World) : Calls Tryd.prog 30 #[.string (text s)] w (Tells (.bool (nameS s)) w) := by
  have hsz : ((text s).size : Int) = s.length := by rw [text_len]
  have HX := Lib.hid (fun k h => next_sign s k h)
  have HE := Lib.hid (fun k h => next_end s k h)
  have HN := Lib.hid (nameS_low s)
  have HA := Lib.hid (fun k h ha => name_all s k h ha)
  have hit0 := World.iter_heap w (text s) 0
  have hb0 : Below w.heap.size w (w.iter (text s) 0) := (Below.refl _ w).alloc (Nat.le_refl _) _
  obtain ⟨S, hS⟩ : ∃ S, text s = S := ⟨_, rfl⟩
  rw [hS] at hsz HX HE hit0 hb0 ⊢
  obtain ⟨L, hL⟩ : ∃ L, s.length = L := ⟨_, rfl⟩
  have HL := Lib.hid hL
  rw [hL] at hsz HN
  have hL2 : (L : Int) ≤ 9223372036854775807 := by omega
  have HI := Lib.hid hit0
  have HB := Lib.hid hb0
  clear hS hmax hL hit0 hb0
  by_cases hl1 : L < 1
  · have hi1 : (L : Int) < 1 := by omega
    go_enter Tryd.func30, Tryd.ntmps30
    go_wp2
    go_ret
    exact ⟨by rw [HN.out]; simp; omega, Below.refl _ _⟩
  · have hi1 : ¬ (L : Int) < 1 := by omega
    by_cases hl2 : 12 < L
    · have hi2 : (12 : Int) < (L : Int) := by omega
      go_enter Tryd.func30, Tryd.ntmps30
      go_wp2
      go_ret
      exact ⟨by rw [HN.out]; simp; omega, Below.refl _ _⟩
    · have hi2 : ¬ (12 : Int) < (L : Int) := by omega
      have HD := Lib.hid (decide_eq_true (show 1 ≤ L ∧ L ≤ 12 by omega))
      rw [HD.out, Bool.and_true] at HN
      clear HD hl1 hl2
      go_enter Tryd.func30, Tryd.ntmps30
      go_wp2
      go_loopg [] L (fun gf wr => ∃ pos : Nat, pos + gf = L ∧ wr.heap[w.heap.size]? = some (.stringIter S pos) ∧ (s.take pos).all lowB = true ∧ Below w.heap.size w wr)
      case atStart => exact ⟨0, by omega, HI.out, rfl, HB.out⟩
      case round =>
        obtain ⟨pos, hpg, hit, hall, hbw⟩ := hrel
        clear HI HB
        by_cases hlt : pos < L
        · obtain ⟨g', rfl⟩ : ∃ g', gk = g' + 1 := ⟨gk - 1, by omega⟩
          have hx := HX.out pos (by rw [HL.out]; exact hlt)
          have ha := HA.out pos (by rw [HL.out]; exact hlt) hall
          obtain ⟨c, hc⟩ : ∃ c, by8 s pos = c := ⟨_, rfl⟩
          rw [hc] at hx ha
          rcases hx with ⟨h1, h2⟩ | ⟨h1, r, hr, k, h2⟩
          · have hnx := h2 wr w.heap.size hit
            have hit2 := Lib.iterAt_heap wr w.heap.size S pos (pos + 1) hit
            have hbw2 := Lib.below_iterAt hbw (k := w.heap.size) (Nat.le_refl _) S (pos + 1)
            have HT2 := Lib.hid hit2
            have HB2 := Lib.hid hbw2
            have cL := isletter_c c
            rcases ha with ⟨h3, h4, h5⟩ | ⟨h3, h5⟩
            · rw [lowI_yes h3 h4] at cL
              have H5 := Lib.hid h5
              have HCL := Lib.hid cL
              clear h2 h5 hit2 hbw2 cL hall hc hit hbw hlt
              go_wp2_with (go_at_call 45; (with_reducible refine (HCL.out _).mono ?_); rintro e w1 ⟨rfl, rfl⟩)
              go_roundg g'
              case measure => omega
              case rel => exact ⟨pos + 1, by omega, HT2.out, H5.out, HB2.out⟩
            · rw [lowI_no (r := c) (by omega)] at cL
              have H5 := Lib.hid h5
              have HCL := Lib.hid cL
              clear h2 h5 hit2 hbw2 cL hall hc hit hbw hlt
              go_wp2_with (go_at_call 45; (with_reducible refine (HCL.out _).mono ?_); rintro e w1 ⟨rfl, rfl⟩)
              go_ret
              exact ⟨by rw [HN.out, H5.out]; rfl, HB2.out⟩
          · have hnx := h2 wr w.heap.size hit
            have hbw2 := Lib.below_iterAt hbw (k := w.heap.size) (Nat.le_refl _) S (pos + k)
            have HB2 := Lib.hid hbw2
            have cL := isletter_c r
            rw [lowI_no (r := r) (by omega)] at cL
            have H5 := Lib.hid (show s.all lowB = false by
              rcases ha with ⟨h3, h4, h5⟩ | ⟨h3, h5⟩
              · omega
              · exact h5)
            have HCL := Lib.hid cL
            clear h2 hbw2 cL hall hc hit hbw hlt ha h1
            go_wp2_with (go_at_call 45; (with_reducible refine (HCL.out _).mono ?_); rintro e w1 ⟨rfl, rfl⟩)
            go_ret
            exact ⟨by rw [HN.out, H5.out]; rfl, HB2.out⟩
        · have hnx := HE.out pos (by rw [HL.out]; exact hlt) wr w.heap.size hit
          have H5 := Lib.hid (show s.all lowB = true by rw [List.take_of_length_le (by rw [HL.out]; omega)] at hall; exact hall)
          have HB2 := Lib.hid hbw
          clear hall hit hbw hlt
          go_wp2
          go_ret
          exact ⟨by rw [HN.out, H5.out]; rfl, HB2.out⟩
/-- A policy's word; nothing for none. -/
def wordP (p : Int) : List UInt8 := if p = 1 then [108, 97, 115, 116] else if p = 2 then [100, 101, 108, 101, 116, 101] else []
theorem word_c (p : Int) (w : World) : Calls Tryd.prog 31 #[.int .i64 p] w (fun e w' => e = .returned (.string (text (wordP p))) ∧ w' = w) := by
  by_cases h1 : p = 1
  · subst h1
    go_enter Tryd.func31, Tryd.ntmps31
    go_wp2
    go_ret
    exact ⟨rfl, rfl⟩
  · by_cases h2 : p = 2
    · subst h2
      go_enter Tryd.func31, Tryd.ntmps31
      go_wp2
      go_ret
      exact ⟨rfl, rfl⟩
    · have HR := Lib.hid (show wordP p = [] by unfold wordP; rw [if_neg h1, if_neg h2])
      have k1 : (p == 1) = false := by simpa using h1
      have k2 : (p == 2) = false := by simpa using h2
      clear h1 h2
      go_enter Tryd.func31, Tryd.ntmps31
      go_wp2
      go_ret
      exact ⟨by rw [HR.out]; rfl, rfl⟩
theorem name_len {s : List UInt8} (h : nameS s = true) : 1 ≤ s.length ∧ s.length ≤ 12 := by
  rw [nameS_low] at h; simp at h; omega
end Go.Proofs.YtjkifdjjcfempaaDoor
end

section
namespace Go.Proofs.YtjkifdjjcfempaaDoor
open Go.RowKit Go Go.Sort Go.Maps Go.WideMaps
set_option linter.unusedVariables false
set_option maxRecDepth 20000

/-- A group that lies at a block's head. -/
def GrpAt (W : World) (g : Nat) (s : List UInt8) (p : Int) : Prop := W.heap[g]? = some (.cells #[.string (text s), .int .i64 p] 59 (0, 0))
theorem GrpAt.lt {W : World} {g : Nat} {s : List UInt8} {p : Int} (h : GrpAt W g s p) : g < W.heap.size := (Array.getElem?_eq_some_iff.1 h).1
theorem GrpAt.kept {W W' : World} {g : Nat} {s : List UInt8} {p : Int} (h : GrpAt W g s p) (hb : Below W.heap.size W W') : GrpAt W' g s p := (hb.block g h.lt).trans h
theorem GrpAt.c0 {W : World} {g : Nat} {s : List UInt8} {p : Int} (h : GrpAt W g s p) : W.cell? ⟨g, 0, none⟩ = some (.string (text s)) := by
  rw [cell_of_row W g 0 _ _ (0, 0) h]; rfl
theorem GrpAt.c1 {W : World} {g : Nat} {s : List UInt8} {p : Int} (h : GrpAt W g s p) : W.cell? ⟨g, 1, none⟩ = some (.int .i64 p) := by
  rw [cell_of_row W g 1 _ _ (0, 0) h]; rfl
theorem GrpAt.new (W : World) (s : List UInt8) (p : Int) : GrpAt (W.alloc (.cells #[.string (text s), .int .i64 p] 59)) W.heap.size s p := heap_alloc_new W _
theorem GrpAt.grown {W W' : World} {g B : Nat} {s : List UInt8} {p : Int} (h : GrpAt W g s p) (hg : W.grownBy W' (some B)) (hne : g ≠ B) : GrpAt W' g s p := (hg.block g h.lt (by simpa using hne)).trans h

theorem klaw : Keyed Tryd.prog 9 := string_keyed Tryd.underlying9
theorem zero3 (w : World) : (zeroValue 3).run Tryd.prog w = .ok (.int .i64 0) w := by kernel_rfl
theorem owns_below {w w' : World} {R : Value → Option (DataW Unit × List MemPlace)} {B k : Nat} {D : DataW Unit} (h : w.ownsMap Tryd.prog 9 R B k D) (hb : Below w.heap.size w w') : w'.ownsMap Tryd.prog 9 R B k D := by
  have hlt := h.lt
  obtain ⟨es, clock, h1, rest⟩ := h
  exact ⟨es, clock, (hb.block B hlt).trans h1, rest⟩
theorem keylit (s : List UInt8) : WideAt.IsKeyLit (.string s) := by simp [WideAt.IsKeyLit]
theorem key_text (s : List UInt8) (h : s.length ≤ 12) : keyOf Tryd.prog 9 (.string (text s)) = some (.string s) := by
  have := keyOf_string_mk (P := Tryd.prog) (s := text s) Tryd.underlying9 (by rw [text_len]; unfold maxLen; omega)
  rw [this]
  congr 2

/-- What a map tells of the names that were met. -/
def Counts (l : List Grp) (k : Nat) (D : DataW Unit) : Prop := IsMap D ∧ ∀ q : List UInt8, D.atKey (.string q) (.lit (.int .i64 0)) = .lit (.int .i64 (if (l.take k).any (fun h => h.1 == q) = true then 1 else 0))
theorem counts_none (l : List Grp) : Counts l 0 (.map []) := ⟨isMap_empty, fun q => rfl⟩
theorem counts_step {l : List Grp} {k : Nat} {D : DataW Unit} (h : Counts l k D) (hk : k < l.length) {s : List UInt8} {p : Int} (hg : l.getD k ([], 0) = (s, p)) (ha : (l.take k).any (fun h => h.1 == s) = false) : Counts l (k + 1) (D.put (.string s) (.lit (.int .i64 1))) := by
  refine ⟨h.1.put _ _, fun q => ?_⟩
  have hst := any_step l k hk q
  rw [hg] at hst
  by_cases e : q = s
  · subst e
    rw [atKey_put_same h.1 (keylit _), hst]
    simp
  · rw [atKey_put_other (by simpa using e), h.2 q, hst]
    have : (s == q) = false := by simpa using fun x => e x.symm
    rw [this, Bool.or_false]

set_option maxHeartbeats 3200000 in
theorem pgood_c {w : World} {a : Option Addr} {n cap : Nat} {l : List Grp} (hl : Grs w a n cap l) (hs : ∀ g ∈ l, g.1.length ≤ 9223372036854775807) :
    Calls Tryd.prog 19 #[.slice a n cap] w (Tells (.int .i64 (pgoodS l)) w) := by
  have hln := hl.len
  have hle := hl.le
  have hmx := hl.max
  have HL := Lib.hid hl
  have HV := Lib.hid (show pgoodS l = if l.length = 0 then 2 else if 4 < l.length then 3 else goodFrom [] l from rfl)
  rw [hln] at HV
  clear hl
  have hmm := @run_makeMap Tryd.prog
  by_cases h0 : n = 0
  · have hv : pgoodS l = 2 := by rw [HV.out, if_pos h0]
    rw [hv]
    subst h0
    clear hv HV
    go_enter Tryd.func19, Tryd.ntmps19
    go_wp2
    go_ret
    exact ⟨rfl, Below.refl _ _⟩
  · have e0 : ((n : Int) == 0) = false := by rw [beq_eq_false_iff_ne]; omega
    by_cases h4 : 4 < n
    · have hv : pgoodS l = 3 := by rw [HV.out, if_neg h0, if_pos h4]
      rw [hv]
      have h4i : (4 : Int) < (n : Int) := by omega
      clear hv HV h0
      go_enter Tryd.func19, Tryd.ntmps19
      go_wp2
      go_ret
      exact ⟨rfl, Below.refl _ _⟩
    · have h4i : ¬ (4 : Int) < (n : Int) := by omega
      have hv : pgoodS l = goodFrom (l.take 0) (l.drop 0) := by rw [HV.out, if_neg h0, if_neg h4]; rfl
      have HV2 := Lib.hid hv
      clear hv HV h0
      go_enter Tryd.func19, Tryd.ntmps19
      go_upto_region 7 with (fail)
      go_loopw [17] (fun i wr => ∃ k : Nat, k ≤ n ∧ i = .int .i64 k ∧ pgoodS l = goodFrom (l.take k) (l.drop k) ∧ (∃ D, wr.ownsMap Tryd.prog 9 (plainElem Tryd.prog 3) w.heap.size k D ∧ Counts l k D) ∧ Below w.heap.size w wr) (fun i _ => n - (intOf i).toNat)
      case atStart => exact ⟨0, by omega, rfl, HV2.out, ⟨_, World.ownsMap_made _ _ _ _, counts_none l⟩, (Below.refl _ _).alloc (Nat.le_refl _) _⟩
      case round =>
        clear HV2 hmm
        obtain ⟨k, hk, rfl, hv, ⟨D, hown, hcn⟩, hB⟩ := hrel
        by_cases hlt : k < n
        · have hki : (k : Int) < (n : Int) := by omega
          have hki2 : (k : Int) < (cap : Int) := by omega
          obtain ⟨b, off, rfl, hat⟩ := HL.out.at hlt
          obtain ⟨⟨s, p⟩, hg⟩ : ∃ g, l.getD k ([], 0) = g := ⟨_, rfl⟩
          have hstep := good_step l k (by omega) s p hg
          have hkl : k < l.length := by omega
          have HG := Lib.hid hg
          rw [hg] at hat
          have hsl : s.length ≤ 9223372036854775807 := by
            have : (s, p) ∈ l := by rw [← hg, List.getD_eq_getElem?_getD, List.getElem?_eq_getElem (by omega)]; exact List.getElem_mem _
            exact hs _ this
          have hN := isname_c s hsl
          have HW := Lib.hid (word_c p)
          obtain ⟨c0, c1⟩ := hat wr hB
          simp only at c0 c1
          have HST := Lib.hid hstep
          have HV3 := Lib.hid hv
          have HKL := Lib.hid hkl
          have HCN := Lib.hid hcn
          have hgn := GrpAt.new wr s p
          have hB1 := hB.alloc hB.size (.cells #[.string (text s), .int .i64 p] 59)
          have hown1 := hown.alloc (.cells #[.string (text s), .int .i64 p] 59)
          have hne : wr.heap.size ≠ w.heap.size := by have := hown.lt; omega
          have HNE := Lib.hid hne
          clear hat hstep hv hkl hg hcn hown hne
          go_upto_region 9 with (fail)
          clear c0 c1 hB
          obtain ⟨gb, hgb⟩ : ∃ q, wr.heap.size = q := ⟨_, rfl⟩
          rw [hgb] at hgn HNE ⊢
          generalize wr.alloc (.cells #[.string (text s), .int .i64 p] 59) = W1 at *
          have c0 := hgn.c0
          have c1 := hgn.c1
          have HGN := Lib.hid hgn
          have HB1 := Lib.hid hB1
          have HO1 := Lib.hid hown1
          clear hgn hB1 hown1 hgb hsl
          cases hn : nameS s with
          | false =>
            rw [hn] at hN
            have HN := Lib.hid hN
            have HR := Lib.hid (show pgoodS l = 2 by rw [HV3.out, HST.out, if_pos (by simp [hn])])
            clear hN hn
            go_wp2_with (go_at_call 30; (with_reducible refine (HN.out _).mono ?_); rintro e w1 ⟨rfl, hb1⟩)
            go_ret
            exact ⟨by rw [HR.out]; rfl, HB1.out.trans (hb1.mono HB1.out.size)⟩
          | true =>
            have hkey := key_text s (name_len hn).2
            rw [hn] at hN
            have HN := Lib.hid hN
            by_cases hp : p = 1 ∨ p = 2
            · have HR := Lib.hid (show pgoodS l = if (l.take k).any (fun h => h.1 == s) then 70 else goodFrom (l.take (k + 1)) (l.drop (k + 1)) by rw [HV3.out, HST.out, if_neg (by simp [hn, hp])])
              have hat0 := HCN.out.2 s
              have HAT := Lib.hid hat0
              have HKEY := Lib.hid hkey
              clear hN hn HV3 HST hat0 hkey
              have hwe : (text (wordP p)).toList.isEmpty = false := by rcases hp with rfl | rfl <;> (rw [text_list]; rfl)
              obtain ⟨wt, hwt⟩ : ∃ q, text (wordP p) = q := ⟨_, rfl⟩
              rw [hwt] at HW hwe
              clear hwt
              rcases hp with rfl | rfl
              all_goals
                go_upto_region 11 with (first
                  | (go_at_call 30; (with_reducible refine (HN.out _).mono ?_); rintro e w1 ⟨rfl, hb1⟩; have c1 := (HGN.out.kept hb1).c1)
                  | (go_at_call 31; (with_reducible refine (HW.out _).mono ?_); rintro e w2 ⟨rfl, rfl⟩))
                have hg1 := HGN.out.kept hb1
                have hB2 := HB1.out.trans (hb1.mono HB1.out.size)
                have hown2 := owns_below HO1.out hb1
                have c0 := hg1.c0
                obtain ⟨c, hrun, hat, hwc⟩ := hown2.lookup_int klaw Tryd.underlying68 Tryd.underlying3 (zero3 _) HKEY.out
                rw [HAT.out] at hat
                cases ha : (l.take k).any (fun h => h.1 == s) with
                | true =>
                  rw [ha, if_pos rfl] at hat
                  obtain rfl : 1 = c := by simpa using hat
                  rw [ha, if_pos rfl] at HR
                  have HG1 := Lib.hid hg1
                  have HB2 := Lib.hid hB2
                  have HOW2 := Lib.hid hown2
                  clear hat hwc ha hg1 hB2 hown2 hb1
                  go_upto_region 12 with (first
                    | (at_mapUpdate; refine wpList_mapUpdate_own _ rfl _ _ _ 68 rfl 9 3 klaw Tryd.underlying68 _ w.heap.size k _ rfl HOW2.out (by unfold maxLen; omega) _ _ _ rfl rfl HKEY.out (.lit (.int .i64 2)) [] (plainElem_int Tryd.underlying3 (by decide)) ?_; intro w3 hown3 hgrow3))
                  have hg3 := HG1.out.grown hgrow3 HNE.out
                  have d0 := hg3.c0
                  obtain ⟨c', hrun', hat', hwc'⟩ := hown3.lookup_int klaw Tryd.underlying68 Tryd.underlying3 (zero3 _) HKEY.out
                  rw [atKey_put_same HCN.out.1 (keylit _)] at hat'
                  obtain rfl : 2 = c' := by simpa using hat'
                  have HB3 := Lib.hid (HB2.out.grown hgrow3 HB2.out.size (fun j hj => by cases hj; exact Nat.le_refl _))
                  clear hat' hwc' hown3 hgrow3 hg3 hrun
                  go_wp2
                  go_ret
                  exact ⟨by rw [HR.out]; rfl, HB3.out⟩
                | false =>
                  rw [ha, if_neg (by simp)] at hat
                  obtain rfl : 0 = c := by simpa using hat
                  have HCN2 := Lib.hid (counts_step HCN.out HKL.out HG.out ha)
                  rw [ha, if_neg (by simp)] at HR
                  have HG1 := Lib.hid hg1
                  have HB2 := Lib.hid hB2
                  have HOW2 := Lib.hid hown2
                  clear hat hwc ha hg1 hB2 hown2 hb1
                  go_upto_region 12 with (first
                    | (at_mapUpdate; refine wpList_mapUpdate_own _ rfl _ _ _ 68 rfl 9 3 klaw Tryd.underlying68 _ w.heap.size k _ rfl HOW2.out (by unfold maxLen; omega) _ _ _ rfl rfl HKEY.out (.lit (.int .i64 1)) [] (plainElem_int Tryd.underlying3 (by decide)) ?_; intro w3 hown3 hgrow3))
                  have hg3 := HG1.out.grown hgrow3 HNE.out
                  have d0 := hg3.c0
                  obtain ⟨c', hrun', hat', hwc'⟩ := hown3.lookup_int klaw Tryd.underlying68 Tryd.underlying3 (zero3 _) HKEY.out
                  rw [atKey_put_same HCN.out.1 (keylit _)] at hat'
                  obtain rfl : 1 = c' := by simpa using hat'
                  have HB3 := Lib.hid (HB2.out.grown hgrow3 HB2.out.size (fun j hj => by cases hj; exact Nat.le_refl _))
                  have HO3 := Lib.hid hown3
                  clear hat' hwc' hown3 hgrow3 hg3 hrun
                  go_wp2
                  go_roundw
                  case rel => exact ⟨k + 1, by omega, rfl, HR.out, ⟨_, HO3.out, HCN2.out⟩, HB3.out⟩
                  case measure => simp [intOf]; omega
            · have HR := Lib.hid (show pgoodS l = 2 by rw [HV3.out, HST.out, if_pos (by simp [hp])])
              have hw0 : wordP p = [] := by unfold wordP; rw [if_neg (fun h => hp (.inl h)), if_neg (fun h => hp (.inr h))]
              have hwe : (text ([] : List UInt8)).toList.isEmpty = true := by rw [text_list]; rfl
              rw [hw0] at HW
              obtain ⟨wt, hwt⟩ : ∃ q, text ([] : List UInt8) = q := ⟨_, rfl⟩
              rw [hwt] at HW hwe
              clear hN hn hp hkey hw0 hwt
              go_wp2_with (first
                | (go_at_call 30; (with_reducible refine (HN.out _).mono ?_); rintro e w1 ⟨rfl, hb1⟩; have c1 := (HGN.out.kept hb1).c1)
                | (go_at_call 31; (with_reducible refine (HW.out _).mono ?_); rintro e w2 ⟨rfl, rfl⟩))
              go_ret
              exact ⟨by rw [HR.out]; rfl, HB1.out.trans (hb1.mono HB1.out.size)⟩
        · obtain rfl : k = n := by omega
          have HR := Lib.hid (show pgoodS l = 0 by rw [hv, List.drop_of_length_le (by omega)]; rfl)
          have HB := Lib.hid hB
          clear hv hB hown hcn
          go_wp2
          go_ret
          exact ⟨by rw [HR.out]; rfl, HB.out⟩
end Go.Proofs.YtjkifdjjcfempaaDoor
end

section
namespace Go.Proofs.YtjkifdjjcfempaaDoor
open Go.RowKit
set_option linter.unusedVariables false

/-- WHAT THE WALK IS TOLD OF A SLICE OF INTEGERS THAT CAME IN: it is nil; or it leads to a row of 'cap' cells, the numbers 'zs' (the first 'len' are its elements, the rest its spare room), each fitting its kind. -/
def IsRow (k : IntKind) (w : World) (a : Option Addr) (len cap : Nat) (zs : List Int) : Prop :=
  (a = none ∧ len = 0 ∧ cap = 0 ∧ zs = []) ∨
  ∃ x, a = some x ∧ len ≤ cap ∧ cap ≤ maxLen ∧ zs.length = cap ∧ (∀ i, i < zs.length → w.cell? (x.add i) = some (.int k (zs.getD i 0))) ∧ ∀ n ∈ zs, (Lit.int k n).wf = true

theorem u8_of_wf {n : Int} (h : (Lit.int .u8 n).wf = true) : 0 ≤ n ∧ n ≤ 255 := by
  simpa [Lit.wf, IntKind.min, IntKind.max, IntKind.signed, IntKind.bits] using h

theorem i64_of_wf {n : Int} (h : (Lit.int .i64 n).wf = true) : -9223372036854775808 ≤ n ∧ n ≤ 9223372036854775807 := by
  simpa [Lit.wf, IntKind.min, IntKind.max, IntKind.signed, IntKind.bits] using h

theorem IsRow.bys {w : World} {a : Option Addr} {n cap : Nat} {zs : List Int} (h : IsRow .u8 w a n cap zs) : ∃ l, Bys w a n cap l := by
  rcases h with ⟨rfl, rfl, rfl, rfl⟩ | ⟨x, rfl, hl, hm, hz, hcell, hwz⟩
  · exact ⟨[], rfl, Nat.le_refl _, by omega, .inl rfl⟩
  · refine ⟨(zs.take n).map (fun z => UInt8.ofNat z.toNat), by simp; omega, hl, by unfold maxLen at hm; omega, ?_⟩
    by_cases hc : cap = 0
    · exact .inl hc
    · right
      obtain ⟨b, off, spot⟩ := x
      have h0 := hcell 0 (by omega)
      have hspot : spot = none := by simpa [Addr.add] using World.cell?_spot h0
      subst hspot
      refine ⟨b, off, rfl, fun i hi => ?_⟩
      have hi' : i < zs.length := by omega
      have := hcell i hi'
      have hw := u8_of_wf (hwz (zs.getD i 0) (by rw [List.getD_eq_getElem?_getD, List.getElem?_eq_getElem hi']; exact List.getElem_mem hi'))
      have e : by8 ((zs.take n).map (fun z => UInt8.ofNat z.toNat)) i = zs.getD i 0 := by
        unfold by8
        have hq : zs.getD i 0 = zs[i] := by simp [List.getD, hi']
        rw [hq] at hw ⊢
        simp [List.getD, hi, hi']
        omega
      rw [e]
      have ea : (⟨b, off, none⟩ : Addr).add i = ⟨b, off + i, none⟩ := by
        by_cases h0 : i = 0
        · subst h0; rfl
        · simp [Addr.add, h0]
      rw [← ea]; exact this

end Go.Proofs.YtjkifdjjcfempaaDoor
end

section
namespace Go.Proofs.YtjkifdjjcfempaaDoor
open Go.RowKit Go Go.Sort Go.Deep
set_option linter.unusedVariables false
set_option maxRecDepth 20000

def sless (n s m t : Int) : Bool := decide (n < m ∨ (n = m ∧ s < t))
end Go.Proofs.YtjkifdjjcfempaaDoor
end

section
namespace Go.Proofs.YtjkifdjjcfempaaDoor
open Go.RowKit Go Go.Sort
set_option linter.unusedVariables false
set_option maxRecDepth 20000

/-- A comparison that is strict, and tells of any two which stands ahead. -/
structure Strict {α : Type} (r : α → α → Bool) : Prop where
  irr : ∀ a, r a a = false
  tr : ∀ a b c, r a b = true → r b c = true → r a c = true
  tot : ∀ a b, r a b = false → r b a = false → a = b
theorem Strict.asym {α : Type} {r : α → α → Bool} (h : Strict r) {a b : α} (hab : r a b = true) : r b a = false := by
  cases hb : r b a with
  | false => rfl
  | true =>
    have := h.tr _ _ _ hab hb
    rw [h.irr] at this
    cases this
def lexR {α β : Type} [DecidableEq α] (r : α → α → Bool) (s : β → β → Bool) (x y : α × β) : Bool := if x.1 = y.1 then s x.2 y.2 else r x.1 y.1
theorem Strict.lex {α β : Type} [DecidableEq α] {r : α → α → Bool} {s : β → β → Bool} (hr : Strict r) (hs : Strict s) : Strict (lexR r s) := by
  refine ⟨fun a => ?_, fun a b c h1 h2 => ?_, fun a b h1 h2 => ?_⟩
  · unfold lexR
    rw [if_pos rfl]
    exact hs.irr _
  · unfold lexR at h1 h2 ⊢
    by_cases e1 : a.1 = b.1
    · rw [if_pos e1] at h1
      by_cases e2 : b.1 = c.1
      · rw [if_pos e2] at h2
        rw [if_pos (e1.trans e2)]
        exact hs.tr _ _ _ h1 h2
      · rw [if_neg e2] at h2
        rw [if_neg (by rw [e1]; exact e2), e1]
        exact h2
    · rw [if_neg e1] at h1
      by_cases e2 : b.1 = c.1
      · rw [if_neg (by rw [← e2]; exact e1), ← e2]
        exact h1
      · rw [if_neg e2] at h2
        have h3 := hr.tr _ _ _ h1 h2
        rw [if_neg (fun e => by rw [e, hr.irr] at h3; cases h3)]
        exact h3
  · unfold lexR at h1 h2
    by_cases e1 : a.1 = b.1
    · rw [if_pos e1] at h1
      rw [if_pos e1.symm] at h2
      exact Prod.ext e1 (hs.tot _ _ h1 h2)
    · rw [if_neg e1] at h1
      rw [if_neg (fun e => e1 e.symm)] at h2
      exact absurd (hr.tot _ _ h1 h2) e1
def ltI (a b : Int) : Bool := decide (a < b)
theorem strictI : Strict ltI := ⟨fun a => by simp [ltI], fun a b c h1 h2 => by simp [ltI] at *; omega, fun a b h1 h2 => by simp [ltI] at *; omega⟩
def ltB (a b : Bool) : Bool := !a && b
theorem strictB : Strict ltB := ⟨by decide, by decide, by decide⟩
theorem strictT : Strict Op.bytesLess := by
  have hi : ∀ a, Op.bytesLess a a = false := by
    intro a
    induction a with
    | nil => rfl
    | cons x l ih => simp [Op.bytesLess, ih]
  refine ⟨hi, ?_,?_⟩
  · intro a
    induction a with
    | nil =>
      intro b c h1 h2
      cases b with
      | nil => simp [Op.bytesLess] at h1
      | cons y m =>
        cases c with
        | nil => simp [Op.bytesLess] at h2
        | cons z k => rfl
    | cons x l ih =>
      intro b c h1 h2
      cases b with
      | nil => simp [Op.bytesLess] at h1
      | cons y m =>
        cases c with
        | nil => simp [Op.bytesLess] at h2
        | cons z k =>
          simp only [Op.bytesLess, Bool.or_eq_true, Bool.and_eq_true, decide_eq_true_eq, beq_iff_eq] at h1 h2 ⊢
          rcases h1 with h1 | ⟨rfl, h1⟩
          · rcases h2 with h2 | ⟨rfl, h2⟩
            · left; exact UInt8.lt_trans h1 h2
            · left; exact h1
          · rcases h2 with h2 | ⟨rfl, h2⟩
            · left; exact h2
            · right; exact ⟨rfl, ih _ _ h1 h2⟩
  · intro a
    induction a with
    | nil =>
      intro b h1 h2
      cases b with
      | nil => rfl
      | cons y m => simp [Op.bytesLess] at h1
    | cons x l ih =>
      intro b h1 h2
      cases b with
      | nil => simp [Op.bytesLess] at h2
      | cons y m =>
        simp only [Op.bytesLess, Bool.or_eq_false_iff, Bool.and_eq_false_iff, decide_eq_false_iff_not, beq_eq_false_iff_ne] at h1 h2
        obtain ⟨a1, a2⟩ := h1
        obtain ⟨b1, b2⟩ := h2
        have e : x = y := UInt8.le_antisymm (UInt8.not_lt.1 b1) (UInt8.not_lt.1 a1)
        subst e
        rcases a2 with a2 | a2
        · exact absurd rfl a2
        · rcases b2 with b2 | b2
          · exact absurd rfl b2
          · rw [ih _ a2 b2]

abbrev Key := (Int × Int) × Bool × List UInt8 × Int × Int
def lessK : Key → Key → Bool := lexR (lexR ltI ltI) (lexR ltB (lexR Op.bytesLess (lexR ltI ltI)))
theorem strictK : Strict lessK := (strictI.lex strictI).lex (strictB.lex (strictT.lex (strictI.lex strictI)))
def Cl.key (c : Cl) : Key := ((c.n, c.s), c.g, c.t, c.a, c.b)

/-- Whether a write stands ahead of another one. -/
def lessS (a b : Cl) : Bool :=
  if ((a.n == b.n) && (a.s == b.s)) = false then sless a.n a.s b.n b.s
  else if (a.g == b.g) = false then b.g
  else if (a.t == b.t) = false then Op.bytesLess a.t b.t
  else if (a.a == b.a) = false then decide (a.a < b.a)
  else decide (a.b < b.b)
theorem sless_lex (n s m t : Int) : sless n s m t = lexR ltI ltI (n, s) (m, t) := by
  unfold sless lexR ltI
  simp only
  by_cases e : n = m
  · subst e; simp
  · simp [e]
theorem less_key (a b : Cl) : lessS a b = lessK a.key b.key := by
  unfold lessS lessK Cl.key
  rw [lexR]
  simp only [Prod.mk.injEq]
  by_cases e1 : a.n = b.n ∧ a.s = b.s
  · rw [if_pos e1, if_neg (by simp [e1.1, e1.2]), lexR]
    simp only
    by_cases e2 : a.g = b.g
    · rw [if_pos e2, if_neg (by simp [e2]), lexR]
      simp only
      by_cases e3 : a.t = b.t
      · rw [if_pos e3, if_neg (by simp [e3]), lexR]
        simp only
        by_cases e4 : a.a = b.a
        · rw [if_pos e4, if_neg (by simp [e4])]; rfl
        · rw [if_neg e4, if_pos (by simpa using e4)]; rfl
      · rw [if_neg e3, if_pos (by simpa using e3)]
    · rw [if_neg e2, if_pos (by simpa using e2)]
      unfold ltB
      revert e2
      cases a.g <;> cases b.g <;> simp
  · rw [if_neg e1, if_pos (by rw [Bool.eq_false_iff]; simpa using e1), sless_lex]

theorem Cl.ext' {a b : Cl} (h : a.key = b.key) (hd : a.d = b.d) (he : a.e = b.e) : a = b := by
  obtain ⟨n, s, x, y, g, t, d, e⟩ := a
  obtain ⟨n', s', x', y', g', t', d', e'⟩ := b
  simp [Cl.key] at h hd he ⊢
  obtain ⟨⟨h1, h2⟩, h3, h4, h5, h6⟩ := h
  exact ⟨h1, h2, h5, h6, h3, h4, hd, he⟩
/-- The join of two. -/
def deadJ (a b : Cl) : Int × Int := joinS [(a.d, a.e), (b.d, b.e)]
def twoS (a b : Cl) : Cl := { (if lessS a b = true then b else a) with d := (deadJ a b).1, e := (deadJ a b).2 }
theorem two_d (a b : Cl) : (twoS a b).d = max (max 0 a.d) b.d := rfl
theorem two_e (a b : Cl) : (twoS a b).e = max (max 0 a.e) b.e := rfl
theorem two_key (a b : Cl) : (twoS a b).key = if lessS a b = true then b.key else a.key := by unfold twoS; split <;> rfl
/-- The greatest of two writes. -/
def maxK (x y : Key) : Key := if lessK x y = true then y else x
theorem maxK_comm (x y : Key) : maxK x y = maxK y x := by
  unfold maxK
  cases h1 : lessK x y with
  | true => rw [strictK.asym h1]; rfl
  | false =>
    cases h2 : lessK y x with
    | true => rfl
    | false => exact strictK.tot _ _ h1 h2
theorem maxK_assoc (x y z : Key) : maxK (maxK x y) z = maxK x (maxK y z) := by
  unfold maxK
  cases h1 : lessK x y with
  | true =>
    cases h2 : lessK y z with
    | true => simp [h2, strictK.tr _ _ _ h1 h2]
    | false => simp [h1, h2]
  | false =>
    cases h2 : lessK y z with
    | true => simp
    | false =>
      simp [h1]
      cases h3 : lessK x z with
      | false => simp
      | true =>
        exfalso
        cases h4 : lessK y x with
        | true =>
          have := strictK.tr _ _ _ h4 h3
          rw [h2] at this; cases this
        | false =>
          rw [strictK.tot _ _ h1 h4] at h3
          rw [h2] at h3; cases h3
theorem maxK_self (x : Key) : maxK x x = x := by unfold maxK; simp
theorem two_keyM (a b : Cl) : (twoS a b).key = maxK a.key b.key := by rw [two_key, less_key]; rfl
theorem two_comm (a b : Cl) : twoS a b = twoS b a := by
  refine Cl.ext' ?_ ?_ ?_
  · rw [two_keyM, two_keyM, maxK_comm]
  · rw [two_d, two_d]; omega
  · rw [two_e, two_e]; omega
theorem two_assoc (a b c : Cl) : twoS (twoS a b) c = twoS a (twoS b c) := by
  refine Cl.ext' ?_ ?_ ?_
  · rw [two_keyM, two_keyM, two_keyM, two_keyM, maxK_assoc]
  · rw [two_d, two_d, two_d, two_d]; omega
  · rw [two_e, two_e, two_e, two_e]; omega

/-- What of a cell is asked so that no write adds nothing to it. -/
structure Cl.Up (c : Cl) : Prop where
  key : maxK Cl.zero.key c.key = c.key
  d : 0 ≤ c.d
  e : 0 ≤ c.e
theorem up_zero : Cl.zero.Up := ⟨maxK_self _, by decide, by decide⟩
theorem Cl.Up.two {a b : Cl} (ha : a.Up) (hb : b.Up) : (twoS a b).Up := by
  refine ⟨?_,?_,?_⟩
  · rw [two_keyM, ← maxK_assoc, ha.key]
  · rw [two_d]; omega
  · rw [two_e]; omega
theorem two_zero {a : Cl} (h : a.Up) : twoS Cl.zero a = a := by
  have h1 := h.d
  have h2 := h.e
  refine Cl.ext' ?_ ?_ ?_
  · rw [two_keyM, h.key]
  · rw [two_d, show Cl.zero.d = 0 from rfl]; omega
  · rw [two_e, show Cl.zero.e = 0 from rfl]; omega
theorem two_self {a : Cl} (h : a.Up) : twoS a a = a := by
  have h1 := h.d
  have h2 := h.e
  refine Cl.ext' ?_ ?_ ?_
  · rw [two_keyM, maxK_self]
  · rw [two_d]; omega
  · rw [two_e]; omega

/-- The join of any number. -/
def joinC (l : List Cl) : Cl := l.foldl twoS Cl.zero
theorem join_two {a b : Cl} (h : a.Up) : joinC [a, b] = twoS a b := by
  show twoS (twoS Cl.zero a) b = _
  rw [two_zero h]
theorem join_upAll (l : List Cl) : (joinC l).Up := by
  have : ∀ (l : List Cl) (b : Cl), b.Up → (l.foldl twoS b).Up := by
    intro l
    induction l with
    | nil => intro b hb; exact hb
    | cons c l ih =>
      intro b hb
      refine ih _ ⟨?_,?_,?_⟩
      · rw [two_keyM, ← maxK_assoc, hb.key]
      · rw [two_d]; omega
      · rw [two_e]; omega
  exact this l _ up_zero
/-- Whether two cells are the very same. -/
def sameC (x y : Cl) : Bool := cellEq x.n x.s x.a x.b x.g x.t x.d x.e y.n y.s y.a y.b y.g y.t y.d y.e
theorem same_iff (x y : Cl) : sameC x y = true ↔ x = y := by
  obtain ⟨n, s, a, b, g, t, d, e⟩ := x
  obtain ⟨n', s', a', b', g', t', d', e'⟩ := y
  unfold sameC cellEq
  simp [and_assoc]
/-- Whether a cell adds nothing to another one. -/
def withinS (a b : Cl) : Bool := sameC (joinC [a, b]) b
theorem within_iff {a b : Cl} (h : a.Up) : withinS a b = true ↔ twoS a b = b := by
  unfold withinS
  rw [same_iff, join_two h]
end Go.Proofs.YtjkifdjjcfempaaDoor
end

section
namespace Go.Proofs.YtjkifdjjcfempaaDoor
open Go.RowKit Go
set_option linter.unusedVariables false
variable {F : Fence} {n : Nat} {P : Program}

/-- What a round tells the iterator. -/
def TellsR {α : Type} (Kp : World → World → Prop) (G : α → Prop) (J Jx : List α → World → Prop) (pre : List α) (x : α) (W : World) (e : Ending) (W' : World) : Prop :=
  (e = .returned (.bool true) ∧ J (pre ++ [x]) W' ∧ Kp W W' ∧ G x) ∨ (e = .returned (.bool false) ∧ Jx (pre ++ [x]) W' ∧ Kp W W')

/-- What abides an iterator's steps: it turns walks, and cells of type T, that were laid since it began. -/
def AbidesC {β : Type} (B : Nat) (T : TypeId) (J : β → World → Prop) : Prop :=
  ∀ s W W' row, J s W → W.grownBy W' row → (∀ r, row = some r → B ≤ r ∧ ∃ o : Obj, W.heap[r]? = some o ∧ (o.isWalk = true ∨ ∃ cs fr, o = .cells cs T fr)) → J s W'
def OwnT {β : Type} (B : Nat) (T : TypeId) (I : β → World → Prop) : Prop :=
  ∀ s W W' row, I s W → W.grownBy W' row → (∀ r, row = some r → B ≤ r ∧ ∃ o : Obj, W.heap[r]? = some o ∧ (o.isCells = false ∨ ∃ cs fr, o = .cells cs T fr)) → I s W'
theorem OwnT.from {β : Type} {B : Nat} {T : TypeId} {I : β → World → Prop} (h : OwnT B T I) : OwnFrom B I :=
  fun s W W' row hs hg hr => h s W W' row hs hg (fun r e => by obtain ⟨hB, o, ho, hc⟩ := hr r e; exact ⟨hB, o, ho, .inl hc⟩)
/-- The iterator's word. -/
def SeqTells {α : Type} (F : Fence) (n : Nat) (P : Program) (T : TypeId) (g : Nat) (lb : Array Value) (encs : α → Array Value) (Kp : World → World → Prop) (Qx : List α → α → Prop) (G : α → Prop) (S Sp : List α → World → Prop) (w : World) : Prop :=
  ∀ (l : Nat) (J Jx : List α → World → Prop) (W : World), Below w.heap.size w W → AbidesC W.heap.size T J →
    (∀ pre x W1, J pre W1 → Qx pre x → YieldAt F (n - 1) P l (encs x) W1 (TellsR Kp G J Jx pre x W1)) → J [] W →
    CallsIn F n P g (#[.func (.yield l) #[] #[]] ++ lb) W fun e W' => (∃ v, e = .returned v) ∧ ((∃ xs, S xs W' ∧ J xs W') ∨ (∃ pre, Sp pre W' ∧ Jx pre W'))

/-- How the body of a round may be left. -/
def RoundPost {α : Type} (B : Nat) (Kp : World → World → Prop) (G : α → Prop) (I : List α → World → Prop) (Ix : Code → List α → World → Prop) (pre : List α) (x : α) (W : World) : Exit → Act → World → Prop
  | .normal, _, W' => KeepsFrom B W W' ∧ Kp W W' ∧ G x ∧ I (pre ++ [x]) W'
  | .ret, _, W' => KeepsFrom B W W' ∧ Kp W W' ∧ Ix .ret (pre ++ [x]) W'
  | .exit id, _, W' => KeepsFrom B W W' ∧ Kp W W' ∧ Ix (.exit id) (pre ++ [x]) W'
  | .goto t, _, W' => KeepsFrom B W W' ∧ Kp W W' ∧ Ix (.goto t) (pre ++ [x]) W'
  | .panic _, _, _ => False
  | .outgrown, _, _ => False

theorem wpIn_range_tells {α : Type} {g : Operand} {ps : Array Tmp} {assign body : Code} {Q : Exit → Act → World → Prop} {a : Act} {w : World}
    (hro : F.round = none) (h1 : 1 ≤ n) {gf : Nat} {lb : Array Value} (hg : a.eval g = .func (.func gf) #[] lb) (hFg : F.fn gf) (eg : ∀ args w, (callFunc gf args).run P w = .ok (.enter gf args) w)
    {encs : α → Array Value} {Kp : World → World → Prop} {Qx : List α → α → Prop} {G : α → Prop} {S Sp : List α → World → Prop} {T : TypeId} (hseq : SeqTells F (n - 1) P T gf lb encs Kp Qx G S Sp w)
    (hKt : ∀ {A B C : World}, Kp A B → Kp B C → Kp A C) (hKb : ∀ (W : World) (l : Nat) (o o' : Obj), w.heap.size ≤ l → W.heap[l]? = some o → o.isCells = false → o.isWalk = false → Kp W (W.putObj l o'))
    (hS : OwnFrom w.heap.size S) (hSp : OwnFrom w.heap.size Sp) (hps : ∀ x, (encs x).size = ps.size)
    (I : List α → World → Prop) (Ix : Code → List α → World → Prop) (hI : OwnT w.heap.size T I) (hIx : ∀ c, OwnFrom w.heap.size (Ix c)) (h0 : I [] w) (Ax : α → Act → World → Prop) (hAx : ∀ x a', OwnFrom w.heap.size (fun (_ : Unit) W => Ax x a' W))
    (hassign : ∀ (l : Nat) (pre : List α) (x : α) (W : World) (K : Act → World → Prop), I pre W → Qx pre x → (∀ a' W', KeepsFrom w.heap.size W W' → Kp W W' → I pre W' → Ax x a' W' → K a' W') →
      assign.wpIn (F.inRound l) (n - 1 - 1) P (Exit.then K (fun _ _ _ => False)) { tmps := (ps.zip (encs x)).foldl (fun t (p, v) => t.setIfInBounds p v) a.tmps, defers := [] } W)
    (hbody : ∀ (l : Nat) (pre : List α) (x : α) (a' : Act) (W : World), I pre W → Ax x a' W → Qx pre x → body.wpIn (F.inRound l) (n - 1 - 1) P (RoundPost w.heap.size Kp G I Ix pre x W) a' W)
    (hdone : ∀ (D : Nat) (xs : List α) (W : World), w.heap.size ≤ D → S xs W → I xs W → W.heap[D]? = some (.deferred (some [])) → Q .normal { a with defers := { target := .collected D, args := #[] } :: a.defers } W)
    (hstop : ∀ (D : Nat) (c : Code) (pre : List α) (W : World), w.heap.size ≤ D → Sp pre W → Ix c pre W → W.heap[D]? = some (.deferred (some [])) → c.wpIn F n P Q { a with defers := { target := .collected D, args := #[] } :: a.defers } W) :
    (Code.rangeFunc g ps assign body).wpIn F n P Q a w := by
  refine wpIn_rangeFunc fun fn hfn => ?_
  rw [hro]
  obtain ⟨rec, hrec⟩ : ∃ rec : LoopState → Option Code → Loop, rec = fun st pe => { state := st, pending := pe, fn, tmps := a.tmps, params := ps, assign, body, defers := w.heap.size } := ⟨_, rfl⟩
  obtain ⟨W1, hW1⟩ : ∃ W1, (w.alloc (.deferred (some []))).alloc (.loop (rec .ready none)) = W1 := ⟨_, rfl⟩
  have hL1 : W1.heap[w.heap.size + 1]? = some (.loop (rec .ready none)) := by
    rw [← hW1]; have := World.alloc_heap_new (w.alloc (.deferred (some []))) (.loop (rec .ready none)); rwa [World.size_alloc] at this
  have hK1 : W1.heap[w.heap.size]? = some (.deferred (some [])) := by
    rw [← hW1]; exact (Below.heap_alloc _ _ _ (by simp)).trans (World.alloc_heap_new w _)
  have hI1 : I [] W1 := by rw [← hW1]; exact hI.from.alloc _ (hI.from.alloc _ h0)
  have hb1 : Below w.heap.size w W1 := by
    rw [← hW1]; exact ((Below.refl _ w).alloc (Nat.le_refl _) _).alloc (by simp) _
  refine ⟨w.heap.size + 1, [{ target := .collected w.heap.size, args := #[] }], W1, { target := .fn (.func gf) lb, args := #[.func (.yield (w.heap.size + 1)) #[] #[]] }, W1, gf,
    #[.func (.yield (w.heap.size + 1)) #[] #[]] ++ lb, W1, ?_,?_,?_,?_, fun _ => h1, ?_⟩
  · rw [← hW1, hrec]; exact run_enterLoop_outer _ _ _ _ _
  · simp only [resolve, hg]
    simp [go_sem]
  · intro f' hf'; simp [Target.leads] at hf'; subst hf'; exact hFg
  · simp [invoke, go_sem, eg]
  have hnw : ∀ {A B : World} {row : Option Nat}, (∀ r, row = some r → W1.heap.size ≤ r ∧ ∃ o : Obj, A.heap[r]? = some o ∧ (o.isWalk = true ∨ ∃ cs fr, o = .cells cs T fr)) → (∀ r, row = some r → w.heap.size ≤ r ∧ ∃ o : Obj, A.heap[r]? = some o ∧ (o.isCells = false ∨ ∃ cs fr, o = .cells cs T fr)) :=
    fun hr r e => by obtain ⟨hB, o, ho, hw⟩ := hr r e; exact ⟨by have := hb1.size; omega, o, ho, hw.imp_left Obj.not_cells_of_walk⟩
  have hloop : ∀ {A B : World} {row : Option Nat} {k : Nat} {o : Obj}, A.grownBy B row → (∀ r, row = some r → W1.heap.size ≤ r ∧ ∃ o : Obj, A.heap[r]? = some o ∧ (o.isWalk = true ∨ ∃ cs fr, o = .cells cs T fr)) → A.heap[k]? = some o → o.isWalk = false → o.isCells = false → B.heap[k]? = some o :=
    fun hg hr hk h1 h2 => (hg.block _ (Array.getElem?_eq_some_iff.1 hk).1 (fun e => by
      obtain ⟨_, o', ho, hc⟩ := hr _ e.symm
      rw [hk] at ho
      cases ho
      rcases hc with hc | ⟨cs, fr, hc⟩
      · rw [hc] at h1; cases h1
      · rw [hc] at h2; cases h2)).trans hk
  refine (hseq (w.heap.size + 1)
    (fun pre W => I pre W ∧ W.heap[w.heap.size + 1]? = some (.loop (rec .ready none)) ∧ W.heap[w.heap.size]? = some (.deferred (some [])))
    (fun pre W => ∃ c, Ix c pre W ∧ W.heap[w.heap.size + 1]? = some (.loop (rec .done (some c))) ∧ W.heap[w.heap.size]? = some (.deferred (some [])))
    W1 hb1
    (fun s A B row hs hg' hr => ⟨hI s A B row hs.1 hg' (hnw (B := B) hr), hloop hg' hr hs.2.1 rfl rfl, hloop hg' hr hs.2.2 rfl rfl⟩)
    ?_ ⟨hI1, hL1, hK1⟩).mono ?_
  · -- one round
    rintro pre x W ⟨hi, hl, hk⟩ hqx
    have hy := run_yield (P := P) (args := encs x) hl (by rw [hrec]; exact hps x)
    rw [hrec] at hy
    refine ⟨fn, _, assign, body, hy, roundIn_of_wpIn hfn (hassign _ pre x W _ hi hqx ?_)⟩
    clear hy
    intro a' Wa hkfa hkpa hia hax
    have hla := hkfa.same _ _ (by omega) hl rfl
    have hka := hkfa.same _ _ (Nat.le_refl _) hk rfl
    have hlt : w.heap.size + 1 < Wa.heap.size := (Array.getElem?_eq_some_iff.1 hla).1
    refine ⟨_, run_beginRound hla (by rw [hrec]), ?_⟩
    obtain ⟨Wb, hWb⟩ : ∃ Wb, Wa.putObj (w.heap.size + 1) (.loop { rec .ready none with state := .busy }) = Wb := ⟨_, rfl⟩
    have hlb : Wb.heap[w.heap.size + 1]? = some (.loop { rec .ready none with state := .busy }) := by rw [← hWb]; exact World.putObj_heap_same hlt
    have hkb : Wb.heap[w.heap.size]? = some (.deferred (some [])) := by rw [← hWb]; exact (World.putObj_heap_other (by omega)).trans hka
    have hwb : Kp W Wb := hKt hkpa (by rw [← hWb]; exact hKb _ _ _ _ (by omega) hla rfl rfl)
    have hib : I pre Wb := by rw [← hWb]; exact hI.from.putObj _ hia (by omega) hla rfl
    have hab : Ax x a' Wb := by rw [← hWb]; exact (hAx x a').putObj (s := ()) _ hax (by omega) hla rfl
    rw [hWb]
    refine wpIn_mono (hbody _ pre x a' Wb hib hab hqx) ?_
    have fin : ∀ (jump : Option Code) (W3 : World), KeepsFrom w.heap.size Wb W3 → Kp Wb W3 →
        ∃ W4, (Instr.endRound (w.heap.size + 1) jump).run P W3 = .ok (.bool jump.isNone) W4 ∧ W4 = W3.putObj (w.heap.size + 1) (.loop (rec (if jump.isNone then .ready else .done) jump)) ∧
        W3.heap[w.heap.size + 1]? = some (.loop { rec .ready none with state := .busy }) ∧
        W4.heap[w.heap.size + 1]? = some (.loop (rec (if jump.isNone then .ready else .done) jump)) ∧ W4.heap[w.heap.size]? = some (.deferred (some [])) ∧ Kp W W4 := fun jump W3 hk3 hp3 => by
      have hl3 := hk3.same _ _ (by omega) hlb rfl
      have hr := run_endRound (P := P) jump hl3
      rw [hrec] at hr
      refine ⟨_, hr, by rw [hrec], hl3, ?_,?_, hKt hwb (hKt hp3 (hKb _ _ _ _ (by omega) hl3 rfl rfl))⟩
      · rw [hrec]; exact World.putObj_heap_same (Array.getElem?_eq_some_iff.1 hl3).1
      · exact (World.putObj_heap_other (by omega)).trans (hk3.same _ _ (Nat.le_refl _) hkb rfl)
    have leaves : ∀ (c : Code) (W3 : World), KeepsFrom w.heap.size Wb W3 → Kp Wb W3 → Ix c (pre ++ [x]) W3 → ∃ v W4, (Instr.endRound (w.heap.size + 1) (some c)).run P W3 = .ok v W4 ∧
        TellsR Kp G (fun pre W => I pre W ∧ W.heap[w.heap.size + 1]? = some (.loop (rec .ready none)) ∧ W.heap[w.heap.size]? = some (.deferred (some [])))
          (fun pre W => ∃ c, Ix c pre W ∧ W.heap[w.heap.size + 1]? = some (.loop (rec .done (some c))) ∧ W.heap[w.heap.size]? = some (.deferred (some []))) pre x W (.returned v) W4 := fun c W3 hk3 hp3 hi3 => by
      obtain ⟨W4, hr, rfl, hl3, hl4, hk4, hp4⟩ := fin (some c) W3 hk3 hp3
      exact ⟨_, _, hr, .inr ⟨rfl, ⟨c, (hIx _).putObj _ hi3 (by omega) hl3 rfl, hl4, hk4⟩, hp4⟩⟩
    rintro e a3 W3 hp
    cases e with
    | normal =>
      obtain ⟨hk3, hp3, hgx, hi3⟩ := hp
      obtain ⟨W4, hr, rfl, hl3, hl4, hk4, hp4⟩ := fin none W3 hk3 hp3
      exact ⟨_, _, hr, .inl ⟨rfl, ⟨hI.from.putObj _ hi3 (by omega) hl3 rfl, hl4, hk4⟩, hp4, hgx⟩⟩
    | ret => exact leaves .ret W3 hp.1 hp.2.1 hp.2.2
    | exit id => exact leaves (.exit id) W3 hp.1 hp.2.1 hp.2.2
    | goto t => exact leaves (.goto t) W3 hp.1 hp.2.1 hp.2.2
    | panic ch => exact hp.elim
    | outgrown => exact hp.elim
  · -- behind the iterator
    rintro e W2 ⟨⟨v, rfl⟩, (⟨xs, hSx, hi, hl, hk⟩ | ⟨pre, hSx, c, hi, hl, hk⟩)⟩
    · exact ⟨none, _, by have := run_endLoop (P := P) hl (by rw [hrec]; simp); rw [hrec] at this; exact this, hdone _ xs _ (Nat.le_refl _) (hS.putObj _ hSx (by omega) hl rfl) (hI.from.putObj _ hi (by omega) hl rfl) ((World.putObj_heap_other (by omega)).trans hk)⟩
    · exact ⟨some c, _, by have := run_endLoop (P := P) hl (by rw [hrec]; simp); rw [hrec] at this; exact this, hstop _ c pre _ (Nat.le_refl _) (hSp.putObj _ hSx (by omega) hl rfl) ((hIx c).putObj _ hi (by omega) hl rfl) ((World.putObj_heap_other (by omega)).trans hk)⟩
end Go.Proofs.YtjkifdjjcfempaaDoor
end

section
namespace Go.Proofs.YtjkifdjjcfempaaDoor
open Go.RowKit Go Go.Sort
set_option linter.unusedVariables false
set_option maxRecDepth 20000

theorem text_eqb (t t' : List UInt8) : ((text t).toList == (text t').toList) = (t == t') := by rw [text_toList, text_toList]
theorem text_lss (t t' : List UInt8) : Op.bytesLess (text t).toList (text t').toList = Op.bytesLess t t' := by rw [text_toList, text_toList]

end Go.Proofs.YtjkifdjjcfempaaDoor
end

section
namespace Go.Proofs.YtjkifdjjcfempaaDoor
open Go.RowKit Go Go.Sort
set_option linter.unusedVariables false
set_option maxRecDepth 20000

theorem Wrote.kept {g : Nat} {t : TypeId} {w w1 w2 : World} {cs : Array Value} (h : Wrote g cs t w w1) (hg : g < w1.heap.size) (hb : Below w1.heap.size w1 w2) : Wrote g cs t w w2 :=
  ⟨hb.os.trans h.os, hb.tape.trans h.tape, hb.output.trans h.output, Nat.le_trans h.size hb.size, (hb.block g hg).trans h.cell, fun k hk hne => (hb.block k (Nat.lt_of_lt_of_le hk h.size)).trans (h.rest k hk hne)⟩

/-- What a cell's place holds. -/
def CelAt (W : World) (b o : Nat) (c : Cl) : Prop :=
  W.cell? ⟨b, o, none⟩ = some (.int .i64 c.n) ∧ W.cell? ⟨b, o + 1, none⟩ = some (.int .i64 c.s) ∧ W.cell? ⟨b, o + 2, none⟩ = some (.int .i64 c.a) ∧ W.cell? ⟨b, o + 3, none⟩ = some (.int .i64 c.b) ∧
  W.cell? ⟨b, o + 4, none⟩ = some (.bool c.g) ∧ W.cell? ⟨b, o + 5, none⟩ = some (.string (text c.t)) ∧ W.cell? ⟨b, o + 6, none⟩ = some (.int .i64 c.d) ∧ W.cell? ⟨b, o + 7, none⟩ = some (.int .i64 c.e)
theorem CelAt.kept {W W' : World} {b o : Nat} {c : Cl} (h : CelAt W b o c) (hb : Below W.heap.size W W') : CelAt W' b o c := by
  obtain ⟨h0, h1, h2, h3, h4, h5, h6, h7⟩ := h
  exact ⟨(hb.cell (World.block_lt_of_cell? W _ h0)).trans h0, (hb.cell (World.block_lt_of_cell? W _ h1)).trans h1, (hb.cell (World.block_lt_of_cell? W _ h2)).trans h2, (hb.cell (World.block_lt_of_cell? W _ h3)).trans h3, (hb.cell (World.block_lt_of_cell? W _ h4)).trans h4, (hb.cell (World.block_lt_of_cell? W _ h5)).trans h5, (hb.cell (World.block_lt_of_cell? W _ h6)).trans h6, (hb.cell (World.block_lt_of_cell? W _ h7)).trans h7⟩
/-- A list of cells that lies in memory. -/
structure Cls (w : World) (a : Option Addr) (n cap : Nat) (l : List Cl) : Prop where
  len : l.length = n
  le : n ≤ cap
  max : cap ≤ 9223372036854775807
  adr : cap = 0 ∨ ∃ b off, a = some ⟨b, off, none⟩ ∧ ∀ i, i < n → CelAt w b (off + i * 8) (l.getD i Cl.zero)
theorem Cls.below {w w' : World} {a : Option Addr} {n cap : Nat} {l : List Cl} (h : Cls w a n cap l) (hb : Below w.heap.size w w') : Cls w' a n cap l := by
  refine ⟨h.len, h.le, h.max, ?_⟩
  rcases h.adr with h4 | ⟨b, off, rfl, hc⟩
  · exact .inl h4
  · exact .inr ⟨b, off, rfl, fun i hi => (hc i hi).kept hb⟩
/-- What a place holds, in every world in which nothing of the old is turned. -/
theorem Cls.at {w : World} {a : Option Addr} {n cap : Nat} {l : List Cl} (h : Cls w a n cap l) {k : Nat} (hk : k < n) :
    ∃ b off, a = some ⟨b, off, none⟩ ∧ ∀ W, Below w.heap.size w W → CelAt W b (off + k * 8) (l.getD k Cl.zero) := by
  have := h.le
  rcases h.adr with h4 | ⟨b, off, rfl, hc⟩
  · omega
  · exact ⟨b, off, rfl, fun W hb => (hc k hk).kept hb⟩
theorem Cls.nil (w : World) : Cls w none 0 0 [] := ⟨rfl, Nat.le_refl _, by omega, .inl rfl⟩
theorem Cls.take {w : World} {a : Option Addr} {n cap : Nat} {l : List Cl} (h : Cls w a n cap l) {k : Nat} (hk : k ≤ n) : Cls w a k cap (l.take k) := by
  have hl := h.len
  have hle := h.le
  refine ⟨by rw [List.length_take]; omega, by omega, h.max, ?_⟩
  rcases h.adr with h4 | ⟨b, off, rfl, hc⟩
  · exact .inl h4
  · refine .inr ⟨b, off, rfl, fun i hi => ?_⟩
    have := hc i (by omega)
    rw [List.getD_eq_getElem?_getD] at this ⊢
    rwa [List.getElem?_take_of_lt hi]
end Go.Proofs.YtjkifdjjcfempaaDoor
end

section
namespace Go.Proofs.YtjkifdjjcfempaaDoor
open Go.RowKit Go Go.Sort
set_option linter.unusedVariables false
set_option maxRecDepth 20000

theorem own_kept {W W' : World} {B s k : Nat} {e : TypeId} {v : Value} {xs : List Value} (h : W.ownsRow B e s v k xs) (hb : Below W.heap.size W W') : W'.ownsRow B e s v k xs := by
  refine ⟨h.1, ?_⟩
  rcases h.2 with hn | ⟨g, cap, cur, rfl, hB, hg, rest⟩
  · exact .inl hn
  · exact .inr ⟨g, cap, cur, rfl, hB, by rw [hb.block g (Array.getElem?_eq_some_iff.1 hg).1]; exact hg, rest⟩
theorem own_mono {W : World} {B B' s k : Nat} {e : TypeId} {v : Value} {xs : List Value} (h : W.ownsRow B e s v k xs) (hB : B' ≤ B) : W.ownsRow B' e s v k xs := by
  refine ⟨h.1, ?_⟩
  rcases h.2 with hn | ⟨g, cap, cur, rfl, hb, rest⟩
  · exact .inl hn
  · exact .inr ⟨g, cap, cur, rfl, by omega, rest⟩
end Go.Proofs.YtjkifdjjcfempaaDoor
end

section
namespace Go.Proofs.YtjkifdjjcfempaaDoor
open Go.RowKit Go Go.Sort
set_option linter.unusedVariables false
set_option maxRecDepth 20000

theorem wrote_no {c : Cl} (h : c.wrote = false) : c.key = Cl.zero.key := by
  obtain ⟨n, s, a, b, g, t, d, e⟩ := c
  simp [Cl.wrote, wroteS] at h
  obtain ⟨rfl, rfl, rfl, rfl, rfl, rfl⟩ := h
  rfl
/-- What is asked of a write, by a policy. -/
def Cl.gw (p : Int) (c : Cl) : Bool := (!(p == 2) || !c.g) && (!c.wrote || (sgood c.n c.s && (decide (0 < c.n) && (vgood c.a c.b && (decide (c.t.length ≤ 64) && (!c.g || c.t == []))))))
/-- What is asked of what has been deleted. -/
def Cl.gd (p : Int) (c : Cl) : Bool := (p == 1 && zeroS c.d c.e) || (p == 2 && vgood c.d c.e)
theorem jgood_parts (p : Int) (c : Cl) : c.good p = (c.gd p && c.gw p) := by
  unfold Cl.good cgoodS Cl.gd Cl.gw
  show _ = (_ && (_ && (!c.wrote || _)))
  unfold Cl.wrote
  by_cases h1 : p = 1
  · subst h1
    simp
  · by_cases h2 : p = 2
    · subst h2
      cases c.g <;> cases vgood c.d c.e <;> simp
    · have e1 : (p == 1) = false := by simpa using h1
      have e2 : (p == 2) = false := by simpa using h2
      simp [e1, e2]
theorem gw_up {p : Int} {c : Cl} (h : c.gw p = true) : maxK Cl.zero.key c.key = c.key := by
  cases hw : c.wrote with
  | false => rw [wrote_no hw, maxK_self]
  | true =>
    have hn : 0 < c.n := by
      unfold Cl.gw at h
      rw [hw] at h
      simp at h
      exact h.2.2.1
    unfold maxK
    rw [if_pos]
    show lexR (lexR ltI ltI) _ (Cl.zero.key) c.key = true
    unfold lexR
    rw [if_neg]
    · show lexR ltI ltI (0, 0) (c.n, c.s) = true
      unfold lexR
      simp only
      rw [if_neg (by omega)]
      simpa [ltI] using hn
    · show ¬ ((0 : Int), (0 : Int)) = (c.n, c.s)
      intro h
      simp at h
      omega
theorem good_up {p : Int} {c : Cl} (h : c.good p = true) : c.Up := by
  rw [jgood_parts, Bool.and_eq_true] at h
  have hd : 0 ≤ c.d ∧ 0 ≤ c.e := by
    have := h.1
    unfold Cl.gd at this
    simp [zeroS, vgood] at this
    omega
  exact ⟨gw_up h.2, hd.1, hd.2⟩
theorem more {p : Int} {a b c : Cl} (ha : a.good p = true) (hb : b.good p = true) (hc : c.good p = true) (h : withinS a b = true) :
    withinS (joinC [a, c]) (joinC [b, c]) = true ∧ (withinS b a = true → a = b) ∧ (withinS b c = true → withinS a c = true) := by
  have ua := good_up ha
  have ub := good_up hb
  have uc := good_up hc
  have e1 := (within_iff ua).1 h
  refine ⟨?_, fun h2 => ?_, fun h2 => ?_⟩
  · rw [within_iff (join_upAll _), join_two ua, join_two ub, two_comm b c, ← two_assoc, two_assoc a c c, two_self uc, two_comm a c, two_assoc, e1]
  · rw [← (within_iff ub).1 h2, two_comm, e1]
  · have e2 := (within_iff ub).1 h2
    rw [within_iff ua, ← e2, ← two_assoc, e1]

end Go.Proofs.YtjkifdjjcfempaaDoor
end

section
namespace Go.Proofs.YtjkifdjjcfempaaDoor
open Go.RowKit Go Go.Sort
set_option linter.unusedVariables false
set_option maxRecDepth 20000

def keyS (k : List UInt8) : Int := if k = [] then 2 else if 32 < k.length then 3 else 0
/-- Whether the cell of a group may be. -/
def cgAt (gs : List Grp) (cs : List Cl) (i : Nat) : Bool := (cs.getD i Cl.zero).good (gs.getD i ([], 0)).2
theorem pgood_len {gs : List Grp} (h : pgoodS gs = 0) : gs.length ≤ 4 := by
  unfold pgoodS at h
  split at h
  · cases h
  · split at h
    · cases h
    · omega
end Go.Proofs.YtjkifdjjcfempaaDoor
end

section
namespace Go.Proofs.YtjkifdjjcfempaaDoor
open Go.RowKit Go Go.Sort
set_option linter.unusedVariables false
set_option maxRecDepth 20000

attribute [local go_sem] Oper.semAt_some
/-- What an iterator turns is no block of another type. -/
theorem turn_keep {B k : Nat} {T t : TypeId} {W W' : World} {row : Option Nat} {cs : Array Value} {fr : Nat × Nat} (hg : W.grownBy W' row)
    (hr : ∀ r, row = some r → B ≤ r ∧ ∃ o : Obj, W.heap[r]? = some o ∧ (o.isCells = false ∨ ∃ cs fr, o = .cells cs T fr)) (h : W.heap[k]? = some (.cells cs t fr)) (ht : t ≠ T) : W'.heap[k]? = some (.cells cs t fr) := by
  refine (hg.block k (Array.getElem?_eq_some_iff.1 h).1 (fun e => ?_)).trans h
  obtain ⟨_, o, ho, hc⟩ := hr k e.symm
  rw [h] at ho
  cases ho
  rcases hc with hc | ⟨cs', fr', hc⟩
  · cases hc
  · cases hc; exact ht rfl
theorem turn_row {B B0 s k : Nat} {e T : TypeId} {W W' : World} {row : Option Nat} {v : Value} {xs : List Value} (hg : W.grownBy W' row)
    (hr : ∀ r, row = some r → B ≤ r ∧ ∃ o : Obj, W.heap[r]? = some o ∧ (o.isCells = false ∨ ∃ cs fr, o = .cells cs T fr)) (h : W.ownsRow B0 e s v k xs) (ht : e ≠ T) : W'.ownsRow B0 e s v k xs := by
  refine ⟨h.1, ?_⟩
  rcases h.2 with hn | ⟨g, cap, cur, rfl, hB, hg', rest⟩
  · exact .inl hn
  · exact .inr ⟨g, cap, cur, rfl, hB, turn_keep hg hr hg' ht, rest⟩
theorem turn_below {B n₀ : Nat} {T : TypeId} {w W W' : World} {row : Option Nat} (hg : W.grownBy W' row)
    (hr : ∀ r, row = some r → B ≤ r ∧ ∃ o : Obj, W.heap[r]? = some o ∧ (o.isCells = false ∨ ∃ cs fr, o = .cells cs T fr)) (hB : n₀ ≤ B) (hn : n₀ ≤ W.heap.size) (h : Below n₀ w W) : Below n₀ w W' :=
  h.grown hg hn (fun k e => Nat.le_trans hB (hr k e).1)
/-- What a step leaves as it was that writes the boxes Bs and a row of T at or beyond base. -/
structure LeavesT (T : TypeId) (Bs : Nat → Prop) (base : Nat) (W W' : World) : Prop where
  size : W.heap.size ≤ W'.heap.size
  same : ∀ (j : Nat) (o : Obj), W.heap[j]? = some o → ¬ Bs j → (j < base ∨ ∀ cs fr, o ≠ .cells cs T fr) → W'.heap[j]? = some o
theorem LeavesT.trans {T : TypeId} {Bs : Nat → Prop} {base : Nat} {X Y Z : World} (h : LeavesT T Bs base X Y) (k : LeavesT T Bs base Y Z) : LeavesT T Bs base X Z :=
  ⟨Nat.le_trans h.size k.size, fun j o hj hb ho => k.same j o (h.same j o hj hb ho) hb ho⟩
theorem LeavesT.below {T : TypeId} {Bs : Nat → Prop} {base : Nat} {W W' : World} (h : Below W.heap.size W W') : LeavesT T Bs base W W' :=
  ⟨h.size, fun j o hj _ _ => (h.block j (Array.getElem?_eq_some_iff.1 hj).1).trans hj⟩
theorem LeavesT.setCell {T : TypeId} {Bs : Nat → Prop} {base : Nat} (W : World) {B : Nat} (hB : Bs B) (u : Value) : LeavesT T Bs base W (W.setCell ⟨B, 0, none⟩ u) :=
  ⟨(KeepsWalks.setCell W _ u).size, fun j o hj hb _ => (Below.heap_setCell W ⟨B, 0, none⟩ u j (fun e => by subst e; exact hb hB)).trans hj⟩
theorem LeavesT.alloc {T : TypeId} {Bs : Nat → Prop} {base : Nat} (W : World) (o : Obj) : LeavesT T Bs base W (W.alloc o) :=
  ⟨by simp, fun j o' hj _ _ => (Below.heap_alloc W o j (Array.getElem?_eq_some_iff.1 hj).1).trans hj⟩
theorem LeavesT.append {T : TypeId} {Bs : Nat → Prop} {base s : Nat} {W w1 : World} {v : Value} {k : Nat} {xs : List Value} (hrow : W.ownsRow base T s v k xs) (hgrow : W.grownBy w1 v.ownBlock) : LeavesT T Bs base W w1 := by
  refine ⟨hgrow.size, fun j o hj hb ho => (hgrow.block j (Array.getElem?_eq_some_iff.1 hj).1 ?_).trans hj⟩
  rcases hrow.2 with ⟨rfl, _⟩ | ⟨g, cap, cur, rfl, hbg, hg, _⟩
  · simp [Value.ownBlock]
  · intro e'
    obtain rfl : j = g := by simpa [Value.ownBlock] using e'
    rcases ho with h | h
    · omega
    · rw [hg] at hj; cases hj; exact h _ _ rfl
theorem LeavesT.keeps {T : TypeId} {Bs : Nat → Prop} {base B : Nat} {W W' : World} (h : LeavesT T Bs base W W') (hb : ∀ j, Bs j → j < B) : KeepsFrom B W W' :=
  ⟨h.size, fun j o hB hj ho => h.same j o hj (fun hh => by have := hb j hh; omega) (.inr (fun cs fr e => by subst e; cases ho))⟩
/-- What a round keeps: what lay below, and the boxes named. -/
structure KP (n₀ : Nat) (Bs : Nat → Prop) (W W' : World) : Prop where
  below : Below n₀ W W'
  box : ∀ (k : Nat) (o : Obj), Bs k → W.heap[k]? = some o → W'.heap[k]? = some o
theorem KP.refl (n₀ : Nat) (Bs : Nat → Prop) (W : World) : KP n₀ Bs W W := ⟨Below.refl _ _, fun _ _ _ h => h⟩
theorem KP.trans {n₀ : Nat} {Bs : Nat → Prop} {A B C : World} (h : KP n₀ Bs A B) (k : KP n₀ Bs B C) : KP n₀ Bs A C := ⟨h.below.trans k.below, fun i o hi ho => k.box i o hi (h.box i o hi ho)⟩
end Go.Proofs.YtjkifdjjcfempaaDoor
end

section
namespace Go.Proofs.YtjkifdjjcfempaaDoor
open Go.RowKit Go Go.Sort
set_option linter.unusedVariables false
set_option maxRecDepth 20000

attribute [local go_sem] Oper.semAt_some
theorem text_nilb (k : List UInt8) : ((text k).toList == []) = (k == []) := by rw [text_toList]
/-- Between two rounds; how a round may leave. -/
def GoodI (gs : List Grp) (cs : List Cl) (n₀ base : Nat) (w : World) (xs : List Nat) (W : World) : Prop :=
  Boxed W (n₀ + 1) 40 (.int .i64 0) ∧ (∀ j, j < xs.length → cgAt gs cs j = true) ∧ Below n₀ w W ∧ base ≤ W.heap.size
def GoodX (gs : List Grp) (cs : List Cl) (m n₀ base : Nat) (w : World) (c : Code) (xs : List Nat) (W : World) : Prop :=
  c = .ret ∧ Boxed W (n₀ + 1) 40 (.int .i64 80) ∧ (∃ j, j < m ∧ cgAt gs cs j = false) ∧ Below n₀ w W ∧ base ≤ W.heap.size
theorem GoodI.own {gs : List Grp} {cs : List Cl} {n₀ base B : Nat} {w : World} (h1 : n₀ ≤ B) (h2 : n₀ ≤ base) : OwnT B 59 (GoodI gs cs n₀ base w) := by
  rintro xs X Y row ⟨hb, hx, hw, hs⟩ hg hr
  exact ⟨turn_keep hg hr hb (by decide), hx, turn_below hg hr h1 (Nat.le_trans h2 hs) hw, Nat.le_trans hs hg.size⟩
theorem GoodX.own {gs : List Grp} {cs : List Cl} {m n₀ base B : Nat} {w : World} (c : Code) (h1 : n₀ ≤ B) (h2 : n₀ ≤ base) : OwnFrom B (GoodX gs cs m n₀ base w c) := by
  have : OwnT B 59 (GoodX gs cs m n₀ base w c) := by
    rintro xs X Y row ⟨hc, hb, hx, hw, hs⟩ hg hr
    exact ⟨hc, turn_keep hg hr hb (by decide), hx, turn_below hg hr h1 (Nat.le_trans h2 hs) hw, Nat.le_trans hs hg.size⟩
  exact this.from
end Go.Proofs.YtjkifdjjcfempaaDoor
end

section
namespace Go.Proofs.YtjkifdjjcfempaaDoor
open Go.RowKit Go Go.Sort
set_option linter.unusedVariables false
set_option maxRecDepth 20000

abbrev Fld := Int × List UInt8
/-- A list of fields that lies in memory. -/
structure Flds (w : World) (a : Option Addr) (n cap : Nat) (l : List Fld) : Prop where
  len : l.length = n
  le : n ≤ cap
  max : cap ≤ 9223372036854775807
  adr : cap = 0 ∨ ∃ b off, a = some ⟨b, off, none⟩ ∧ ∀ i, i < n → w.cell? ⟨b, off + i * 2, none⟩ = some (.int .i64 (l.getD i (0, [])).1) ∧ w.cell? ⟨b, off + i * 2 + 1, none⟩ = some (.string (text (l.getD i (0, [])).2))
theorem Flds.below {w w' : World} {a : Option Addr} {n cap : Nat} {l : List Fld} (h : Flds w a n cap l) (hb : Below w.heap.size w w') : Flds w' a n cap l := by
  refine ⟨h.len, h.le, h.max, ?_⟩
  rcases h.adr with h4 | ⟨b, off, rfl, hc⟩
  · exact .inl h4
  · refine .inr ⟨b, off, rfl, fun i hi => ?_⟩
    obtain ⟨h1, h2⟩ := hc i hi
    exact ⟨by rw [hb.cell (World.block_lt_of_cell? w _ h1)]; exact h1, by rw [hb.cell (World.block_lt_of_cell? w _ h2)]; exact h2⟩
theorem Flds.at {w : World} {a : Option Addr} {n cap : Nat} {l : List Fld} (h : Flds w a n cap l) {k : Nat} (hk : k < n) :
    ∃ b off, a = some ⟨b, off, none⟩ ∧ ∀ W, Below w.heap.size w W → W.cell? ⟨b, off + k * 2, none⟩ = some (.int .i64 (l.getD k (0, [])).1) ∧ W.cell? ⟨b, off + k * 2 + 1, none⟩ = some (.string (text (l.getD k (0, [])).2)) := by
  have := h.le
  rcases h.adr with h4 | ⟨b, off, rfl, hc⟩
  · omega
  · exact ⟨b, off, rfl, fun W hb => ⟨by rw [hb.cell (World.block_lt_of_cell? w _ (hc k hk).1)]; exact (hc k hk).1, by rw [hb.cell (World.block_lt_of_cell? w _ (hc k hk).2)]; exact (hc k hk).2⟩⟩
end Go.Proofs.YtjkifdjjcfempaaDoor
end

section
namespace Go.Proofs.YtjkifdjjcfempaaDoor
open Go.RowKit Go Go.Sort
set_option linter.unusedVariables false
set_option maxRecDepth 20000

attribute [local go_sem] Oper.semAt_some
/-- A row's bytes up to a group. -/
def rlayN (gs : List Grp) (key : List UInt8) (cs : List Cl) : Nat → List UInt8
  | 0 => putTextS [] key
  | k + 1 => cputS (rlayN gs key cs k) (gs.getD k ([], 0)).2 (cs.getD k Cl.zero)
/-- Between two rounds. -/
def LayI (gs : List Grp) (key : List UInt8) (cs : List Cl) (n₀ G0 base : Nat) (w : World) (xs : List Nat) (W : World) : Prop :=
  ∃ vb, Boxed W G0 43 vb ∧ OwnB W n₀ 5 vb (rlayN gs key cs xs.length) ∧ Below n₀ w W ∧ base ≤ W.heap.size
theorem LayI.own {gs : List Grp} {cs : List Cl} {key : List UInt8} {n₀ G0 base B9 : Nat} {w : World} (h1 : n₀ ≤ B9) (h2 : n₀ ≤ base) : OwnT B9 59 (LayI gs key cs n₀ G0 base w) := by
  rintro xs X Y row ⟨vb, hb, ho, hw, hs⟩ hg hr
  exact ⟨vb, turn_keep hg hr hb (by decide), turn_row hg hr ho (by decide), turn_below hg hr h1 (Nat.le_trans h2 hs) hw, Nat.le_trans hs hg.size⟩

end Go.Proofs.YtjkifdjjcfempaaDoor
end

section
namespace Go.Proofs.YtjkifdjjcfempaaDoor
open Go.RowKit Go Go.Sort
set_option linter.unusedVariables false
set_option maxRecDepth 20000

/-- The example's schema. -/
def exG : List Grp := [([97], 1), ([98], 2)]
def schO : Obj := .cells #[.string ⟨#[97]⟩, .int .i64 1, .string ⟨#[98]⟩, .int .i64 2] 59 (0, 0)
/-- The schema in memory. -/
def SchV (v : Value) (W : World) : Prop := ∃ q, v = .slice (some ⟨q, 0, none⟩) 2 2 ∧ W.heap[q]? = some schO
theorem SchV.kept {v : Value} {X Y : World} (h : SchV v X) (hb : Below X.heap.size X Y) : SchV v Y := by
  obtain ⟨q, h1, h2⟩ := h
  exact ⟨q, h1, (hb.block _ (Array.getElem?_eq_some_iff.1 h2).1).trans h2⟩
theorem SchV.grs {v : Value} {W : World} (h : SchV v W) : ∃ q, v = .slice (some ⟨q, 0, none⟩) 2 2 ∧ Grs W (some ⟨q, 0, none⟩) 2 2 exG := by
  obtain ⟨q, h1, h2⟩ := h
  refine ⟨q, h1, rfl, Nat.le_refl _, by omega, .inr ⟨q, 0, rfl, fun i hi => ?_⟩⟩
  have hc := fun j => cell_of_row W q j #[.string ⟨#[97]⟩, .int .i64 1, .string ⟨#[98]⟩, .int .i64 2] 59 (0, 0) h2
  rcases (by omega : i = 0 ∨ i = 1) with rfl | rfl
  · exact ⟨(hc 0).trans rfl, (hc 1).trans rfl⟩
  · exact ⟨(hc 2).trans rfl, (hc 3).trans rfl⟩
end Go.Proofs.YtjkifdjjcfempaaDoor
end

section
namespace Go.Proofs.YtjkifdjjcfempaaDoor
open Go.RowKit Go Go.Sort
set_option linter.unusedVariables false
set_option maxRecDepth 20000

/-- A sum that is asked about up to 5000. -/
def satN (n k : Nat) : Nat := if n + k ≤ 5000 then n + k else 5001
theorem satN_le (n k : Nat) : satN n k ≤ 5001 := by unfold satN; split <;> omega
theorem satN_full {n : Nat} (h : 5000 < n) (k : Nat) : satN n k = 5001 := by unfold satN; rw [if_neg (by omega)]
theorem satN_fits {n k : Nat} (h : satN n k ≤ 5000) : satN n k = n + k ∧ n + k ≤ 5000 := by unfold satN at h ⊢; split <;> rename_i hh
                                                                                           <;> first
                                                                                             | exact ⟨rfl, hh⟩
                                                                                             | (rw [if_neg hh] at h; omega)
set_option maxHeartbeats 1600000 in
theorem radd_c (n k : Nat) (hn : n ≤ 5001) (hk : k ≤ 9223372036854775807) (w : World) : Calls Tryd.prog 10 #[.int .i64 (n : Int), .int .i64 (k : Int), .int .i64 5000] w (fun e w' => e = .returned (.int .i64 ((satN n k : Nat) : Int)) ∧ w = w') := by
  obtain ⟨R, hR⟩ : ∃ R, satN n k = R := ⟨_, rfl⟩
  rw [hR]
  unfold satN at hR
  by_cases h1 : 5000 < n
  · have h1i : (5000 : Int) < (n : Int) := by omega
    obtain rfl : 5001 = R := by rw [← hR, if_neg (by omega)]
    clear hR
    go_enter Tryd.func10, Tryd.ntmps10
    go_wp2
    go_ret
    exact ⟨rfl, rfl⟩
  · have h1i : ¬ (5000 : Int) < (n : Int) := by omega
    by_cases h2 : 5000 < k
    · have h2i : (5000 : Int) < (k : Int) := by omega
      obtain rfl : 5001 = R := by rw [← hR, if_neg (by omega)]
      clear hR
      go_enter Tryd.func10, Tryd.ntmps10
      go_wp2
      go_ret
      exact ⟨rfl, rfl⟩
    · have h2i : ¬ (5000 : Int) < (k : Int) := by omega
      have hs1 : 5000 - (k : Int) ≤ 9223372036854775807 := by omega
      have hs2 : -9223372036854775808 ≤ 5000 - (k : Int) := by omega
      by_cases h3 : n + k ≤ 5000
      · have h3i : ¬ 5000 - (k : Int) < (n : Int) := by omega
        have HR := Lib.hid (show (n : Int) + (k : Int) = (R : Int) by rw [← hR, if_pos h3]; omega)
        have ha1 : (n : Int) + (k : Int) ≤ 9223372036854775807 := by omega
        clear hR
        go_enter Tryd.func10, Tryd.ntmps10
        go_wp2
        go_ret
        exact ⟨by rw [← HR.out]; go_num, rfl⟩
      · have h3i : 5000 - (k : Int) < (n : Int) := by omega
        obtain rfl : 5001 = R := by rw [← hR, if_neg (by omega)]
        clear hR
        go_enter Tryd.func10, Tryd.ntmps10
        go_wp2
        go_ret
        exact ⟨rfl, rfl⟩
end Go.Proofs.YtjkifdjjcfempaaDoor
end

section
namespace Go.Proofs.YtjkifdjjcfempaaDoor
open Go.RowKit Go Go.Sort
set_option linter.unusedVariables false
set_option maxRecDepth 20000

/-- Rows in memory, one behind the other. -/
def RowsAt (W : World) (q : Nat) (rows : List (List UInt8 × List Cl)) : Prop :=
  ∀ i, i < rows.length → ∃ a m c, W.cell? ⟨q, i * 2, none⟩ = some (.string (text (rows.getD i ([], [])).1)) ∧ W.cell? ⟨q, i * 2 + 1, none⟩ = some (.slice a m c) ∧ Cls W a m c (rows.getD i ([], [])).2
theorem RowsAt.below {W W' : World} {q : Nat} {rows : List (List UInt8 × List Cl)} (h : RowsAt W q rows) (hb : Below W.heap.size W W') : RowsAt W' q rows := by
  intro i hi
  obtain ⟨a, m, c, h1, h2, h3⟩ := h i hi
  exact ⟨a, m, c, by rw [hb.cell (World.block_lt_of_cell? W _ h1)]; exact h1, by rw [hb.cell (World.block_lt_of_cell? W _ h2)]; exact h2, h3.below hb⟩
end Go.Proofs.YtjkifdjjcfempaaDoor
end

section
namespace Go.Proofs.YtjkifdjjcfempaaDoor
open Go.RowKit Go Go.Sort
set_option linter.unusedVariables false
set_option maxRecDepth 20000

theorem heap_below {W W' : World} {q : Nat} {o : Obj} (h : W.heap[q]? = some o) (hb : Below W.heap.size W W') : W'.heap[q]? = some o := (hb.block _ (Array.getElem?_eq_some_iff.1 h).1).trans h
end Go.Proofs.YtjkifdjjcfempaaDoor
end

section
namespace Go.Proofs.YtjkifdjjcfempaaDoor
open Go.RowKit Go Go.Sort
set_option linter.unusedVariables false
set_option maxRecDepth 20000

theorem nans_c (u : ByteArray) (w : World) : Calls Tryd.prog 43 #[.string u] w (fun e w' => e = .returned (.bool false) ∧ w' = w) := by
  have hz : (u.toList == u.toList) = true := by simp
  go_enter Tryd.func43, Tryd.ntmps43
  go_wp2
  go_ret
  exact ⟨by first | rfl | simp, rfl⟩
theorem nani_c (u : Int) (w : World) : Calls Tryd.prog 44 #[.int .i64 u] w (fun e w' => e = .returned (.bool false) ∧ w' = w) := by
  go_enter Tryd.func44, Tryd.ntmps44
  go_wp2
  go_ret
  exact ⟨by first | rfl | simp, rfl⟩
def cmp3 (p q : Bool) : Int := if p = true then -1 else if q = true then 1 else 0
set_option maxHeartbeats 1600000 in
theorem cmps_c (u u' : ByteArray) (w : World) : Calls Tryd.prog 28 #[.string u, .string u'] w (fun e w' => e = .returned (.int .i64 (cmp3 (Op.bytesLess u.toList u'.toList) (!(u.toList == u'.toList)))) ∧ w' = w) := by
  have h1 := fun W => nans_c u W
  have h2 := fun W => nans_c u' W
  obtain ⟨p, hp⟩ : ∃ z, Op.bytesLess u.toList u'.toList = z := ⟨_, rfl⟩
  obtain ⟨q, hq⟩ : ∃ z, (u.toList == u'.toList) = z := ⟨_, rfl⟩
  rw [hp, hq]
  have HV := Lib.hid (show cmp3 p q = cmp3 p q from rfl)
  have H1 := Lib.hid h1
  have H2 := Lib.hid h2
  clear h1 h2
  cases p with
  | true =>
    go_enter Tryd.func28, Tryd.ntmps28
    go_upto_region 2 with (go_at_call 43; (with_reducible refine (H1.out _).mono ?_); rintro e9 w9 ⟨rfl, rfl⟩)
    go_wp2_with (go_at_call 43; (with_reducible refine (H2.out _).mono ?_); rintro e9 w9 ⟨rfl, rfl⟩)
    go_ret
    exact ⟨by rfl, rfl⟩
  | false =>
    cases q with
    | false =>
      go_enter Tryd.func28, Tryd.ntmps28
      go_upto_region 2 with (go_at_call 43; (with_reducible refine (H1.out _).mono ?_); rintro e9 w9 ⟨rfl, rfl⟩)
      go_wp2_with (go_at_call 43; (with_reducible refine (H2.out _).mono ?_); rintro e9 w9 ⟨rfl, rfl⟩)
      go_ret
      exact ⟨by rfl, rfl⟩
    | true =>
      go_enter Tryd.func28, Tryd.ntmps28
      go_upto_region 2 with (go_at_call 43; (with_reducible refine (H1.out _).mono ?_); rintro e9 w9 ⟨rfl, rfl⟩)
      go_wp2_with (go_at_call 43; (with_reducible refine (H2.out _).mono ?_); rintro e9 w9 ⟨rfl, rfl⟩)
      go_ret
      exact ⟨by rfl, rfl⟩
set_option maxHeartbeats 1600000 in
theorem cmpi_c (u u' : Int) (w : World) : Calls Tryd.prog 29 #[.int .i64 u, .int .i64 u'] w (fun e w' => e = .returned (.int .i64 (cmp3 (decide (u < u')) (decide (u' < u)))) ∧ w' = w) := by
  have H1 := Lib.hid (fun W => nani_c u W)
  have H2 := Lib.hid (fun W => nani_c u' W)
  by_cases hp : u < u'
  · have HV := Lib.hid (show cmp3 (decide (u < u')) (decide (u' < u)) = -1 by simp [cmp3, hp])
    go_enter Tryd.func29, Tryd.ntmps29
    go_upto_region 2 with (go_at_call 44; (with_reducible refine (H1.out _).mono ?_); rintro e9 w9 ⟨rfl, rfl⟩)
    go_wp2_with (go_at_call 44; (with_reducible refine (H2.out _).mono ?_); rintro e9 w9 ⟨rfl, rfl⟩)
    go_ret
    exact ⟨by rw [HV.out]; rfl, rfl⟩
  · by_cases hq : u' < u
    · have HV := Lib.hid (show cmp3 (decide (u < u')) (decide (u' < u)) = 1 by simp [cmp3, hp, hq])
      go_enter Tryd.func29, Tryd.ntmps29
      go_upto_region 2 with (go_at_call 44; (with_reducible refine (H1.out _).mono ?_); rintro e9 w9 ⟨rfl, rfl⟩)
      go_wp2_with (go_at_call 44; (with_reducible refine (H2.out _).mono ?_); rintro e9 w9 ⟨rfl, rfl⟩)
      go_ret
      exact ⟨by rw [HV.out]; rfl, rfl⟩
    · have HV := Lib.hid (show cmp3 (decide (u < u')) (decide (u' < u)) = 0 by simp [cmp3, hp, hq])
      go_enter Tryd.func29, Tryd.ntmps29
      go_upto_region 2 with (go_at_call 44; (with_reducible refine (H1.out _).mono ?_); rintro e9 w9 ⟨rfl, rfl⟩)
      go_wp2_with (go_at_call 44; (with_reducible refine (H2.out _).mono ?_); rintro e9 w9 ⟨rfl, rfl⟩)
      go_ret
      exact ⟨by rw [HV.out]; rfl, rfl⟩
/-- Two ints of a call's own. -/
def Ints2 (x y : Int) (v : Value) (w : World) : Prop := ∃ q e, v = .slice (some ⟨q, 0, none⟩) 2 2 ∧ w.heap[q]? = some (.cells #[.int .i64 x, .int .i64 y] e (0, 0))
theorem Ints2.kept {x y : Int} {v : Value} {w w' : World} (h : Ints2 x y v w) (hb : Below w.heap.size w w') : Ints2 x y v w' := by
  obtain ⟨q, e, rfl, hq⟩ := h
  exact ⟨q, e, rfl, heap_below hq hb⟩
def or2 (x y : Int) : Int := if x = 0 then y else x
set_option maxHeartbeats 1600000 in
theorem cmpor_c (x y : Int) (v : Value) {w : World} (h : Ints2 x y v w) : Calls Tryd.prog 27 #[v] w (fun e w' => e = .returned (.int .i64 (or2 x y)) ∧ w' = w) := by
  obtain ⟨q, e, rfl, hq⟩ := h
  have c0 : w.cell? ⟨q, 0, none⟩ = some (.int .i64 x) := by rw [cell_of_row _ q _ _ _ (0, 0) hq]; rfl
  have c1 : w.cell? ⟨q, 1, none⟩ = some (.int .i64 y) := by rw [cell_of_row _ q _ _ _ (0, 0) hq]; rfl
  clear hq
  by_cases hx : x = 0
  · have HV := Lib.hid (show or2 x y = y by simp [or2, hx])
    by_cases hy : y = 0
    · subst hx hy
      go_enter Tryd.func27, Tryd.ntmps27
      go_wp2
      refine wp_loop_rounds 3 ?_
      rw [rounds_succ]
      go_wp2
      rw [rounds_succ]
      go_wp2
      rw [rounds_succ]
      go_wp2
      go_ret
      exact ⟨by rw [HV.out]; rfl, rfl⟩
    · subst hx
      go_enter Tryd.func27, Tryd.ntmps27
      go_wp2
      refine wp_loop_rounds 3 ?_
      rw [rounds_succ]
      go_wp2
      rw [rounds_succ]
      go_wp2
      go_ret
      exact ⟨by rw [HV.out]; rfl, rfl⟩
  · have HV := Lib.hid (show or2 x y = x by simp [or2, hx])
    go_enter Tryd.func27, Tryd.ntmps27
    go_wp2
    refine wp_loop_rounds 3 ?_
    rw [rounds_succ]
    go_wp2
    go_ret
    exact ⟨by rw [HV.out]; rfl, rfl⟩
end Go.Proofs.YtjkifdjjcfempaaDoor
end

section
namespace Go.Proofs.YtjkifdjjcfempaaDoor
open Go.RowKit Go Go.Sort
set_option linter.unusedVariables false
set_option maxRecDepth 20000

/-- A list that lies in memory: 'arr' tells the cells of an element, sz of them. -/
structure Ls {α : Type} (sz : Nat) (arr : α → Array Value) (z : α) (w : World) (a : Option Addr) (n cap : Nat) (l : List α) : Prop where
  len : l.length = n
  le : n ≤ cap
  max : cap ≤ 9223372036854775807
  adr : cap = 0 ∨ ∃ b off, a = some ⟨b, off, none⟩ ∧ ∀ i, i < n → ∀ j v, (arr (l.getD i z))[j]? = some v → w.cell? ⟨b, off + i * sz + j, none⟩ = some v
section
variable {α : Type} {sz : Nat} {arr : α → Array Value} {z : α}
theorem Ls.below {w w' : World} {a : Option Addr} {n cap : Nat} {l : List α} (h : Ls sz arr z w a n cap l) (hb : Below w.heap.size w w') : Ls sz arr z w' a n cap l := by
  refine ⟨h.len, h.le, h.max, ?_⟩
  rcases h.adr with h4 | ⟨b, off, rfl, hc⟩
  · exact .inl h4
  · exact .inr ⟨b, off, rfl, fun i hi j v hj => (hb.cell (World.block_lt_of_cell? w _ (hc i hi j v hj))).trans (hc i hi j v hj)⟩
/-- What a place holds, in every world in which nothing of the old is turned. -/
theorem Ls.at {w : World} {a : Option Addr} {n cap : Nat} {l : List α} (h : Ls sz arr z w a n cap l) {k : Nat} (hk : k < n) :
    ∃ b off, a = some ⟨b, off, none⟩ ∧ ∀ W, Below w.heap.size w W → ∀ j v, (arr (l.getD k z))[j]? = some v → W.cell? ⟨b, off + k * sz + j, none⟩ = some v := by
  have := h.le
  rcases h.adr with h4 | ⟨b, off, rfl, hc⟩
  · omega
  · exact ⟨b, off, rfl, fun W hb j v hj => (hb.cell (World.block_lt_of_cell? w _ (hc k hk j v hj))).trans (hc k hk j v hj)⟩
theorem Ls.nil (w : World) : Ls sz arr z w none 0 0 [] := ⟨rfl, Nat.le_refl _, by omega, .inl rfl⟩
theorem Ls.take {w : World} {a : Option Addr} {n cap : Nat} {l : List α} (h : Ls sz arr z w a n cap l) {k : Nat} (hk : k ≤ n) : Ls sz arr z w a k cap (l.take k) := by
  have hl := h.len
  have hle := h.le
  refine ⟨by rw [List.length_take]; omega, by omega, h.max, ?_⟩
  rcases h.adr with h4 | ⟨b, off, rfl, hc⟩
  · exact .inl h4
  · refine .inr ⟨b, off, rfl, fun i hi => ?_⟩
    have := hc i (by omega)
    rw [List.getD_eq_getElem?_getD] at this ⊢
    rwa [List.getElem?_take_of_lt hi]
/-- The cells of a list. -/
def lCells (arr : α → Array Value) (l : List α) : List Value := l.flatMap (fun c => (arr c).toList)
theorem lCells_append (l m : List α) : lCells arr (l ++ m) = lCells arr l ++ lCells arr m := by simp [lCells]
theorem lCells_get (hs : ∀ c, (arr c).size = sz) : ∀ (l : List α) (i j : Nat), i < l.length → j < sz → (lCells arr l)[i * sz + j]? = (arr (l.getD i z))[j]?
  | [], i, j, h, _ => by simp at h
  | c :: r, 0, j, _, hj => by
    simp only [lCells, List.flatMap_cons, List.getD_cons_zero, Nat.zero_mul, Nat.zero_add]
    rw [List.getElem?_append_left (by rw [Array.length_toList, hs]; exact hj)]
    simp
  | c :: r, i + 1, j, h, hj => by
    have := lCells_get hs r i j (by simpa using h) hj
    simp only [List.getD_cons_succ]
    rw [← this]
    simp only [lCells, List.flatMap_cons]
    rw [List.getElem?_append_right (by rw [Array.length_toList, hs, Nat.succ_mul]; omega), Array.length_toList, hs]
    congr 1
    rw [Nat.succ_mul]
    omega
/-- A slice of the call's own that reads as the list l. -/
def OwnL (sz : Nat) (ty : TypeId) (arr : α → Array Value) (w : World) (B : Nat) (v : Value) (l : List α) : Prop := w.ownsRow B ty sz v l.length (lCells arr l)
theorem OwnL.nil (ty : TypeId) (w : World) (B : Nat) : OwnL sz ty arr w B (.slice none 0 0) [] := World.ownsRow_nil _ _ _ _
theorem OwnL.ls {ty : TypeId} {w : World} {B : Nat} {v : Value} {l : List α} (hs : ∀ c, (arr c).size = sz) (h : OwnL sz ty arr w B v l) : ∃ a cap, v = .slice a l.length cap ∧ Ls sz arr z w a l.length cap l := by
  obtain ⟨h1, h2⟩ := h
  rcases h2 with ⟨rfl, hn⟩ | ⟨g, cap, cur, rfl, hb, hg, hnc, hcm, hcs, htake⟩
  · exact ⟨none, 0, by rw [hn], rfl, by omega, by omega, .inl rfl⟩
  · refine ⟨_, cap, rfl, rfl, hnc, by unfold maxLen at hcm; omega, .inr ⟨g, 0, rfl, fun i hi j v hj => ?_⟩⟩
    have hjs : j < sz := by have := (Array.getElem?_eq_some_iff.1 hj).1; rwa [hs] at this
    have c1 := lCells_get (z := z) hs l i j hi hjs
    have hlt : i * sz + j < l.length * sz := by
      have h9 : (i + 1) * sz ≤ l.length * sz := Nat.mul_le_mul_right sz hi
      rw [Nat.succ_mul] at h9
      omega
    rw [← htake, List.getElem?_take, if_pos hlt, hj] at c1
    rw [Nat.zero_add, cell_of_row w g _ cur _ (0, 0) hg, ← c1]
    simp
theorem OwnL.kept {ty : TypeId} {w w' : World} {B : Nat} {v : Value} {l : List α} (h : OwnL sz ty arr w B v l) (hb : Below w.heap.size w w') : OwnL sz ty arr w' B v l := own_kept h hb
theorem OwnL.mono {ty : TypeId} {w : World} {B B' : Nat} {v : Value} {l : List α} (h : OwnL sz ty arr w B v l) (hB : B' ≤ B) : OwnL sz ty arr w B' v l := own_mono h hB
theorem OwnL.lt {ty : TypeId} {w : World} {B : Nat} {v : Value} {l : List α} (h : OwnL sz ty arr w B v l) : ∀ k, v.ownBlock = some k → B ≤ k ∧ k < w.heap.size := World.ownsRow.lt h
/-- append(v, c), v of the call's own: one element. -/
theorem wpList_append_el {P : Program} {w : World} {ops : Array Oper} {rest : List Oper} {o : Oper} {ac : Act} {Q : Exit → Act → World → Prop} (hgd : o.guard = none) (os ox : Operand) (t ty : TypeId) (i0 : TypeInfo) (zv : Value) (bytes : Nat)
    (ho : o.op = .call { callee := .builtin .append, args := #[os, ox], argTypes := #[t, t] }) (ht : P.underlying t = some (.slice ty)) (hi : P.info? ty = some i0) (hz0 : i0.zero = some zv) (hz1 : i0.size = sz) (hz2 : i0.bytes = bytes) (hzs : zv.cells.size = sz) (hsz : 0 < sz)
    {base : Nat} {v : Value} {l : List α} (hs : ac.eval os = v) (hown : OwnL sz ty arr w base v l) (c : α) {cells : Array Value} (hc : arr c = cells) (hcs : cells.size = sz) (hone : ∀ u ∈ cells.toList, u.oneCell' = true) {e9 : TypeId}
    (hx : ac.eval ox = .slice (some ⟨w.heap.size, 0, none⟩) 1 1) (h63 : l.length + 1 ≤ maxLen) (hbytes : ((l.length + 1) + (l.length + 1) / 4 + 192) * bytes ≤ 281474976710656) (hbase : base ≤ w.heap.size)
    (h : ∀ v' w', OwnL sz ty arr w' base v' (l ++ [c]) → (w.alloc (.cells cells e9)).grownBy w' v.ownBlock → wpList P ops Q rest (ac.put o.dst v') w') :
    wpList P ops Q (o :: rest) ac (w.alloc (.cells cells e9)) := by
  refine wpList_append_own_wide (P := P) (w.alloc (.cells cells e9)) hgd os ox t ho base ty i0 zv sz bytes ht hi hz0 hz1 hz2 hzs hsz v l.length (lCells arr l) hs (World.ownsRow.alloc hown _)
    ⟨w.heap.size, 0, none⟩ 1 1 cells.toList hx (by rw [Array.length_toList, hcs, Nat.one_mul]) ?_ hone h63 hbytes (by simp; omega) ?_
  · intro j u hj
    rw [addr_add, Nat.zero_add, cell_of_row _ _ j cells e9 (0, 0) (by rw [heap_alloc_new])]
    rw [← hj]; simp
  · intro v' w' h2 h3 _
    refine h v' w' ?_ h3
    unfold OwnL
    rw [List.length_append, lCells_append]
    have e : lCells arr [c] = cells.toList := by simp [lCells, hc]
    rw [e]
    exact h2
end
end Go.Proofs.YtjkifdjjcfempaaDoor
end

section
namespace Go.Proofs.YtjkifdjjcfempaaDoor
open Go.RowKit Go Go.Sort
set_option linter.unusedVariables false
set_option maxRecDepth 20000

/-- A write: key, group, whether it is gone, value. -/
structure Wr where
  k : List UInt8
  i : Int
  g : Bool
  v : List UInt8
def Wr.zero : Wr := ⟨[], 0, false, []⟩
def Wr.arr (c : Wr) : Array Value := #[.string (text c.k), .int .i64 c.i, .bool c.g, .string (text c.v)]
theorem wr_size (c : Wr) : c.arr.size = 4 := rfl
/-- A list of writes in memory; one of the call's own. -/
abbrev Wrs := Ls 4 Wr.arr Wr.zero
abbrev OwnW := OwnL 4 28 Wr.arr
theorem wr_at {W : World} {b o : Nat} {c : Wr} (h : ∀ j v, c.arr[j]? = some v → W.cell? ⟨b, o + j, none⟩ = some v) : W.cell? ⟨b, o, none⟩ = some (.string (text c.k)) ∧ W.cell? ⟨b, o + 1, none⟩ = some (.int .i64 c.i) ∧ W.cell? ⟨b, o + 2, none⟩ = some (.bool c.g) ∧ W.cell? ⟨b, o + 3, none⟩ = some (.string (text c.v)) :=
  ⟨h 0 _ rfl, h 1 _ rfl, h 2 _ rfl, h 3 _ rfl⟩
theorem Wrs.place {w : World} {a : Option Addr} {n cap : Nat} {l : List Wr} (h : Wrs w a n cap l) {k : Nat} (hk : k < n) : ∃ b off, a = some ⟨b, off, none⟩ ∧ ∀ W, Below w.heap.size w W → W.cell? ⟨b, off + k * 4, none⟩ = some (.string (text (l.getD k Wr.zero).k)) ∧ W.cell? ⟨b, off + k * 4 + 1, none⟩ = some (.int .i64 (l.getD k Wr.zero).i) ∧ W.cell? ⟨b, off + k * 4 + 2, none⟩ = some (.bool (l.getD k Wr.zero).g) ∧ W.cell? ⟨b, off + k * 4 + 3, none⟩ = some (.string (text (l.getD k Wr.zero).v)) := by
  obtain ⟨b, off, rfl, hat⟩ := h.at hk
  exact ⟨b, off, rfl, fun W hb => wr_at (hat W hb)⟩
theorem OwnL.wrs {w : World} {B : Nat} {v : Value} {l : List Wr} (h : OwnW w B v l) : ∃ a cap, v = .slice a l.length cap ∧ Wrs w a l.length cap l := h.ls wr_size
theorem wr_cells {W : World} {q : Nat} {k : List UInt8} {i : Int} {g : Bool} {v : List UInt8} (h : W.heap[q]? = some (.cells #[.string (text k), .int .i64 i, .bool g, .string (text v)] 28 (0, 0))) : W.cell? ⟨q, 0, none⟩ = some (.string (text k)) ∧ W.cell? ⟨q, 1, none⟩ = some (.int .i64 i) ∧ W.cell? ⟨q, 2, none⟩ = some (.bool g) ∧ W.cell? ⟨q, 3, none⟩ = some (.string (text v)) := by
  refine ⟨?_,?_,?_,?_⟩ <;> (rw [cell_of_row _ q _ _ _ (0, 0) h]; rfl)
theorem Tryd.infoW : (Tryd.prog.info? 28).map (fun i => (i.zero, i.size, i.bytes)) = some (some (.agg #[.string ⟨#[]⟩, .int .i64 0, .bool false, .string ⟨#[]⟩]), 4, 48) := by kernel_rfl
/-- append(l, w), l of the call's own. -/
theorem wpList_append_wr {w : World} {ops : Array Oper} {rest : List Oper} {o : Oper} {ac : Act} {Q : Exit → Act → World → Prop} (hgd : o.guard = none) (os ox : Operand)
    (ho : o.op = .call { callee := .builtin .append, args := #[os, ox], argTypes := #[22, 22] })
    {base : Nat} {u : Value} {l : List Wr} (hs : ac.eval os = u) (hown : OwnW w base u l) (k : List UInt8) (i : Int) (g : Bool) (v : List UInt8) {e9 : TypeId}
    (hx : ac.eval ox = .slice (some ⟨w.heap.size, 0, none⟩) 1 1) (h63 : l.length ≤ 1000000000) (hbase : base ≤ w.heap.size)
    (h : ∀ v' w', OwnW w' base v' (l ++ [⟨k, i, g, v⟩]) → (w.alloc (.cells #[.string (text k), .int .i64 i, .bool g, .string (text v)] e9)).grownBy w' u.ownBlock → wpList Tryd.prog ops Q rest (ac.put o.dst v') w') :
    wpList Tryd.prog ops Q (o :: rest) ac (w.alloc (.cells #[.string (text k), .int .i64 i, .bool g, .string (text v)] e9)) := by
  obtain ⟨i0, hi, hz0, hz1, hz2⟩ := info_parts Tryd.infoW
  refine wpList_append_el hgd os ox 22 28 i0 _ 48 ho Tryd.underlying22 hi hz0 hz1 hz2 rfl (by decide) hs hown ⟨k, i, g, v⟩ rfl rfl ?_ hx (by unfold maxLen; omega) (by omega) hbase h
  intro u hu
  have hu : u ∈ [Value.string (text k), .int .i64 i, .bool g, .string (text v)] := hu
  simp only [List.mem_cons, List.not_mem_nil, or_false] at hu
  rcases hu with rfl | rfl | rfl | rfl <;> rfl
/-- P12's order of writes: by key, then by group. -/
def aheadS (a b : Wr) : Bool := if (a.k == b.k) = false then Op.bytesLess a.k b.k else decide (a.i < b.i)

set_option maxHeartbeats 3200000 in
theorem rahead_c (k : List UInt8) (i : Int) (g : Bool) (v : List UInt8) (k' : List UInt8) (i' : Int) (g' : Bool) (v' : List UInt8) (w : World) : Calls Tryd.prog 18 #[.agg #[.string (text k), .int .i64 i, .bool g, .string (text v)], .agg #[.string (text k'), .int .i64 i', .bool g', .string (text v')]] w (Tells (.bool (aheadS ⟨k, i, g, v⟩ ⟨k', i', g', v'⟩)) w) := by
  have hp := heap_below (heap_alloc_new w (.cells #[.string (text k), .int .i64 i, .bool g, .string (text v)] 28)) (alloc_below (w.alloc (.cells #[.string (text k), .int .i64 i, .bool g, .string (text v)] 28)) (.cells #[.string (text k'), .int .i64 i', .bool g', .string (text v')] 28))
  have hq := heap_alloc_new (w.alloc (.cells #[.string (text k), .int .i64 i, .bool g, .string (text v)] 28)) (.cells #[.string (text k'), .int .i64 i', .bool g', .string (text v')] 28)
  simp only [World.size_alloc] at hq
  have HB := Lib.hid ((alloc_below w (.cells #[.string (text k), .int .i64 i, .bool g, .string (text v)] 28)).alloc (by simp) (.cells #[.string (text k'), .int .i64 i', .bool g', .string (text v')] 28))
  have HV := Lib.hid (show aheadS ⟨k, i, g, v⟩ ⟨k', i', g', v'⟩ = if (k == k') = false then Op.bytesLess k k' else decide (i < i') from rfl)
  obtain ⟨r, hr⟩ : ∃ r, aheadS ⟨k, i, g, v⟩ ⟨k', i', g', v'⟩ = r := ⟨_, rfl⟩
  rw [hr] at HV ⊢
  have hte := text_eqb k k'
  have htl := text_lss k k'
  obtain ⟨p0, p1, -⟩ := wr_cells hp
  obtain ⟨q0, q1, -⟩ := wr_cells hq
  obtain ⟨u, hu⟩ : ∃ u, text k = u := ⟨_, rfl⟩
  obtain ⟨u', hu'⟩ : ∃ u, text k' = u := ⟨_, rfl⟩
  simp only [hu, hu'] at hte htl HB p0 p1 q0 q1 ⊢
  clear hp hq hr hu hu'
  cases q3 : (k == k') with
  | false =>
    rw [q3] at HV hte
    obtain ⟨q5, hq5⟩ : ∃ q, Op.bytesLess k k' = q := ⟨_, rfl⟩
    rw [hq5] at HV htl
    clear q3 hq5
    go_enter Tryd.func18, Tryd.ntmps18
    go_wp2
    go_ret
    exact ⟨by rw [HV.out]; rfl, HB.out⟩
  | true =>
    rw [q3] at HV hte
    clear q3 htl
    go_enter Tryd.func18, Tryd.ntmps18
    go_wp2
    go_ret
    exact ⟨by rw [HV.out]; rfl, HB.out⟩
end Go.Proofs.YtjkifdjjcfempaaDoor
end

section
namespace Go.Proofs.YtjkifdjjcfempaaDoor
open Go.RowKit Go Go.Sort
set_option linter.unusedVariables false
set_option maxRecDepth 20000

/-- Which write may be, by a schema of n groups. -/
def mayS (n : Nat) (c : Wr) : Bool := decide (keyS c.k = 0) && (decide (0 ≤ c.i) && (decide (c.i < (n : Int)) && (decide (c.v.length ≤ 64) && (!c.g || c.v == []))))
end Go.Proofs.YtjkifdjjcfempaaDoor
end

section
namespace Go.Proofs.YtjkifdjjcfempaaDoor
open Go.RowKit Go Go.Sort
set_option linter.unusedVariables false
set_option maxRecDepth 20000

/-- What of a change's head may not be. -/
def headBad (site seq n s a b : Int) (m : Nat) : Bool :=
  (site != 1 && site != 2) || decide (seq < 1) || decide (1099511627776 < seq) || !sgood n s || (s != site) || !vgood a b || ((if site = 1 then a else b) != seq) || decide ((m : Int) < 1) || decide (8 < (m : Int))
/-- Whether the write at a place may be there. -/
def wAt (n1 : Nat) (l : List Wr) (k : Nat) : Bool := mayS n1 (l.getD k Wr.zero) && (decide (k = 0) || aheadS (l.getD (k - 1) Wr.zero) (l.getD k Wr.zero))
def chgoodS (gs : List Grp) (site seq n s a b : Int) (l : List Wr) : Int := if ¬ pgoodS gs = 0 then pgoodS gs else if headBad site seq n s a b l.length = true then 120 else if (List.range l.length).all (wAt gs.length l) = true then 0 else 120
theorem ch_inv {gs : List Grp} {site seq n s a b : Int} {l : List Wr} (h : chgoodS gs site seq n s a b l = 0) : pgoodS gs = 0 ∧ headBad site seq n s a b l.length = false ∧ ∀ k, k < l.length → wAt gs.length l k = true := by
  unfold chgoodS at h
  by_cases h1 : pgoodS gs = 0
  · rw [if_neg (not_not_intro h1)] at h
    by_cases h2 : headBad site seq n s a b l.length = true
    · rw [if_pos h2] at h; cases h
    · rw [if_neg h2] at h
      by_cases h3 : (List.range l.length).all (wAt gs.length l) = true
      · exact ⟨h1, by simpa using h2, fun k hk => List.all_eq_true.1 h3 k (List.mem_range.2 hk)⟩
      · rw [if_neg h3] at h; cases h
  · rw [if_pos h1] at h; exact absurd h h1
theorem ch_cells {W : World} {q : Nat} {site seq n s a b : Int} {x2 : Option Addr} {m cap2 : Nat} (h : W.heap[q]? = some (.cells #[.int .i64 site, .int .i64 seq, .int .i64 n, .int .i64 s, .int .i64 a, .int .i64 b, .slice x2 m cap2] 39 (0, 0))) :
    W.cell? ⟨q, 0, none⟩ = some (.int .i64 site) ∧ W.cell? ⟨q, 1, none⟩ = some (.int .i64 seq) ∧ W.cell? ⟨q, 2, none⟩ = some (.int .i64 n) ∧ W.cell? ⟨q, 3, none⟩ = some (.int .i64 s) ∧ W.cell? ⟨q, 4, none⟩ = some (.int .i64 a) ∧ W.cell? ⟨q, 5, none⟩ = some (.int .i64 b) ∧ W.cell? ⟨q, 6, none⟩ = some (.slice x2 m cap2) := by
  refine ⟨?_,?_,?_,?_,?_,?_,?_⟩ <;> (rw [cell_of_row _ q _ _ _ (0, 0) h]; rfl)
theorem wr_mem {l : List Wr} {k : Nat} (h : k < l.length) : l.getD k Wr.zero ∈ l := by
  rw [List.getD_eq_getElem?_getD, List.getElem?_eq_getElem h]; exact List.getElem_mem _
/-- The writes are short. -/
def WShort (l : List Wr) : Prop := ∀ c ∈ l, c.k.length ≤ 9223372036854775807 ∧ c.v.length ≤ 9223372036854775807

end Go.Proofs.YtjkifdjjcfempaaDoor
end

