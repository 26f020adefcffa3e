/-
  Merged: NM Ap HT V0 DF DT NT0 E0 DJ DQ D1 D2 D3 D4 DU D5 D6 D7 D8.
-/
import Derived.WalkKit
import Derived.Laws.CopyOwn
import Derived.WalkSmall
import Derived.Deep.QuietTactic
import Derived.StillTail
import Derived.Lib.QuietBelow
import Derived.Test.YtioeimkaljmffaaGreatDoorRows
import Derived.Lib.Hide
import Derived.BigQuiet
import Derived.BigRegion
import Derived.Deep.Cut
import Derived.Deep.MidRow
import Derived.Great.BuildSlice
import Derived.Outline
import Derived.OwnWalk
import Derived.Laws.Rows
import Derived.ChangeKeysEq
import Derived.Laws.StructEq
import Derived.Deep.DeepAppendWide
import Derived.Deep.AppendSrc
import Derived.Maps.RangeWalk
import Derived.Maps.OwnSet
import Derived.Maps.OwnOps
import Derived.Lib.MinMax
import Derived.Deep.RegionWith
import Derived.Maps.AppendAt
import Derived.Shelf.Abstract
import Derived.Lib.ConvBytes
import Derived.Lib.SlBytesConst
import Derived.WalkSpells
import Derived.WalkLawsBesides
import Derived.Lib.LaidTab
import Derived.Stop.LaidErr
import Derived.Lib.ItoaNum
import Derived.Shelf.Strings.Builder1
import Derived.Shelf.Strings.Builder2
import Derived.Shelf.Strings.BuilderF
import Derived.Shelf.Strconv.Atoi
import Derived.Shelf.Strconv.Itoa0
import Derived.Shelf.Strconv.Itoa1
import Derived.Shelf.LaysM
import Derived.Shelf.Strconv.Itoa2
import Derived.Shelf.Strconv.Itoa3
import Derived.Shelf.Strconv.AtoiErrFast
import Derived.Shelf.Strconv.ParseIntEmpty
import Derived.Shelf.Strconv.AtoiFail
import Derived.Shelf.Strconv.Clone
import Derived.Shelf.Strconv.SyntaxError
import Derived.Shelf.LaysC
import Derived.Shelf.Strconv.ToError
import Derived.Shelf.Strconv.Lower
import Derived.Shelf.Strconv.ParseUint10
import Derived.Shelf.Strconv.ParseUint10Empty
import Derived.Shelf.Strconv.ParseUint10Any
import Derived.Shelf.Strconv.ParseInt10
import Derived.Shelf.Strconv.AtoiLong
import Derived.Shelf.Strconv.AtoiInnerAll
import Derived.Shelf.Strconv.RangeError
import Derived.Shelf.Strconv.ToErrorRange
import Derived.Shelf.Strconv.AtoiAll
import Derived.Shelf.Strconv.ErrVarAll
import Derived.Shelf.Strings.Prefix
import Derived.Shelf.Bits.Mul64
import Derived.Shelf.Strings.Repeat
import Derived.Test.YtioeimkaljmffaaGreatDoorProg
import Derived.Lib.AtoiTie
import Derived.Lib.AtoiAll
import Derived.Lib.ItoaMem
import Derived.Lib.ItoaLen
import Derived.Lib.AtoiErrMem
import Derived.Lib.AtoiAllCases
import Derived.WideShapes
import Derived.OpenShut
import Derived.ChangeSlices
import Derived.Deep.RegionLaw
import Derived.Deep.RegionHeld3
import Derived.Shelf.Sort.Plain
import Derived.Shelf.Slices.In.SortNone
import Derived.Sort.OwnSorted
import Derived.Sort.KeysCollected
import Derived.Deep.Slices
import Derived.RangeFuncNested
import Derived.RangeFuncBound
import Derived.RangeFuncCalls
import Derived.RangeFuncLeaves
import Derived.OwnWalkIn
import Derived.TacticsInMore
import Derived.LoopNIn
import Derived.LoopIn
import Derived.Shelf.Small.Bits
import Derived.Ground.Names2Prog
import Derived.Shelf.Slices.Delete
import Derived.Shelf.Slices.Cells
import Derived.Shelf.Slices.Empties
import Derived.Deep.Matrix

section
namespace Go.Proofs.YtioeimkaljmffaaGreatDoor
open Go.RowKit

/-- How many bytes a number has. -/
def sizeS (n : Int) : Int :=
  if n < 0 ∨ 4611686018427387903 < n then 0 else if n < 64 then 1 else if n < 16384 then 2 else if n < 1073741824 then 4 else 8

theorem sizeS_neg {n : Int} (h : n < 0 ∨ 4611686018427387903 < n) : sizeS n = 0 := by unfold sizeS; rw [if_pos h]
theorem sizeS_1 {n : Int} (h : 0 ≤ n) (h1 : n < 64) : sizeS n = 1 := by unfold sizeS; rw [if_neg (by omega), if_pos h1]
theorem sizeS_2 {n : Int} (h : 64 ≤ n) (h1 : n < 16384) : sizeS n = 2 := by unfold sizeS; rw [if_neg (by omega), if_neg (by omega), if_pos h1]
theorem sizeS_4 {n : Int} (h : 16384 ≤ n) (h1 : n < 1073741824) : sizeS n = 4 := by unfold sizeS; rw [if_neg (by omega), if_neg (by omega), if_neg (by omega), if_pos h1]
theorem sizeS_8 {n : Int} (h : 1073741824 ≤ n) (h1 : n ≤ 4611686018427387903) : sizeS n = 8 := by unfold sizeS; rw [if_neg (by omega), if_neg (by omega), if_neg (by omega), if_neg (by omega)]
theorem sizeS_bd (n : Int) : 0 ≤ sizeS n ∧ sizeS n ≤ 8 := by unfold sizeS; split <;> (try split) <;> (try split) <;> (try split) <;> omega

/-- Byte i of l, as a number. -/
def by8 (l : List UInt8) (i : Nat) : Int := ((l.getD i 0).toNat : Int)
theorem by8_bd (l : List UInt8) (i : Nat) : 0 ≤ by8 l i ∧ by8 l i ≤ 255 := by
  unfold by8; have := (l.getD i 0).toNat_lt; omega
theorem by8_cons (c : UInt8) (r : List UInt8) (i : Nat) : by8 (c :: r) (i + 1) = by8 r i := rfl

/-- A byte slice of the world: length n, reading as the bytes l. -/
structure Bys (w : World) (a : Option Addr) (n cap : Nat) (l : List UInt8) : Prop where
  len : l.length = n
  le : n ≤ cap
  max : cap ≤ 9223372036854775807
  adr : cap = 0 ∨ ∃ b off, a = some ⟨b, off, none⟩ ∧ ∀ i, i < n → w.cell? ⟨b, off + i, none⟩ = some (.int .u8 (by8 l i))

theorem by8_take (l : List UInt8) (q i : Nat) (h : i < q) : by8 (l.take q) i = by8 l i := by
  unfold by8; simp [List.getD, h]
theorem by8_drop (l : List UInt8) (q i : Nat) : by8 (l.drop q) i = by8 l (q + i) := by
  unfold by8; simp [List.getD, List.getElem?_drop]
theorem addr_add (b off i : Nat) : (⟨b, off, none⟩ : Addr).add i = ⟨b, off + i, none⟩ := by
  by_cases h0 : i = 0
  · subst h0; rfl
  · simp [Addr.add, h0]

/-- The first q bytes of a slice. -/
theorem Bys.take {w : World} {a : Option Addr} {n cap : Nat} {l : List UInt8} (h : Bys w a n cap l) {q : Nat} (hq : q ≤ n) : Bys w a q cap (l.take q) := by
  obtain ⟨h1, h2, h3, h4⟩ := h
  refine ⟨by simp; omega, by omega, h3, ?_⟩
  rcases h4 with h4 | ⟨b, off, rfl, hc⟩
  · exact .inl h4
  · exact .inr ⟨b, off, rfl, fun i hi => by rw [by8_take l q i hi]; exact hc i (by omega)⟩
/-- The bytes from q on: at the end of the room the address stays. -/
theorem Bys.dropEnd {w : World} {a : Option Addr} {n cap : Nat} {l : List UInt8} (h : Bys w a n cap l) {q : Nat} (hq : q ≤ n) (hc : cap = q) : Bys w a (n - q) (cap - q) (l.drop q) := by
  obtain ⟨h1, h2, h3, h4⟩ := h
  exact ⟨by simp; omega, by omega, by omega, .inl (by omega)⟩
theorem Bys.drop {w : World} {a : Option Addr} {n cap : Nat} {l : List UInt8} (h : Bys w a n cap l) {q : Nat} (hq : q ≤ n) : Bys w (a.map (fun x => x.add q)) (n - q) (cap - q) (l.drop q) := by
  obtain ⟨h1, h2, h3, h4⟩ := h
  refine ⟨by simp; omega, by omega, by omega, ?_⟩
  rcases h4 with h4 | ⟨b, off, rfl, hc⟩
  · exact .inl (by omega)
  · exact .inr ⟨b, off + q, by rw [Option.map_some, addr_add], fun i hi => by rw [by8_drop, Nat.add_assoc]; exact hc (q + i) (by omega)⟩

theorem Bys.below {w w' : World} {a : Option Addr} {n cap : Nat} {l : List UInt8} (h : Bys w a n cap l) (hb : Below w.heap.size w w') : Bys w' a n cap l := by
  obtain ⟨h1, h2, h3, h4⟩ := h
  refine ⟨h1, h2, h3, ?_⟩
  rcases h4 with h4 | ⟨b, off, rfl, hc⟩
  · exact .inl h4
  · refine .inr ⟨b, off, rfl, fun i hi => ?_⟩
    have := hc i hi
    rw [hb.cell (World.block_lt_of_cell? w _ this)]; exact this

/-- Byte i of l. -/
def byt8 (l : List UInt8) (i : Nat) : UInt8 := l.getD i 0
theorem by8_byt8 (l : List UInt8) (i : Nat) : by8 l i = ((byt8 l i).toNat : Int) := rfl

/-- One byte more behind a number, the highest first. -/
def push1 (n : Int) (c : UInt8) : Int := n * 256 + (c.toNat : Int)

/-- The value of the first k bytes of l behind n. -/
def valS (n : Int) (l : List UInt8) (k : Nat) : Int := (l.take k).foldl push1 n

theorem valS_zero (n : Int) (l : List UInt8) : valS n l 0 = n := by simp [valS]

theorem take_snoc8 (l : List UInt8) (k : Nat) (h : k < l.length) : l.take (k + 1) = l.take k ++ [l.getD k 0] := by
  rw [List.take_succ_eq_append_getElem h]; simp [List.getD, h]

theorem valS_succ (n : Int) (l : List UInt8) (k : Nat) (h : k < l.length) : valS n l (k + 1) = valS n l k * 256 + by8 l k := by
  unfold valS; rw [take_snoc8 l k h, List.foldl_append]; rfl

theorem valS_bd (n : Int) (l : List UInt8) (k : Nat) (h0 : 0 ≤ n) (h1 : n < 64) : k ≤ l.length → 0 ≤ valS n l k ∧ valS n l k < 64 * 256 ^ k := by
  induction k with
  | zero => intro _; simp [valS_zero]; omega
  | succ k ih =>
    intro hk
    have := ih (by omega)
    have hc := by8_bd l k
    rw [valS_succ n l k (by omega)]
    have e : (256 : Int) ^ (k + 1) = 256 ^ k * 256 := Int.pow_succ ..
    rw [e]
    generalize (256 : Int) ^ k = p at *
    omega

theorem valS_lt54 (n : Int) (l : List UInt8) (k : Nat) (h0 : 0 ≤ n) (h1 : n < 64) (hk : k ≤ l.length) (h6 : k ≤ 6) : 0 ≤ valS n l k ∧ valS n l k < 18014398509481984 := by
  have h := valS_bd n l k h0 h1 hk
  refine ⟨h.1, ?_⟩
  rcases (by omega : k = 0 ∨ k = 1 ∨ k = 2 ∨ k = 3 ∨ k = 4 ∨ k = 5 ∨ k = 6) with rfl | rfl | rfl | rfl | rfl | rfl | rfl <;> omega

theorem or_i64 (n c : Int) (h0 : 0 ≤ n) (h1 : n < 18014398509481984) (c0 : 0 ≤ c) (c1 : c ≤ 255) : bits .or .i64 (n * 256) c = n * 256 + c := by
  obtain ⟨m, rfl⟩ := Int.eq_ofNat_of_zero_le h0
  obtain ⟨d, rfl⟩ := Int.eq_ofNat_of_zero_le c0
  have e1 : (BitVec.ofInt 64 ((m : Int) * 256)).toNat = m * 256 := by
    rw [show ((m : Int) * 256) = ((m * 256 : Nat) : Int) by omega, BitVec.ofInt_natCast, BitVec.toNat_ofNat]; exact Nat.mod_eq_of_lt (by omega)
  have e2 : (BitVec.ofInt 64 ((d : Nat) : Int)).toNat = d := by
    rw [BitVec.ofInt_natCast, BitVec.toNat_ofNat]; exact Nat.mod_eq_of_lt (by omega)
  show IntKind.i64.wrap ((BitVec.ofInt 64 ((m : Int) * 256) ||| BitVec.ofInt 64 (d : Int)).toNat : Int) = _
  rw [BitVec.toNat_or, e1, e2]
  have e3 : m * 256 ||| d = m * 256 + d := by
    have := Nat.shiftLeft_add_eq_or_of_lt (i := 8) (b := d) (by omega) m
    rw [Nat.shiftLeft_eq] at this
    exact this.symm
  rw [e3, IntWalk.i64_in _ (by omega)]
  omega

/-- What is told of v in k bytes. -/
def outS (k v : Int) : Int × Int × Int := if sizeS v = k then (v, k, 0) else (0, 0, 11)
theorem outS_yes {k v : Int} (h : sizeS v = k) : outS k v = (v, k, 0) := by unfold outS; rw [if_pos h]
theorem outS_no {k v : Int} (h : ¬ sizeS v = k) : outS k v = (0, 0, 11) := by unfold outS; rw [if_neg h]

/-- What bytes begin with: the number, its bytes, the error. -/
def getS : List UInt8 → Int × Int × Int
  | [] => (0, 0, 10)
  | b :: r => if r.length + 1 < 2 ^ (b.toNat / 64) then (0, 0, 10) else outS (2 ^ (b.toNat / 64) : Nat) (valS ((b.toNat : Int) % 64) r (2 ^ (b.toNat / 64) - 1))
end Go.Proofs.YtioeimkaljmffaaGreatDoor
end

section
namespace Go.Proofs.YtioeimkaljmffaaGreatDoor
open Go.RowKit
set_option linter.unusedVariables false

/-- Bytes as cells. -/
def u8v (l : List UInt8) : List Value := l.map (fun c => Value.int .u8 (c.toNat : Int))
theorem u8v_length (l : List UInt8) : (u8v l).length = l.length := by simp [u8v]
theorem u8v_append (l m : List UInt8) : u8v (l ++ m) = u8v l ++ u8v m := by simp [u8v]
theorem u8v_get (l : List UInt8) (i : Nat) (h : i < l.length) : (u8v l)[i]? = some (.int .u8 (by8 l i)) := by
  simp [u8v, by8, List.getD, h]
theorem u8v_one (l : List UInt8) : ∀ u ∈ u8v l, u.oneCell' = true := by
  intro u hu; obtain ⟨c, _, rfl⟩ := List.mem_map.1 hu; rfl

/-- The text of bytes. -/
def text (l : List UInt8) : ByteArray := ⟨l.toArray⟩

/-- The cells behind a slice's address. -/
theorem Bys.cells {w : World} {a : Option Addr} {n cap : Nat} {l : List UInt8} (h : Bys w a n cap l) (hn : 0 < n) :
    ∃ ad, a = some ad ∧ ∀ j v, (u8v l)[j]? = some v → w.cell? (ad.add j) = some v := by
  obtain ⟨h1, h2, h3, h4⟩ := h
  rcases h4 with h4 | ⟨b, off, rfl, hc⟩
  · omega
  · refine ⟨_, rfl, fun j v hv => ?_⟩
    have hj : j < l.length := by
      have := (List.getElem?_eq_some_iff.1 hv).1
      rwa [u8v_length] at this
    rw [u8v_get l j hj] at hv
    rw [addr_add, ← hv]
    exact hc j (by omega)

theorem fold_push (l : List UInt8) (s : ByteArray) : (l.map (fun c => (c.toNat : Int))).foldl (fun r n => r.push (UInt8.ofNat n.toNat)) s = ⟨s.data ++ l.toArray⟩ := by
  induction l generalizing s with
  | nil => simp
  | cons c t ih =>
    simp only [List.map_cons, List.foldl_cons]
    rw [ih]
    simp [ByteArray.push]

section
variable {P : Program}
/-- string(b): the text of its bytes; no memory is made. -/
theorem conv_bys {w : World} {a : Option Addr} {n cap : Nat} {l : List UInt8} (h : Bys w a n cap l) {src dst e : TypeId}
    (hs : P.underlying src = some (.slice e)) (he : P.underlying e = some (.int .u8)) (hd : P.underlying dst = some .string) :
    (convert src dst (.slice a n cap)).run P w = .ok (.string (text l)) w := by
  rw [run_convert_bytes_string w src dst e a n cap hs he hd]
  by_cases hn : 0 < n
  · obtain ⟨ad, rfl, hc⟩ := h.cells hn
    have hl := run_loadCells_list (P := P) (w := w) ad (u8v l) hc
    rw [u8v_length, h.len] at hl
    have := run_bytesToString (P := P) w ad n cap (l.map (fun c => (c.toNat : Int))) (by rw [hl]; simp [u8v, Function.comp_def])
    rw [this, fold_push]
    simp [text]
  · obtain rfl : n = 0 := by omega
    have hl : l = [] := List.eq_nil_of_length_eq_zero h.len
    subst hl
    cases a with
    | none => simp [Conv.bytesToString, text]; rfl
    | some ad =>
      have hl := run_loadCells_list (P := P) (w := w) ad [] (by intro j v hv; simp at hv)
      have := run_bytesToString (P := P) w ad 0 cap [] (by simpa using hl)
      rw [this]; simp [text]; rfl

/-- A slice of the call's own that reads as the bytes l. -/
def OwnB (w : World) (B : Nat) (e : TypeId) (v : Value) (l : List UInt8) : Prop := w.ownsRow B e 1 v l.length (u8v l)

theorem OwnB.bys {w : World} {B : Nat} {e : TypeId} {v : Value} {l : List UInt8} (h : OwnB w B e v l) : ∃ a cap, v = .slice a l.length cap ∧ Bys w a l.length cap l := by
  obtain ⟨h1, h2⟩ := h
  rcases h2 with ⟨rfl, hn⟩ | ⟨g, cap, cur, rfl, hb, hg, hnc, hcm, hcs, htake⟩
  · exact ⟨none, 0, by rw [hn], rfl, by omega, by omega, .inl rfl⟩
  · refine ⟨_, cap, rfl, rfl, hnc, by unfold maxLen at hcm; omega, .inr ⟨g, 0, rfl, fun i hi => ?_⟩⟩
    rw [Nat.zero_add, cell_of_row w g i cur e (0, 0) hg]
    have h3 : (cur.toList.take (l.length * 1))[i]? = (u8v l)[i]? := by rw [htake]
    rw [List.getElem?_take, if_pos (by omega), u8v_get l i hi] at h3
    rw [← h3]; simp

/-- A row of its own that is not empty lies at a block's head. -/
theorem OwnB.row {w : World} {B : Nat} {e : TypeId} {v : Value} {l : List UInt8} (h : OwnB w B e v l) (hl : 0 < l.length) :
    ∃ g cap, v = .slice (some ⟨g, 0, none⟩) l.length cap ∧ OwnB w B e (.slice (some ⟨g, 0, none⟩) l.length cap) l := by
  have h' := h
  rcases h'.2 with ⟨rfl, hn⟩ | ⟨g, cap, cur, rfl, _⟩
  · omega
  · exact ⟨g, cap, rfl, h⟩

/-- append(v, b...), v of the call's own, b wherever it lies. -/
theorem run_append_bys {w : World} {base : Nat} {t ty e : TypeId} {i : TypeInfo} {z : Value} {bytes : Nat} (ht : P.underlying t = some (.slice e)) (hi : P.info? e = some i) (hz : i.zero = some z)
    (hsize : i.size = 1) (hby : i.bytes = 1) (hzs : z.cells.size = 1) {v : Value} {k : List UInt8} (hown : OwnB w base e v k)
    {a : Option Addr} {m c : Nat} {l : List UInt8} (hb : Bys w a m c l) (h63 : k.length + m ≤ 140737488355328) (hbase : base ≤ w.heap.size) :
    ∃ v' w', (Builtin.append_ #[t, t] ty #[v, .slice a m c]).run P w = .ok v' w' ∧ OwnB w' base e v' (k ++ l) ∧ w.grownBy w' v.ownBlock := by
  have hlen := hb.len
  by_cases hm : a = none ∧ m = 0
  · obtain ⟨rfl, rfl⟩ := hm
    have hl : l = [] := List.eq_nil_of_length_eq_zero hb.len
    subst hl
    rw [List.append_nil]
    refine ⟨v, w, ?_, hown, World.grownBy.refl _ _⟩
    have hown' := hown
    rcases hown'.2 with ⟨rfl, hn⟩ | ⟨g, cap, cur, rfl, _, _, hnc, _⟩
    · simp [Builtin.append_, run_underlying ht, sizeOf, typeInfo, hi, Builtin.lenOf, Builtin.firstCells]
    · simp [Builtin.append_, run_underlying ht, sizeOf, typeInfo, hi, Builtin.lenOf, Builtin.firstCells, hnc, storeCells]
  · obtain ⟨ad, rfl, hc⟩ : ∃ ad, a = some ad ∧ ∀ j v, (u8v l)[j]? = some v → w.cell? (ad.add j) = some v := by
      by_cases hm0 : 0 < m
      · exact hb.cells hm0
      · cases a with
        | none => exact absurd ⟨rfl, by omega⟩ hm
        | some ad =>
          have hl : l = [] := List.eq_nil_of_length_eq_zero (by omega)
          subst hl
          exact ⟨ad, rfl, fun j v hv => by simp [u8v] at hv⟩
    obtain ⟨v', w', h1, h2, h3, _⟩ := run_append_own (P := P) w base t ty e i z 1 1 ht hi hz hsize hby hzs (by decide) v k.length (u8v k) hown ad m c (u8v l) (by rw [u8v_length]; omega) hc (u8v_one l)
      (by unfold maxLen; omega) (by omega) hbase
    refine ⟨v', w', h1, ?_, h3⟩
    unfold OwnB
    rw [List.length_append, u8v_append, hlen]
    exact h2

theorem wpList_append_bys {w : World} {ops : Array Oper} {rest : List Oper} {o : Oper} {a : Act} {Q : Exit → Act → World → Prop} (hgd : o.guard = none) (s x : Operand) (t : TypeId)
    (ho : o.op = .call { callee := .builtin .append, args := #[s, x], argTypes := #[t, t] })
    {base : Nat} {e : TypeId} {i : TypeInfo} {z : Value} (ht : P.underlying t = some (.slice e)) (hi : P.info? e = some i) (hz : i.zero = some z)
    (hsize : i.size = 1) (hby : i.bytes = 1) (hzs : z.cells.size = 1) {v : Value} {k : List UInt8} (hs : a.eval s = v) (hown : OwnB w base e v k)
    {ad : Option Addr} {m c : Nat} {l : List UInt8} (hx : a.eval x = .slice ad m c) (hb : Bys w ad m c l) (h63 : k.length + m ≤ 140737488355328) (hbase : base ≤ w.heap.size)
    (h : ∀ v' w', OwnB w' base e v' (k ++ l) → w.grownBy w' v.ownBlock → wpList P ops Q rest (a.put o.dst v') w') : wpList P ops Q (o :: rest) a w := by
  refine wpList_plain hgd fun K hK => ?_
  obtain ⟨v', w', hr, h2, h3⟩ := run_append_bys (P := P) (ty := o.type) (bytes := 1) ht hi hz hsize hby hzs hown hb h63 hbase
  unfold Oper.wp execOp
  simp only [ho, resolve, invoke, builtin, Sem.run_bind, Sem.run_pure, Result.andThen_ok, List.map_toArray, List.map_cons, List.map_nil, hs, hx, hr]
  exact hK _ _ (h v' w' h2 h3)
end

/-- An empty row of the call's own, just made. -/
theorem OwnB.empty (w : World) (B : Nat) (e : TypeId) (hB : B ≤ w.heap.size) : OwnB (w.alloc (.cells #[] e)) B e (.slice (some ⟨w.heap.size, 0, none⟩) 0 0) [] :=
  World.ownsRow_made w #[] 0 hB (by decide) rfl
theorem OwnB.kept {w w' : World} {B : Nat} {e : TypeId} {v : Value} {l : List UInt8} (h : OwnB w B e v l) (hb : Below w.heap.size w w') : OwnB w' B e v l := by
  refine ⟨h.1, ?_⟩
  rcases h.2 with hn | ⟨g, cap, cur, rfl, hB, hg, rest⟩
  · exact .inl hn
  · exact .inr ⟨g, cap, cur, rfl, hB, by rw [hb.block g (Array.getElem?_eq_some_iff.1 hg).1]; exact hg, rest⟩
theorem OwnB.lt {w : World} {B : Nat} {e : TypeId} {v : Value} {l : List UInt8} (h : OwnB w B e v l) : ∀ k, v.ownBlock = some k → B ≤ k ∧ k < w.heap.size := World.ownsRow.lt h
theorem OwnB.mono {w : World} {B B' : Nat} {e : TypeId} {v : Value} {l : List UInt8} (h : OwnB w B e v l) (hB : B' ≤ B) : OwnB w B' e v l := by
  refine ⟨h.1, ?_⟩
  rcases h.2 with hn | ⟨g, cap, cur, rfl, hb, rest⟩
  · exact .inl hn
  · exact .inr ⟨g, cap, cur, rfl, by omega, rest⟩
end Go.Proofs.YtioeimkaljmffaaGreatDoor
end

section
namespace Go.Proofs.YtioeimkaljmffaaGreatDoor
open Go Go.RowKit
set_option linter.unusedVariables false

section
variable {P : Program} {ops : Array Oper} {md : Region.Mode} {C : World → Prop}

/-- What is listed on the way through the head. -/
structure HdInv (md : Region.Mode) (ops : Array Oper) (k n : Nat) (listed : Array Bool) : Prop where
  head : HeadInv md ops n listed
  first : ∀ i, i < k → listed.getD i true = true
theorem HdInv.set {k n j : Nat} {listed : Array Bool} (h : HdInv md ops k n listed) (hj : j ∈ Region.ready md ops listed) (hjn : j < n) : HdInv md ops k n (listed.setIfInBounds j true) := by
  refine ⟨h.head.set hj hjn, fun i hi => ?_⟩
  by_cases hij : j = i
  · subst hij
    have := (mem_ready.1 hj).1
    rw [h.first j hi] at this
    cases this
  · rw [getD_set_ne true hij]; exact h.first i hi
end
end Go.Proofs.YtioeimkaljmffaaGreatDoor
end

section
namespace Go.Proofs.YtioeimkaljmffaaGreatDoor
open Go.RowKit Go Go.Sort
set_option linter.unusedVariables false

/-- A value comes back; what was there stays. -/
def Tells (v : Value) (w : World) (e : Ending) (w' : World) : Prop := e = .returned v ∧ Below w.heap.size w w'
/-- A pair that lies at a block's head. -/
def Pair (W : World) (g : Nat) (t : TypeId) (a b : Int) : Prop := W.heap[g]? = some (.cells #[.int .i64 a, .int .i64 b] t (0, 0))
theorem Pair.lt {W : World} {g : Nat} {t : TypeId} {a b : Int} (h : Pair W g t a b) : g < W.heap.size := (Array.getElem?_eq_some_iff.1 h).1
theorem Pair.kept {W W' : World} {g : Nat} {t : TypeId} {a b : Int} (h : Pair W g t a b) (hb : Below W.heap.size W W') : Pair W' g t a b := (hb.block g h.lt).trans h
theorem Pair.c0 {W : World} {g : Nat} {t : TypeId} {a b : Int} (h : Pair W g t a b) : W.cell? ⟨g, 0, none⟩ = some (.int .i64 a) := by
  rw [cell_of_row W g 0 _ t (0, 0) h]; rfl
theorem Pair.c1 {W : World} {g : Nat} {t : TypeId} {a b : Int} (h : Pair W g t a b) : W.cell? ⟨g, 1, none⟩ = some (.int .i64 b) := by
  rw [cell_of_row W g 1 _ t (0, 0) h]; rfl
theorem Pair.fz {W : World} {g : Nat} {t : TypeId} {a b : Int} (h : Pair W g t a b) (i : Nat) : W.frozen? ⟨g, i, none⟩ = false := frozen_of_row W g i _ t h
theorem Pair.new (W : World) (t : TypeId) (a b : Int) : Pair (W.alloc (.cells #[.int .i64 a, .int .i64 b] t)) W.heap.size t a b := heap_alloc_new W _
theorem Pair.alloc {W : World} {g : Nat} {t : TypeId} {a b : Int} (h : Pair W g t a b) (o : Obj) : Pair (W.alloc o) g t a b := (Below.heap_alloc W o g h.lt).trans h
theorem Pair.other {W : World} {g : Nat} {t : TypeId} {a b : Int} (h : Pair W g t a b) (p : Addr) (v : Value) (hne : g ≠ p.block) : Pair (W.setCell p v) g t a b :=
  (heap_setCell_other W p g v hne).trans h
theorem drewN_below {w0 w : World} {B : Nat} (h : Below B w0 w) (n : Nat) : Below B w0 (w.drewN n) := ⟨h.os, h.tape, h.output, h.size, h.block⟩
theorem alloc_below (w : World) (o : Obj) : Below w.heap.size w (w.alloc o) := (Below.refl _ w).alloc (Nat.le_refl _) o
theorem Pair.second (W : World) (o1 : Obj) (t : TypeId) (a b : Int) : Pair ((W.alloc o1).alloc (.cells #[.int .i64 a, .int .i64 b] t)) (W.heap.size + 1) t a b := by
  have h := Pair.new (W.alloc o1) t a b
  rwa [World.size_alloc] at h
theorem second_below (W : World) (o1 o2 : Obj) : Below W.heap.size W ((W.alloc o1).alloc o2) := (alloc_below W o1).alloc (by simp) o2
/-- A slice of pairs of the world. -/
structure Prs (w : World) (a : Option Addr) (n cap : Nat) (l : List (Int × Int)) : Prop where
  len : l.length = n
  le : n ≤ cap
  max : cap ≤ 9223372036854775807
  adr : cap = 0 ∨ ∃ b off, a = some ⟨b, off, none⟩ ∧ ∀ i, i < n → w.cell? ⟨b, off + i * 2, none⟩ = some (.int .i64 (l.getD i (0, 0)).1) ∧ w.cell? ⟨b, off + i * 2 + 1, none⟩ = some (.int .i64 (l.getD i (0, 0)).2)
theorem Prs.below {w w' : World} {a : Option Addr} {n cap : Nat} {l : List (Int × Int)} (h : Prs w a n cap l) (hb : Below w.heap.size w w') : Prs w' a n cap l := by
  refine ⟨h.len, h.le, h.max, ?_⟩
  rcases h.adr with h4 | ⟨b, off, rfl, hc⟩
  · exact .inl h4
  · refine .inr ⟨b, off, rfl, fun i hi => ?_⟩
    obtain ⟨h1, h2⟩ := hc i hi
    exact ⟨by rw [hb.cell (World.block_lt_of_cell? w _ h1)]; exact h1, by rw [hb.cell (World.block_lt_of_cell? w _ h2)]; exact h2⟩
end Go.Proofs.YtioeimkaljmffaaGreatDoor
end

section
namespace Go.Proofs.YtioeimkaljmffaaGreatDoor
open Go Go.RowKit
set_option linter.unusedVariables false

section
variable {P : Program} {ops : Array Oper} {md : Region.Mode}

theorem upon_weak {o : Oper} {a : Act} {K K' : Act → World → Prop} {Q Q' : Exit → Act → World → Prop} (hK : ∀ a w, K a w → K' a w) (hQ : ∀ e a w, Q e a w → e = .normal) (r : Result Next) (h : o.upon P a K Q r) : o.upon P a K' Q' r := by
  cases r with
  | ok n w' =>
    cases n with
    | value v => exact hK _ _ h
    | skip => exact hK _ _ h
    | defer d => exact hK _ _ h
    | enter f args =>
      refine Calls.mono h fun e w'' he => ?_
      cases e with
      | returned v => exact hK _ _ he
      | panicked c => exact absurd (hQ _ _ _ he) (by simp)
      | outgrown => exact absurd (hQ _ _ _ he.choose_spec.choose_spec) (by simp)
    | row r args => exact Rows.mono h fun v w'' he => hK _ _ he
    | _ => exact h
  | halt x w' =>
    cases x with
    | panic v => exact absurd (hQ _ _ _ h) (by simp)
    | _ => exact h
theorem wpOp_of_one {i : Nat} {o : Oper} {a : Act} {w : World} {K : Act → World → Prop} {Q Q' : Exit → Act → World → Prop} (ho : ops[i]? = some o) (hK : ∀ a w, Q' .normal a w → K a w) (hQ : ∀ e a w, Q' e a w → e = .normal)
    (h : wpList P ops Q' [o] a w) : wpOp P ops Q i K a w := by
  unfold wpOp
  simp only [ho]
  unfold wpList at h
  split
  · rename_i hw
    rw [if_pos hw] at h
    rcases h with h | ⟨_, a', w', h⟩
    · left
      exact upon_weak (fun a w h => hK a w h) hQ _ h
    · exact absurd (hQ _ _ _ h) (by simp)
  · rename_i hw
    rw [if_neg hw] at h
    exact hK _ _ h

/-- How one operation ends. -/
def FlowEnd (a : Act) (o : Oper) (R : World → World → Prop) (g : Value → World → Prop) (w : World) (e : Exit) (a' : Act) (w' : World) : Prop :=
  e = .normal ∧ ∃ v, a' = a.put o.dst v ∧ R w w' ∧ g v w'

theorem count_set_lt (l : List Bool) (i : Nat) (h : l[i]? = some false) : (l.set i true).count false < l.count false := by
  induction l generalizing i with
  | nil => simp at h
  | cons b l ih =>
    cases i with
    | zero =>
      have : b = false := by simpa using h
      subst this
      simp
    | succ i =>
      have := ih i (by simpa using h)
      cases b <;> simp <;> omega

theorem wpAny_flow {Q : Exit → Act → World → Prop} (act : (Nat → Value) → Act) (R : World → World → Prop) (G : Nat → Value → World → Prop) (w0 : World)
    (hR : ∀ a b c, R a b → R b c → R a c) (hG : ∀ i v w w', R w0 w → R w w' → G i v w → G i v w')
    (hwf : ∀ i o, ops[i]? = some o → ∀ e ∈ o.after, Region.binds md e = true → e.on < i)
    (hput : ∀ i o xs v, ops[i]? = some o → (act xs).put o.dst v = act (fun j => if j = i then v else xs j))
    (hop : ∀ i o, ops[i]? = some o → ∀ xs w, R w0 w → (∀ e ∈ o.after, Region.binds md e = true → G e.on (xs e.on) w) → wpList P ops (FlowEnd (act xs) o R (G i) w) [o] (act xs) w)
    (hend : ∀ xs w, R w0 w → (∀ i, i < ops.size → G i (xs i) w) → Q .normal (act xs) w) :
    ∀ (f : Nat) (listed : Array Bool) (xs : Nat → Value) (w : World), R w0 w → listed.size = ops.size → listed.toList.count false ≤ f → (∀ i, i < ops.size → listed.getD i true = true → G i (xs i) w) → wpAny P md ops Q f listed (act xs) w := by
  have hnone : ∀ (listed : Array Bool), listed.size = ops.size → Region.ready md ops listed = [] → ∀ i, i < ops.size → listed.getD i true = true := by
    intro listed hs hr i
    induction i using Nat.strongRecOn with
    | _ i ih =>
      intro hi
      cases hl : listed.getD i true with
      | true => rfl
      | false =>
        have : i ∈ Region.ready md ops listed := by
          refine mem_ready.2 ⟨hl, ops[i], by simp [hi], fun e he hb => ?_⟩
          have hlt := hwf i ops[i] (by simp [hi]) e he hb
          have h1 := ih e.on hlt (by omega)
          have h2 : e.on < listed.size := by omega
          simp only [Array.getD_eq_getD_getElem?, Array.getElem?_eq_getElem h2, Option.getD_some] at h1 ⊢
          exact h1
        rw [hr] at this
        cases this
  intro f
  induction f with
  | zero =>
    intro listed xs w hw hs hc hg
    have hall : ∀ i, i < ops.size → listed.getD i true = true := by
      intro i hi
      cases hl : listed.getD i true with
      | true => rfl
      | false =>
        have h2 : i < listed.size := by omega
        have h3 : listed[i] = false := by simpa [Array.getD_eq_getD_getElem?, Array.getElem?_eq_getElem h2] using hl
        have : false ∈ listed.toList := by rw [← h3]; simp
        have := List.count_pos_iff.2 this
        omega
    refine ⟨?_, hend xs w hw fun i hi => hg i hi (hall i hi)⟩
    cases hr : Region.ready md ops listed with
    | nil => rfl
    | cons i r =>
      have hm : i ∈ Region.ready md ops listed := by rw [hr]; simp
      obtain ⟨hun, o, ho, _⟩ := mem_ready.1 hm
      have := hall i (Array.getElem?_eq_some_iff.1 ho).1
      rw [hun] at this
      cases this
  | succ f ih =>
    intro listed xs w hw hs hc hg
    refine ⟨fun hr => hend xs w hw fun i hi => hg i hi (hnone listed hs hr i hi), fun i hi => ?_⟩
    obtain ⟨hun, o, ho, hall⟩ := mem_ready.1 hi
    have hilt := (Array.getElem?_eq_some_iff.1 ho).1
    refine wpOp_of_one ho (fun a' w' h => ?_) (fun e a' w' h => h.1) (hop i o ho xs w hw fun e he hb => ?_)
    · obtain ⟨_, v, rfl, hww, hv⟩ := h
      rw [hput i o xs v ho]
      refine ih _ _ w' (hR _ _ _ hw hww) (by simpa using hs) ?_ fun j hj hl => ?_
      · have h2 : i < listed.size := by omega
        have h3 : listed[i] = false := by simpa [Array.getD_eq_getD_getElem?, Array.getElem?_eq_getElem h2] using hun
        have := count_set_lt listed.toList i (by simp [h2, h3])
        rw [Array.toList_setIfInBounds]
        omega
      · by_cases hji : j = i
        · subst hji
          simpa using hv
        · rw [getD_set_ne true (Ne.symm hji)] at hl
          simp only [if_neg hji]
          exact hG j _ w w' hw hww (hg j hj hl)
    · have h1 := hall e he hb
      have h2 : e.on < ops.size := by have := hwf i o ho e he hb; omega
      refine hg e.on h2 ?_
      have h3 : e.on < listed.size := by omega
      simp only [Array.getD_eq_getD_getElem?, Array.getElem?_eq_getElem h3, Option.getD_some] at h1 ⊢
      exact h1

/-- What is known of the slots: those that the region writes have the values 'xs'. -/
def flowAct (a : Act) (srcs : List (Option Nat)) (xs : Nat → Value) : Act :=
  { a with tmps := (List.zipWith (fun t s => match s with | some i => xs i | none => t) a.tmps.toList srcs).toArray }
def flowB (md : Region.Mode) (ops : Array Oper) (srcs : List (Option Nat)) : Bool :=
  (List.range ops.size).all fun i => ((ops[i]?).map (fun o => (o.after.all fun e => !Region.binds md e || decide (e.on < i)) &&
    (List.range srcs.length).all fun s => decide ((srcs.getD s none = some i) ↔ (o.dst = some s)))).getD true
theorem flowB_spec {srcs : List (Option Nat)} (h : flowB md ops srcs = true) {i : Nat} {o : Oper} (ho : ops[i]? = some o) :
    (∀ e ∈ o.after, Region.binds md e = true → e.on < i) ∧ ∀ s, s < srcs.length → (srcs.getD s none = some i ↔ o.dst = some s) := by
  have h1 := List.all_eq_true.1 h i (List.mem_range.2 (Array.getElem?_eq_some_iff.1 ho).1)
  simp only [ho, Option.map_some, Option.getD_some, Bool.and_eq_true] at h1
  refine ⟨fun e he hb => ?_, fun s hs => ?_⟩
  · have h2 := (Array.all_eq_true_iff_forall_mem.1 h1.1) e he
    simpa [hb] using h2
  · have h2 := List.all_eq_true.1 h1.2 s (List.mem_range.2 hs)
    simpa using h2
theorem flowAct_put {a : Act} {srcs : List (Option Nat)} (hB : flowB md ops srcs = true) (hl : a.tmps.size = srcs.length) {i : Nat} {o : Oper} (ho : ops[i]? = some o) (xs : Nat → Value) (v : Value) :
    (flowAct a srcs xs).put o.dst v = flowAct a srcs (fun j => if j = i then v else xs j) := by
  have hs := (flowB_spec hB ho).2
  have key : ∀ (d : Option Tmp), o.dst = d → (match d with | some d => { flowAct a srcs xs with tmps := (flowAct a srcs xs).tmps.setIfInBounds d v } | none => flowAct a srcs xs) = flowAct a srcs (fun j => if j = i then v else xs j) := by
    intro d hd
    cases d with
    | none =>
      simp only [flowAct]
      congr 2
      apply List.ext_getElem?
      intro s
      simp only [List.getElem?_zipWith]
      by_cases hlt : s < srcs.length
      · have h1 := hs s hlt
        rw [hd] at h1
        have h2 : ¬ srcs.getD s none = some i := fun h => by cases h1.1 h
        rw [List.getElem?_eq_getElem hlt]
        rw [List.getD_eq_getElem?_getD, List.getElem?_eq_getElem hlt] at h2
        simp only [Option.getD_some] at h2
        cases a.tmps.toList[s]? with
        | none => rfl
        | some t =>
          cases hx : srcs[s] with
          | none => rfl
          | some j =>
            rw [hx] at h2
            have : j ≠ i := fun h => h2 (by rw [h])
            simp [this]
      · rw [List.getElem?_eq_none (l := srcs) (by omega)]
        cases a.tmps.toList[s]? <;> rfl
    | some d =>
      simp only [flowAct, List.setIfInBounds_toArray]
      congr 2
      apply List.ext_getElem?
      intro s
      by_cases hlt : s < srcs.length
      · have h1 := hs s hlt
        rw [hd] at h1
        have hta : s < a.tmps.toList.length := by simpa [hl] using hlt
        rw [List.getD_eq_getElem?_getD, List.getElem?_eq_getElem hlt] at h1
        simp only [Option.getD_some] at h1
        by_cases hsd : d = s
        · subst hsd
          rw [List.getElem?_set_self (by rw [List.length_zipWith]; exact Nat.lt_min.2 ⟨hta, hlt⟩)]
          rw [List.getElem?_zipWith, List.getElem?_eq_getElem hlt, List.getElem?_eq_getElem hta]
          simp [h1.2 rfl]
        · rw [List.getElem?_set_ne hsd]
          simp only [List.getElem?_zipWith, List.getElem?_eq_getElem hlt, List.getElem?_eq_getElem hta]
          cases hx : srcs[s] with
          | none => rfl
          | some j =>
            rw [hx] at h1
            have : j ≠ i := fun h => hsd (by have := h1.1 (by rw [h]); simpa using this)
            simp [this]
      · rw [List.getElem?_eq_none (by simp; omega), List.getElem?_eq_none (by simp; omega)]
  have := key o.dst rfl
  unfold Act.put
  exact this

def flowNeeds (md : Region.Mode) (Gs : List (Value → World → Prop)) (xs : Nat → Value) (w : World) : List Edge → Prop
  | [] => True
  | e :: l => (Region.binds md e = true → (Gs.getD e.on fun _ _ => True) (xs e.on) w) ∧ flowNeeds md Gs xs w l
def flowOps (P : Program) (md : Region.Mode) (ops : Array Oper) (a : Act) (srcs : List (Option Nat)) (Gs : List (Value → World → Prop)) (w0 : World) : List Oper → Nat → Prop
  | [], _ => True
  | o :: l, k => (∀ xs w, Below w0.heap.size w0 w → flowNeeds md Gs xs w o.after.toList → wpList P ops (FlowEnd (flowAct a srcs xs) o (fun x y => Below x.heap.size x y) (Gs.getD k fun _ _ => True) w) [o] (flowAct a srcs xs) w) ∧ flowOps P md ops a srcs Gs w0 l (k + 1)
def flowAll (xs : Nat → Value) (w : World) : List (Value → World → Prop) → Nat → Prop
  | [], _ => True
  | g :: l, k => g (xs k) w ∧ flowAll xs w l (k + 1)
theorem flowNeeds_of {Gs : List (Value → World → Prop)} {xs : Nat → Value} {w : World} : ∀ (l : List Edge), (∀ e ∈ l, Region.binds md e = true → (Gs.getD e.on fun _ _ => True) (xs e.on) w) → flowNeeds md Gs xs w l
  | [], _ => trivial
  | e :: l, h => ⟨h e (by simp), flowNeeds_of l fun e' he => h e' (by simp [he])⟩
theorem flowOps_get {a : Act} {srcs : List (Option Nat)} {Gs : List (Value → World → Prop)} {w0 : World} : ∀ (l : List Oper) (k : Nat), flowOps P md ops a srcs Gs w0 l k → ∀ i o, l[i]? = some o →
    ∀ xs w, Below w0.heap.size w0 w → flowNeeds md Gs xs w o.after.toList → wpList P ops (FlowEnd (flowAct a srcs xs) o (fun x y => Below x.heap.size x y) (Gs.getD (k + i) fun _ _ => True) w) [o] (flowAct a srcs xs) w
  | [], _, _, i, o, h => by simp at h
  | o' :: l, k, hh, 0, o, h => by
    obtain rfl : o' = o := by simpa using h
    exact hh.1
  | o' :: l, k, hh, i + 1, o, h => by
    have := flowOps_get l (k + 1) hh.2 i o (by simpa using h)
    rwa [show k + 1 + i = k + (i + 1) by omega] at this
theorem flowAll_of {xs : Nat → Value} {w : World} : ∀ (l : List (Value → World → Prop)) (k : Nat), (∀ i, i < l.length → (l.getD i fun _ _ => True) (xs (k + i)) w) → flowAll xs w l k
  | [], _, _ => trivial
  | g :: l, k, h => ⟨by simpa using h 0 (by simp), flowAll_of l (k + 1) fun i hi => by
      have := h (i + 1) (by simpa using hi)
      rw [show k + 1 + i = k + (i + 1) by omega]
      simpa using this⟩
theorem wp_region_flow {id : Nat} {Q : Exit → Act → World → Prop} {l : List Oper} {a : Act} {w : World} (srcs : List (Option Nat)) (xs0 : Nat → Value) (Gs : List (Value → World → Prop)) (hm : P.follows .mixedOrders = true)
    (hB : flowB .any l.toArray srcs = true) (hl : a.tmps.size = srcs.length) (h0 : flowAct a srcs xs0 = a) (hn : Gs.length = l.length)
    (hG : ∀ g ∈ Gs, ∀ v x y, Below w.heap.size w x → Below x.heap.size x y → g v x → g v y)
    (hops : flowOps P .any l.toArray a srcs Gs w l 0)
    (hend : ∀ xs w', Below w.heap.size w w' → flowAll xs w' Gs 0 → Q .normal (flowAct a srcs xs) w') : (Code.region id l.toArray true).wp P Q a w := by
  refine wp_region_any hm ?_
  have := wpAny_flow (P := P) (ops := l.toArray) (md := .any) (Q := Q) (flowAct a srcs) (fun x y => Below x.heap.size x y) (fun i => Gs.getD i fun _ _ => True) w
    (fun a b c h1 h2 => h1.trans (h2.mono h1.size)) (fun i v x y h1 h2 h3 => ?_) (fun i o ho => (flowB_spec hB ho).1) (fun i o xs v ho => flowAct_put hB hl ho xs v)
    (fun i o ho xs x hx hn => by
      have := flowOps_get l 0 hops i o (by simpa using ho) xs x hx (flowNeeds_of _ fun e he hb => hn e (by simpa using he) hb)
      rwa [Nat.zero_add] at this)
    (fun xs x hx hg => hend xs x hx (flowAll_of Gs 0 fun i hi => by rw [Nat.zero_add]; exact hg i (by simpa using (by omega : i < l.length))))
    l.toArray.size (Array.replicate l.toArray.size false) xs0 { w with drawn := w.drawn + 1 } ⟨rfl, rfl, rfl, Nat.le_refl _, fun _ _ => rfl⟩ (by simp) (by simp) (fun i hi hl => by
      exfalso
      rw [Array.getD_eq_getD_getElem?, Array.getElem?_eq_getElem (by simpa using hi)] at hl
      simp at hl)
  · rwa [h0] at this
  · by_cases hi : i < Gs.length
    · have hm := List.getElem_mem hi
      rw [List.getD_eq_getElem?_getD, List.getElem?_eq_getElem hi] at h3 ⊢
      exact hG _ hm v x y h1 h2 h3
    · rw [List.getD_eq_getElem?_getD, List.getElem?_eq_none (by omega)]
      trivial
end
end Go.Proofs.YtioeimkaljmffaaGreatDoor
end

section
namespace Go.Proofs.YtioeimkaljmffaaGreatDoor
open Go Go.RowKit
set_option linter.unusedVariables false

section
variable {P : Program} {ops : Array Oper} {md : Region.Mode}

theorem count_set_one (l : List Bool) (i : Nat) (h : l[i]? = some false) : (l.set i true).count false + 1 = l.count false := by
  induction l generalizing i with
  | nil => simp at h
  | cons b l ih =>
    cases i with
    | zero =>
      have : b = false := by simpa using h
      subst this
      simp
    | succ i =>
      have := ih i (by simpa using h)
      cases b <;> simp <;> omega

def headDone (n m : Nat) : Array Bool := Array.replicate n true ++ Array.replicate m false
theorem headDone_of {n : Nat} {listed : Array Bool} (hn : n < ops.size) (inv : HeadInv md ops n listed) (hall : ∀ i, i < n → listed.getD i true = true) : listed = headDone n (ops.size - n) := by
  have hs := inv.size
  apply Array.ext
  · simp [headDone]; omega
  · intro i h1 h2
    by_cases hi : i < n
    · have := hall i hi
      simp only [Array.getD_eq_getD_getElem?, Array.getElem?_eq_getElem h1, Option.getD_some] at this
      rw [this]
      simp [headDone, hi]
    · have := inv.tail i (by omega) (by omega)
      simp only [Array.getD_eq_getD_getElem?, Array.getElem?_eq_getElem h1, Option.getD_some] at this
      rw [this]
      simp [headDone, Array.getElem_append, hi]

/-- How one operation of the head ends; those of 'Fr' leave what none of the others of 'Fr' has. -/
def FlowEndF (a : Act) (o : Oper) (R : World → World → Prop) (G : Nat → Value → World → Prop) (Fr : Nat → Prop) (i : Nat) (w : World) (e : Exit) (a' : Act) (w' : World) : Prop :=
  e = .normal ∧ ∃ v, a' = a.put o.dst v ∧ R w w' ∧ G i v w' ∧ (Fr i → ∀ j, Fr j → ∀ u, G j u w → u ≠ v)

theorem wpAny_flow_tail {Q : Exit → Act → World → Prop} (act : (Nat → Value) → Act) (R : World → World → Prop) (G : Nat → Value → World → Prop) (Fr : Nat → Prop) (w0 : World) (n : Nat) (l : List Oper) (hl : l.toArray = ops)
    (hn : n < ops.size) (hs : Region.sinkB md ops n = true) (hc : Region.chainB md ops n = true) (hseq : Region.seqB md ops (ops.size - n) n (headDone n (ops.size - n)) = true)
    (hR : ∀ a b c, R a b → R b c → R a c) (hG : ∀ i v w w', R w0 w → R w w' → G i v w → G i v w')
    (hwf : ∀ i o, ops[i]? = some o → i < n → ∀ e ∈ o.after, Region.binds md e = true → e.on < i)
    (hput : ∀ i o xs v, ops[i]? = some o → i < n → (act xs).put o.dst v = act (fun j => if j = i then v else xs j))
    (hop : ∀ i o, ops[i]? = some o → i < n → ∀ xs w, R w0 w → (∀ e ∈ o.after, Region.binds md e = true → G e.on (xs e.on) w) → wpList P ops (FlowEndF (act xs) o R G Fr i w) [o] (act xs) w)
    (hend : ∀ xs w, R w0 w → (∀ i, i < n → G i (xs i) w) → (∀ i j, i < n → j < n → i ≠ j → Fr i → Fr j → xs i ≠ xs j) → wpList P ops Q (l.drop n) (act xs) w) :
    ∀ (f : Nat) (listed : Array Bool) (xs : Nat → Value) (w : World), R w0 w → HeadInv md ops n listed → listed.toList.count false = f → (∀ i, i < n → listed.getD i true = true → G i (xs i) w) →
      (∀ i j, i < n → j < n → i ≠ j → Fr i → Fr j → listed.getD i true = true → listed.getD j true = true → xs i ≠ xs j) → wpAny P md ops Q f listed (act xs) w := by
  intro f
  induction f with
  | zero =>
    intro listed xs w hw inv hcn hg hfr
    exfalso
    have hsz := inv.size
    have h1 := inv.tail n (Nat.le_refl _) hn
    have h2 : n < listed.size := by omega
    simp only [Array.getD_eq_getD_getElem?, Array.getElem?_eq_getElem h2, Option.getD_some] at h1
    have : false ∈ listed.toList := by rw [← h1]; simp
    have := List.count_pos_iff.2 this
    omega
  | succ f ih =>
    intro listed xs w hw inv hcn hg hfr
    have hsz := inv.size
    by_cases hall : ∀ i, i < n → listed.getD i true = true
    · have hd := headDone_of hn inv hall
      have hcount : (headDone n (ops.size - n)).toList.count false = ops.size - n := by
        simp [headDone, List.count_replicate]
      rw [hd, hcount] at hcn
      have hlen : (l.drop n).length = ops.size - n := by rw [← hl]; simp
      have := wpAny_of_seq (P := P) (md := md) (ops := ops) (Q' := Q) (l.drop n) n (headDone n (ops.size - n)) (act xs) w (fun j => by rw [← hl]; simp [List.getElem?_drop]) (by rw [hlen]; exact hseq) (hend xs w hw (fun i hi => hg i hi (hall i hi)) fun i j hi hj hne fi fj => hfr i j hi hj hne fi fj (hall i hi) (hall j hj))
      rw [hlen] at this
      rw [hd]
      rw [hcn] at this ⊢
      exact this
    · have hex : ∃ i, i < n ∧ listed.getD i true = false := by
        apply Classical.byContradiction
        intro hne
        apply hall
        intro i hi
        cases hx : listed.getD i true with
        | true => rfl
        | false => exact absurd ⟨i, hi, hx⟩ hne
      refine ⟨fun hr => ?_, fun i hi => ?_⟩
      · exfalso
        apply hall
        intro i
        induction i using Nat.strongRecOn with
        | _ i ihi =>
          intro hi
          cases hlx : listed.getD i true with
          | true => rfl
          | false =>
            have hio : i < ops.size := by omega
            have : i ∈ Region.ready md ops listed := by
              refine mem_ready.2 ⟨hlx, ops[i], by simp [hio], fun e he hb => ?_⟩
              have hlt := hwf i ops[i] (by simp [hio]) hi e he hb
              have h1 := ihi e.on hlt (by omega)
              have h2 : e.on < listed.size := by omega
              simp only [Array.getD_eq_getD_getElem?, Array.getElem?_eq_getElem h2, Option.getD_some] at h1 ⊢
              exact h1
            rw [hr] at this
            cases this
      · obtain ⟨i0, hi0, hx0⟩ := hex
        have hin : i < n := Nat.lt_of_not_le fun h => tail_waits hs hc hn inv (n - i0) i0 rfl hi0 hx0 i h hi
        obtain ⟨hun, o, ho, hdep⟩ := mem_ready.1 hi
        have hilt := (Array.getElem?_eq_some_iff.1 ho).1
        refine wpOp_of_one ho (fun a' w' h => ?_) (fun e a' w' h => h.1) (hop i o ho hin xs w hw fun e he hb => ?_)
        · obtain ⟨_, v, rfl, hww, hv, hfv⟩ := h
          rw [hput i o xs v ho hin]
          refine ih _ _ w' (hR _ _ _ hw hww) (inv.set hi hin) ?_ (fun j hj hlj => ?_) fun j k hj hk hne fj fk lj lk => ?_
          · have h2 : i < listed.size := by omega
            have h3 : listed[i] = false := by simpa [Array.getD_eq_getD_getElem?, Array.getElem?_eq_getElem h2] using hun
            have := count_set_one listed.toList i (by simp [h2, h3])
            rw [Array.toList_setIfInBounds]
            omega
          · by_cases hji : j = i
            · subst hji
              simpa using hv
            · rw [getD_set_ne true (Ne.symm hji)] at hlj
              simp only [if_neg hji]
              exact hG j _ w w' hw hww (hg j hj hlj)
          · by_cases hji : j = i
            · subst hji
              rw [getD_set_ne true hne] at lk
              simp only [if_neg (Ne.symm hne)]
              exact (hfv fj k fk _ (hg k hk lk)).symm
            · rw [getD_set_ne true (Ne.symm hji)] at lj
              by_cases hki : k = i
              · subst hki
                simp only [if_neg hne]
                exact hfv fk j fj _ (hg j hj lj)
              · rw [getD_set_ne true (Ne.symm hki)] at lk
                simp only [if_neg hji, if_neg hki]
                exact hfr j k hj hk hne fj fk lj lk
        · have h1 := hdep e he hb
          have hlt := hwf i o ho hin e he hb
          refine hg e.on (by omega) ?_
          have h3 : e.on < listed.size := by omega
          simp only [Array.getD_eq_getD_getElem?, Array.getElem?_eq_getElem h3, Option.getD_some] at h1 ⊢
          exact h1

def flowTB (md : Region.Mode) (ops : Array Oper) (n : Nat) (srcs : List (Option Nat)) : Bool :=
  (List.range n).all fun i => ((ops[i]?).map (fun o => (o.after.all fun e => !Region.binds md e || decide (e.on < i)) &&
    (List.range srcs.length).all fun s => decide ((srcs.getD s none = some i) ↔ (o.dst = some s)))).getD true
theorem flowTB_take {l : List Oper} {n : Nat} {srcs : List (Option Nat)} (h : flowTB md l.toArray n srcs = true) : flowB md (l.take n).toArray srcs = true := by
  refine List.all_eq_true.2 fun i hi => ?_
  have hlt : i < (l.take n).length := by simpa using List.mem_range.1 hi
  have h1 := List.all_eq_true.1 h i (List.mem_range.2 (by simp at hlt; omega))
  have e : (l.take n).toArray[i]? = l.toArray[i]? := by simp [List.getElem?_take]; intro hh; simp at hlt; omega
  rw [e]
  exact h1

def flowOpsF (P : Program) (md : Region.Mode) (ops : Array Oper) (a : Act) (srcs : List (Option Nat)) (Gs : List (Value → World → Prop)) (Fr : Nat → Prop) (w0 : World) : List Oper → Nat → Prop
  | [], _ => True
  | o :: l, k => (∀ xs w, Below w0.heap.size w0 w → flowNeeds md Gs xs w o.after.toList → wpList P ops (FlowEndF (flowAct a srcs xs) o (fun x y => Below x.heap.size x y) (fun i => Gs.getD i fun _ _ => True) Fr k w) [o] (flowAct a srcs xs) w) ∧ flowOpsF P md ops a srcs Gs Fr w0 l (k + 1)
theorem flowOpsF_get {a : Act} {srcs : List (Option Nat)} {Gs : List (Value → World → Prop)} {Fr : Nat → Prop} {w0 : World} : ∀ (l : List Oper) (k : Nat), flowOpsF P md ops a srcs Gs Fr w0 l k → ∀ i o, l[i]? = some o →
    ∀ xs w, Below w0.heap.size w0 w → flowNeeds md Gs xs w o.after.toList → wpList P ops (FlowEndF (flowAct a srcs xs) o (fun x y => Below x.heap.size x y) (fun i => Gs.getD i fun _ _ => True) Fr (k + i) w) [o] (flowAct a srcs xs) w
  | [], _, _, i, o, h => by simp at h
  | o' :: l, k, hh, 0, o, h => by
    obtain rfl : o' = o := by simpa using h
    exact hh.1
  | o' :: l, k, hh, i + 1, o, h => by
    have := flowOpsF_get l (k + 1) hh.2 i o (by simpa using h)
    rwa [show k + 1 + i = k + (i + 1) by omega] at this

theorem wp_region_flow_tail {id : Nat} {Q : Exit → Act → World → Prop} {l : List Oper} {a : Act} {w : World} (n : Nat) (srcs : List (Option Nat)) (xs0 : Nat → Value) (Gs : List (Value → World → Prop)) (Fr : Nat → Prop) (hm : P.follows .mixedOrders = true)
    (hB : flowTB .any l.toArray n srcs = true) (hT : (decide (n < l.toArray.size) && Region.sinkB .any l.toArray n && Region.chainB .any l.toArray n && Region.seqB .any l.toArray (l.toArray.size - n) n (headDone n (l.toArray.size - n))) = true)
    (hl : a.tmps.size = srcs.length) (h0 : flowAct a srcs xs0 = a) (hn : Gs.length = n)
    (hG : ∀ g ∈ Gs, ∀ v x y, Below w.heap.size w x → Below x.heap.size x y → g v x → g v y)
    (hops : flowOpsF P .any l.toArray a srcs Gs Fr w (l.take n) 0)
    (hend : ∀ xs w', Below w.heap.size w w' → flowAll xs w' Gs 0 → (∀ i j, i < n → j < n → i ≠ j → Fr i → Fr j → xs i ≠ xs j) → wpList P l.toArray Q (l.drop n) (flowAct a srcs xs) w') : (Code.region id l.toArray true).wp P Q a w := by
  simp only [Bool.and_eq_true, decide_eq_true_eq] at hT
  obtain ⟨⟨⟨t1, t2⟩, t3⟩, t4⟩ := hT
  have hB' := flowTB_take hB
  have tk : ∀ i o, l.toArray[i]? = some o → i < n → (l.take n).toArray[i]? = some o := fun i o ho hi => by
    simp only [List.getElem?_toArray] at ho ⊢
    rw [List.getElem?_take, if_pos hi]
    exact ho
  refine wp_region_any hm ?_
  have := wpAny_flow_tail (P := P) (ops := l.toArray) (md := .any) (Q := Q) (flowAct a srcs) (fun x y => Below x.heap.size x y) (fun i => Gs.getD i fun _ _ => True) Fr w n l rfl t1 t2 t3 t4
    (fun a b c h1 h2 => h1.trans (h2.mono h1.size)) (fun i v x y h1 h2 h3 => ?_) (fun i o ho hi => (flowB_spec hB' (tk i o ho hi)).1) (fun i o xs v ho hi => flowAct_put hB' hl (tk i o ho hi) xs v)
    (fun i o ho hi xs x hx hn => by
      have := flowOpsF_get (l.take n) 0 hops i o (by simpa using tk i o ho hi) xs x hx (flowNeeds_of _ fun e he hb => hn e (by simpa using he) hb)
      rwa [Nat.zero_add] at this)
    (fun xs x hx hg hf => hend xs x hx (flowAll_of Gs 0 fun i hi => by rw [Nat.zero_add]; exact hg i (by omega)) hf)
    l.toArray.size (Array.replicate l.toArray.size false) xs0 { w with drawn := w.drawn + 1 } ⟨rfl, rfl, rfl, Nat.le_refl _, fun _ _ => rfl⟩
    ⟨by simp, fun j oj hj hl => (by rw [getD_replicate_false] at hl; cases hl), fun t _ ht => by
      rw [Array.getD_eq_getD_getElem?, Array.getElem?_eq_getElem (by simpa using ht)]; simp⟩ (by simp) (fun i hi hl => by
      exfalso
      rw [Array.getD_eq_getD_getElem?, Array.getElem?_eq_getElem (by simp at t1 ⊢; omega)] at hl
      simp at hl) (fun i j hi hj hne fi fj li lj => by
      exfalso
      rw [Array.getD_eq_getD_getElem?, Array.getElem?_eq_getElem (by simp at t1 ⊢; omega)] at li
      simp at li)
  · rwa [h0] at this
  · by_cases hi : i < Gs.length
    · have hm := List.getElem_mem hi
      rw [List.getD_eq_getElem?_getD, List.getElem?_eq_getElem hi] at h3 ⊢
      exact hG _ hm v x y h1 h2 h3
    · rw [List.getD_eq_getElem?_getD, List.getElem?_eq_none (by omega)]
      trivial
end
end Go.Proofs.YtioeimkaljmffaaGreatDoor
end

section
namespace Go.Proofs.YtioeimkaljmffaaGreatDoor
open Go.RowKit Go
set_option linter.unusedVariables false

theorem own_kept {W W' : World} {B s k : Nat} {e : TypeId} {v : Value} {xs : List Value} (h : W.ownsRow B e s v k xs) (hb : Below W.heap.size W W') : W'.ownsRow B e s v k xs := by
  refine ⟨h.1, ?_⟩
  rcases h.2 with hn | ⟨g, cap, cur, rfl, hB, hg, rest⟩
  · exact .inl hn
  · exact .inr ⟨g, cap, cur, rfl, hB, by rw [hb.block g (Array.getElem?_eq_some_iff.1 hg).1]; exact hg, rest⟩
theorem own_mono {W : World} {B B' s k : Nat} {e : TypeId} {v : Value} {xs : List Value} (h : W.ownsRow B e s v k xs) (hB : B' ≤ B) : W.ownsRow B' e s v k xs := by
  refine ⟨h.1, ?_⟩
  rcases h.2 with hn | ⟨g, cap, cur, rfl, hb, rest⟩
  · exact .inl hn
  · exact .inr ⟨g, cap, cur, rfl, by omega, rest⟩
end Go.Proofs.YtioeimkaljmffaaGreatDoor
end

section
namespace Go.Proofs.YtioeimkaljmffaaGreatDoor
open Go.RowKit Go Go.Sort
set_option linter.unusedVariables false
set_option maxRecDepth 20000

/-- A list that lies in memory: 'arr' tells the cells of an element, sz of them. -/
structure Ls {α : Type} (sz : Nat) (arr : α → Array Value) (z : α) (w : World) (a : Option Addr) (n cap : Nat) (l : List α) : Prop where
  len : l.length = n
  le : n ≤ cap
  max : cap ≤ 9223372036854775807
  adr : cap = 0 ∨ ∃ b off, a = some ⟨b, off, none⟩ ∧ ∀ i, i < n → ∀ j v, (arr (l.getD i z))[j]? = some v → w.cell? ⟨b, off + i * sz + j, none⟩ = some v
section
variable {α : Type} {sz : Nat} {arr : α → Array Value} {z : α}
theorem Ls.below {w w' : World} {a : Option Addr} {n cap : Nat} {l : List α} (h : Ls sz arr z w a n cap l) (hb : Below w.heap.size w w') : Ls sz arr z w' a n cap l := by
  refine ⟨h.len, h.le, h.max, ?_⟩
  rcases h.adr with h4 | ⟨b, off, rfl, hc⟩
  · exact .inl h4
  · exact .inr ⟨b, off, rfl, fun i hi j v hj => (hb.cell (World.block_lt_of_cell? w _ (hc i hi j v hj))).trans (hc i hi j v hj)⟩
/-- What a place holds, in every world in which nothing of the old is turned. -/
theorem Ls.at {w : World} {a : Option Addr} {n cap : Nat} {l : List α} (h : Ls sz arr z w a n cap l) {k : Nat} (hk : k < n) :
    ∃ b off, a = some ⟨b, off, none⟩ ∧ ∀ W, Below w.heap.size w W → ∀ j v, (arr (l.getD k z))[j]? = some v → W.cell? ⟨b, off + k * sz + j, none⟩ = some v := by
  have := h.le
  rcases h.adr with h4 | ⟨b, off, rfl, hc⟩
  · omega
  · exact ⟨b, off, rfl, fun W hb j v hj => (hb.cell (World.block_lt_of_cell? w _ (hc k hk j v hj))).trans (hc k hk j v hj)⟩
theorem Ls.nil (w : World) : Ls sz arr z w none 0 0 [] := ⟨rfl, Nat.le_refl _, by omega, .inl rfl⟩
theorem Ls.take {w : World} {a : Option Addr} {n cap : Nat} {l : List α} (h : Ls sz arr z w a n cap l) {k : Nat} (hk : k ≤ n) : Ls sz arr z w a k cap (l.take k) := by
  have hl := h.len
  have hle := h.le
  refine ⟨by rw [List.length_take]; omega, by omega, h.max, ?_⟩
  rcases h.adr with h4 | ⟨b, off, rfl, hc⟩
  · exact .inl h4
  · refine .inr ⟨b, off, rfl, fun i hi => ?_⟩
    have := hc i (by omega)
    rw [List.getD_eq_getElem?_getD] at this ⊢
    rwa [List.getElem?_take_of_lt hi]
/-- The cells of a list. -/
def lCells (arr : α → Array Value) (l : List α) : List Value := l.flatMap (fun c => (arr c).toList)
theorem lCells_length (hs : ∀ c, (arr c).size = sz) (l : List α) : (lCells arr l).length = l.length * sz := by
  induction l with
  | nil => simp [lCells]
  | cons c l ih =>
    simp only [lCells, List.flatMap_cons, List.length_append, List.length_cons] at ih ⊢
    rw [ih, Array.length_toList, hs c, Nat.succ_mul]
    omega
theorem lCells_append (l m : List α) : lCells arr (l ++ m) = lCells arr l ++ lCells arr m := by simp [lCells]
theorem lCells_get (hs : ∀ c, (arr c).size = sz) : ∀ (l : List α) (i j : Nat), i < l.length → j < sz → (lCells arr l)[i * sz + j]? = (arr (l.getD i z))[j]?
  | [], i, j, h, _ => by simp at h
  | c :: r, 0, j, _, hj => by
    simp only [lCells, List.flatMap_cons, List.getD_cons_zero, Nat.zero_mul, Nat.zero_add]
    rw [List.getElem?_append_left (by rw [Array.length_toList, hs]; exact hj)]
    simp
  | c :: r, i + 1, j, h, hj => by
    have := lCells_get hs r i j (by simpa using h) hj
    simp only [List.getD_cons_succ]
    rw [← this]
    simp only [lCells, List.flatMap_cons]
    rw [List.getElem?_append_right (by rw [Array.length_toList, hs, Nat.succ_mul]; omega), Array.length_toList, hs]
    congr 1
    rw [Nat.succ_mul]
    omega
/-- A slice of the call's own that reads as the list l. -/
def OwnL (sz : Nat) (ty : TypeId) (arr : α → Array Value) (w : World) (B : Nat) (v : Value) (l : List α) : Prop := w.ownsRow B ty sz v l.length (lCells arr l)
theorem OwnL.nil (ty : TypeId) (w : World) (B : Nat) : OwnL sz ty arr w B (.slice none 0 0) [] := World.ownsRow_nil _ _ _ _
theorem OwnL.ls {ty : TypeId} {w : World} {B : Nat} {v : Value} {l : List α} (hs : ∀ c, (arr c).size = sz) (h : OwnL sz ty arr w B v l) : ∃ a cap, v = .slice a l.length cap ∧ Ls sz arr z w a l.length cap l := by
  obtain ⟨h1, h2⟩ := h
  rcases h2 with ⟨rfl, hn⟩ | ⟨g, cap, cur, rfl, hb, hg, hnc, hcm, hcs, htake⟩
  · exact ⟨none, 0, by rw [hn], rfl, by omega, by omega, .inl rfl⟩
  · refine ⟨_, cap, rfl, rfl, hnc, by unfold maxLen at hcm; omega, .inr ⟨g, 0, rfl, fun i hi j v hj => ?_⟩⟩
    have hjs : j < sz := by have := (Array.getElem?_eq_some_iff.1 hj).1; rwa [hs] at this
    have c1 := lCells_get (z := z) hs l i j hi hjs
    have hlt : i * sz + j < l.length * sz := by
      have h9 : (i + 1) * sz ≤ l.length * sz := Nat.mul_le_mul_right sz hi
      rw [Nat.succ_mul] at h9
      omega
    rw [← htake, List.getElem?_take, if_pos hlt, hj] at c1
    rw [Nat.zero_add, cell_of_row w g _ cur _ (0, 0) hg, ← c1]
    simp
theorem OwnL.kept {ty : TypeId} {w w' : World} {B : Nat} {v : Value} {l : List α} (h : OwnL sz ty arr w B v l) (hb : Below w.heap.size w w') : OwnL sz ty arr w' B v l := own_kept h hb
theorem OwnL.mono {ty : TypeId} {w : World} {B B' : Nat} {v : Value} {l : List α} (h : OwnL sz ty arr w B v l) (hB : B' ≤ B) : OwnL sz ty arr w B' v l := own_mono h hB
theorem OwnL.lt {ty : TypeId} {w : World} {B : Nat} {v : Value} {l : List α} (h : OwnL sz ty arr w B v l) : ∀ k, v.ownBlock = some k → B ≤ k ∧ k < w.heap.size := World.ownsRow.lt h
theorem OwnL.of_block {ty : TypeId} {w w' : World} {B : Nat} {v : Value} {l : List α} (h : OwnL sz ty arr w B v l) (hb : ∀ q, v.ownBlock = some q → w'.heap[q]? = w.heap[q]?) : OwnL sz ty arr w' B v l := by
  obtain ⟨hlen, ⟨ev, hn⟩ | ⟨g, cap, cur, ev, hB, hg, hnc, hcm, hcs, htake⟩⟩ := h
  · exact ⟨hlen, .inl ⟨ev, hn⟩⟩
  · exact ⟨hlen, .inr ⟨g, cap, cur, ev, hB, (hb g (by subst ev; rfl)).trans hg, hnc, hcm, hcs, htake⟩⟩
end
end Go.Proofs.YtioeimkaljmffaaGreatDoor
end

section
namespace Go.Proofs.YtioeimkaljmffaaGreatDoor
open Go Go.RowKit
set_option linter.unusedVariables false

section
variable {P : Program} {ops : Array Oper} {md : Region.Mode}

/-- How one operation ends: the invariant holds with it. -/
def InvEnd (Inv : (Nat → Bool) → (Nat → Value) → World → Prop) (a : Act) (o : Oper) (i : Nat) (L : Nat → Bool) (xs : Nat → Value) (e : Exit) (a' : Act) (w' : World) : Prop :=
  e = .normal ∧ ∃ v, a' = a.put o.dst v ∧ Inv (fun j => if j = i then true else L j) (fun j => if j = i then v else xs j) w'

theorem wpAny_inv {Q : Exit → Act → World → Prop} (act : (Nat → Value) → Act) (Inv : (Nat → Bool) → (Nat → Value) → World → Prop)
    (hwf : ∀ i o, ops[i]? = some o → ∀ e ∈ o.after, Region.binds md e = true → e.on < i)
    (hput : ∀ i o xs v, ops[i]? = some o → (act xs).put o.dst v = act (fun j => if j = i then v else xs j))
    (hop : ∀ i o, ops[i]? = some o → ∀ L xs w, Inv L xs w → L i = false → (∀ e ∈ o.after, Region.binds md e = true → L e.on = true) → wpList P ops (InvEnd Inv (act xs) o i L xs) [o] (act xs) w)
    (hend : ∀ L xs w, Inv L xs w → (∀ i, i < ops.size → L i = true) → Q .normal (act xs) w) :
    ∀ (f : Nat) (listed : Array Bool) (xs : Nat → Value) (w : World), Inv (fun i => listed.getD i true) xs w → listed.size = ops.size → listed.toList.count false ≤ f → wpAny P md ops Q f listed (act xs) w := by
  have hnone : ∀ (listed : Array Bool), listed.size = ops.size → Region.ready md ops listed = [] → ∀ i, i < ops.size → listed.getD i true = true := by
    intro listed hs hr i
    induction i using Nat.strongRecOn with
    | _ i ih =>
      intro hi
      cases hl : listed.getD i true with
      | true => rfl
      | false =>
        have : i ∈ Region.ready md ops listed := by
          refine mem_ready.2 ⟨hl, ops[i], by simp [hi], fun e he hb => ?_⟩
          have hlt := hwf i ops[i] (by simp [hi]) e he hb
          have h1 := ih e.on hlt (by omega)
          have h2 : e.on < listed.size := by omega
          simp only [Array.getD_eq_getD_getElem?, Array.getElem?_eq_getElem h2, Option.getD_some] at h1 ⊢
          exact h1
        rw [hr] at this
        cases this
  intro f
  induction f with
  | zero =>
    intro listed xs w hI hs hc
    have hall : ∀ i, i < ops.size → listed.getD i true = true := by
      intro i hi
      cases hl : listed.getD i true with
      | true => rfl
      | false =>
        have h2 : i < listed.size := by omega
        have h3 : listed[i] = false := by simpa [Array.getD_eq_getD_getElem?, Array.getElem?_eq_getElem h2] using hl
        have : false ∈ listed.toList := by rw [← h3]; simp
        have := List.count_pos_iff.2 this
        omega
    refine ⟨?_, hend _ xs w hI hall⟩
    cases hr : Region.ready md ops listed with
    | nil => rfl
    | cons i r =>
      have hm : i ∈ Region.ready md ops listed := by rw [hr]; simp
      obtain ⟨hun, o, ho, _⟩ := mem_ready.1 hm
      have := hall i (Array.getElem?_eq_some_iff.1 ho).1
      rw [hun] at this
      cases this
  | succ f ih =>
    intro listed xs w hI hs hc
    refine ⟨fun hr => hend _ xs w hI (hnone listed hs hr), fun i hi => ?_⟩
    obtain ⟨hun, o, ho, hall⟩ := mem_ready.1 hi
    have hilt := (Array.getElem?_eq_some_iff.1 ho).1
    have h2 : i < listed.size := by omega
    refine wpOp_of_one ho (fun a' w' h => ?_) (fun e a' w' h => h.1) (hop i o ho _ xs w hI hun fun e he hb => ?_)
    · obtain ⟨_, v, rfl, hI'⟩ := h
      rw [hput i o xs v ho]
      refine ih _ _ w' ?_ (by simpa using hs) ?_
      · have hfe : (fun j => (listed.setIfInBounds i true).getD j true) = (fun j => if j = i then true else listed.getD j true) := by
          funext j
          by_cases hji : j = i
          · subst hji
            simp [Array.getD_eq_getD_getElem?, h2]
          · rw [getD_set_ne true (Ne.symm hji), if_neg hji]
        rw [hfe]
        exact hI'
      · have h3 : listed[i] = false := by simpa [Array.getD_eq_getD_getElem?, Array.getElem?_eq_getElem h2] using hun
        have := count_set_lt listed.toList i (by simp [h2, h3])
        rw [Array.toList_setIfInBounds]
        omega
    · have h1 := hall e he hb
      have h3 : e.on < listed.size := by have := hwf i o ho e he hb; omega
      simp only [Array.getD_eq_getD_getElem?, Array.getElem?_eq_getElem h3, Option.getD_some] at h1 ⊢
      exact h1

def invNeeds (md : Region.Mode) (L : Nat → Bool) : List Edge → Prop
  | [] => True
  | e :: l => (Region.binds md e = true → L e.on = true) ∧ invNeeds md L l
theorem invNeeds_of {L : Nat → Bool} : ∀ (l : List Edge), (∀ e ∈ l, Region.binds md e = true → L e.on = true) → invNeeds md L l
  | [], _ => trivial
  | e :: l, h => ⟨h e (by simp), invNeeds_of l fun e' he => h e' (by simp [he])⟩
def invOps (P : Program) (md : Region.Mode) (ops : Array Oper) (a : Act) (srcs : List (Option Nat)) (Inv : (Nat → Bool) → (Nat → Value) → World → Prop) : List Oper → Nat → Prop
  | [], _ => True
  | o :: l, k => (∀ L xs w, Inv L xs w → L k = false → invNeeds md L o.after.toList → wpList P ops (InvEnd Inv (flowAct a srcs xs) o k L xs) [o] (flowAct a srcs xs) w) ∧ invOps P md ops a srcs Inv l (k + 1)
theorem invOps_get {a : Act} {srcs : List (Option Nat)} {Inv : (Nat → Bool) → (Nat → Value) → World → Prop} : ∀ (l : List Oper) (k : Nat), invOps P md ops a srcs Inv l k → ∀ i o, l[i]? = some o →
    ∀ L xs w, Inv L xs w → L (k + i) = false → invNeeds md L o.after.toList → wpList P ops (InvEnd Inv (flowAct a srcs xs) o (k + i) L xs) [o] (flowAct a srcs xs) w
  | [], _, _, i, o, h => by simp at h
  | o' :: l, k, hh, 0, o, h => by
    obtain rfl : o' = o := by simpa using h
    exact hh.1
  | o' :: l, k, hh, i + 1, o, h => by
    have := invOps_get l (k + 1) hh.2 i o (by simpa using h)
    rwa [show k + 1 + i = k + (i + 1) by omega] at this
theorem wp_region_inv {id : Nat} {Q : Exit → Act → World → Prop} {l : List Oper} {a : Act} {w : World} (srcs : List (Option Nat)) (xs0 : Nat → Value) (Inv : (Nat → Bool) → (Nat → Value) → World → Prop) (hm : P.follows .mixedOrders = true)
    (hB : flowB .any l.toArray srcs = true) (hl : a.tmps.size = srcs.length) (h0 : flowAct a srcs xs0 = a)
    (hI0 : ∀ L, (∀ i, i < l.length → L i = false) → Inv L xs0 { w with drawn := w.drawn + 1 })
    (hops : invOps P .any l.toArray a srcs Inv l 0)
    (hend : ∀ L xs w', Inv L xs w' → (∀ i, i < l.length → L i = true) → Q .normal (flowAct a srcs xs) w') : (Code.region id l.toArray true).wp P Q a w := by
  refine wp_region_any hm ?_
  have := wpAny_inv (P := P) (ops := l.toArray) (md := .any) (Q := Q) (flowAct a srcs) Inv
    (fun i o ho => (flowB_spec hB ho).1) (fun i o xs v ho => flowAct_put hB hl ho xs v)
    (fun i o ho L xs x hI hL hn => by
      have := invOps_get l 0 hops i o (by simpa using ho) L xs x hI (by rwa [Nat.zero_add]) (invNeeds_of _ fun e he hb => hn e (by simpa using he) hb)
      rwa [Nat.zero_add] at this)
    (fun L xs x hI hL => hend L xs x hI (fun i hi => hL i (by simpa using hi)))
    l.toArray.size (Array.replicate l.toArray.size false) xs0 { w with drawn := w.drawn + 1 } (hI0 _ fun i hi => by
      rw [Array.getD_eq_getD_getElem?, Array.getElem?_eq_getElem (by simpa using hi)]; simp) (by simp) (by simp)
  rwa [h0] at this
end
end Go.Proofs.YtioeimkaljmffaaGreatDoor
end

section
namespace Go.Proofs.YtioeimkaljmffaaGreatDoor
open Go Go.RowKit
set_option linter.unusedVariables false

structure InvQ (S : List Nat) (n : Nat) (V : Nat → Value → Prop) (R : Nat → World → Prop) (L : Nat → Bool) (xs : Nat → Value) (W : World) : Prop where
  val : ∀ i, i < n → L i = true → V i (xs i)
  stage : ∃ k, k ≤ S.length ∧ (∀ j p, S[j]? = some p → (L p = true ↔ j < k)) ∧ R k W
section
variable {S : List Nat} {n : Nat} {V : Nat → Value → Prop} {R : Nat → World → Prop} {L : Nat → Bool} {xs : Nat → Value} {W W' : World}
theorem InvQ.start {m : Nat} (hL : ∀ i, i < m → L i = false) (hS : ∀ p ∈ S, p < m) (hn : n ≤ m) (hr : R 0 W) : InvQ S n V R L xs W :=
  ⟨fun i hi h => (by rw [hL i (by omega)] at h; cases h), 0, Nat.zero_le _, fun j p hj => ⟨fun h => (by rw [hL p (hS p (List.mem_of_getElem? hj))] at h; cases h), fun h => absurd h (Nat.not_lt_zero _)⟩, hr⟩
theorem InvQ.pure (h : InvQ S n V R L xs W) (i : Nat) (hi : i ∉ S) {v : Value} (hW : ∀ k, R k W → R k W') (hv : V i v) : InvQ S n V R (fun j => if j = i then true else L j) (fun j => if j = i then v else xs j) W' := by
  obtain ⟨k, hk, hs, hr⟩ := h.stage
  refine ⟨fun j hj hL => ?_, k, hk, fun j p hp => ?_, hW k hr⟩
  · by_cases e : j = i
    · subst e; simpa using hv
    · simp only [if_neg e] at hL ⊢; exact h.val j hj hL
  · have e : p ≠ i := fun e => hi (e ▸ List.mem_of_getElem? hp)
    simp only [if_neg e]
    exact hs j p hp
theorem InvQ.at (h : InvQ S n V R L xs W) {i : Nat} (j : Nat) (hj : S[j]? = some i) (hL : L i = false) (hp : ∀ p, (0 < j ∧ S[j - 1]? = some p) → L p = true) : R j W := by
  obtain ⟨k, hk, hs, hr⟩ := h.stage
  have h1 : ¬ j < k := fun h2 => by rw [(hs j i hj).2 h2] at hL; cases hL
  by_cases h0 : j = 0
  · subst h0
    obtain rfl : k = 0 := by omega
    exact hr
  · have hlt : j < S.length := (List.getElem?_eq_some_iff.1 hj).1
    have h3 : S[j - 1]? = some S[j - 1] := List.getElem?_eq_getElem (by omega)
    have h4 := (hs (j - 1) _ h3).1 (hp _ ⟨by omega, h3⟩)
    obtain rfl : k = j := by omega
    exact hr
theorem InvQ.step (h : InvQ S n V R L xs W) {i : Nat} (j : Nat) (hj : S[j]? = some i) (hL : L i = false) (hp : ∀ p, (0 < j ∧ S[j - 1]? = some p) → L p = true) (hnd : S.Nodup) {v : Value} (hr : R (j + 1) W') (hv : V i v) :
    InvQ S n V R (fun j => if j = i then true else L j) (fun j => if j = i then v else xs j) W' := by
  obtain ⟨k, hk, hs, -⟩ := h.stage
  have hlt : j < S.length := (List.getElem?_eq_some_iff.1 hj).1
  have h1 : ¬ j < k := fun h2 => by rw [(hs j i hj).2 h2] at hL; cases hL
  have hkj : k = j := by
    by_cases h0 : j = 0
    · omega
    · have h3 : S[j - 1]? = some S[j - 1] := List.getElem?_eq_getElem (by omega)
      have h4 := (hs (j - 1) _ h3).1 (hp _ ⟨by omega, h3⟩)
      omega
  subst hkj
  refine ⟨fun q hq hL => ?_, k + 1, by omega, fun q p hp9 => ?_, hr⟩
  · by_cases e : q = i
    · subst e; simpa using hv
    · simp only [if_neg e] at hL ⊢; exact h.val q hq hL
  · by_cases e : p = i
    · have hq : q = k := (List.getElem?_inj (List.getElem?_eq_some_iff.1 hp9).1 hnd).1 (by rw [hp9, hj, e])
      simp [e, hq]
    · simp only [if_neg e]
      rw [hs q p hp9]
      have hne : q ≠ k := fun e2 => e (by rw [e2, hj] at hp9; injection hp9 with hp9; exact hp9.symm)
      omega
theorem InvQ.any (h : InvQ S n V R L xs W) : ∃ k, k ≤ S.length ∧ R k W := by
  obtain ⟨k, hk, -, hr⟩ := h.stage
  exact ⟨k, hk, hr⟩
theorem InvQ.done {m : Nat} (h : InvQ S n V R L xs W) (hL : ∀ i, i < m → L i = true) (hS : ∀ p ∈ S, p < m) (hn : n ≤ m) : R S.length W ∧ ∀ i, i < n → V i (xs i) := by
  obtain ⟨k, hk, hs, hr⟩ := h.stage
  refine ⟨?_, fun i hi => h.val i hi (hL i (by omega))⟩
  by_cases e : k = S.length
  · rw [← e]; exact hr
  · have h3 : S[k]? = some S[k] := List.getElem?_eq_getElem (by omega)
    have := (hs k _ h3).1 (hL _ (hS _ (List.mem_of_getElem? h3)))
    omega
end
end Go.Proofs.YtioeimkaljmffaaGreatDoor
end

section
namespace Go.Proofs.YtioeimkaljmffaaGreatDoor
open Go.RowKit Go Go.Sort Go.Maps
set_option linter.unusedVariables false
set_option maxRecDepth 20000

/-- A file: its name, its bytes, how many of them are sure. -/
structure Fi where
  nm : List UInt8
  b : List UInt8
  su : Nat
/-- A disk. -/
structure Ds where
  room : Int
  F : List Fi
  on : Bool
  ops : Int
  fails : Int
  plan : Bool
  pn : Int
  keep : Int
def wr64 (x : Int) : Int := IntKind.i64.wrap x
def loseN (keep : Int) (l s : Nat) : Nat := s + (min (max keep 0) ((l : Int) - (s : Int))).toNat
def Fi.lose (keep : Int) (f : Fi) : Fi := ⟨f.nm, f.b.take (loseN keep f.b.length f.su), loseN keep f.b.length f.su⟩
def setF (nm : List UInt8) (g : Fi → Fi) (F : List Fi) : List Fi := F.map (fun f => if f.nm = nm then g f else f)
def insF (f : Fi) : List Fi → List Fi
  | [] => [f]
  | y :: r => if Op.bytesLess f.nm y.nm then f :: y :: r else y :: insF f r
def delF (nm : List UInt8) (F : List Fi) : List Fi := F.filter (fun f => !(f.nm == nm))
def lookF (F : List Fi) (nm : List UInt8) : Option Fi := F.find? (fun f => f.nm == nm)
def usedF (F : List Fi) : Nat := (F.map (fun f => f.b.length)).sum
def nmB (c : UInt8) : Bool := (97 ≤ c && c ≤ 122) || (48 ≤ c && c ≤ 57)
def goodNm (s : List UInt8) : Bool := decide (1 ≤ s.length ∧ s.length ≤ 24) && s.all nmB
def Ds.lost (st : Ds) (keep : Int) (F : List Fi) : Ds := { st with F := F.map (Fi.lose keep), on := false, fails := wr64 (st.fails + 1), plan := false }
def Ds.opd (st : Ds) (gd ga : List Fi → List Fi) : Int × Ds :=
  if st.plan = true ∧ st.pn = 0 then (150, st.lost st.keep (ga st.F))
  else (0, { st with F := gd st.F, ops := wr64 (st.ops + 1), pn := if st.plan = true then st.pn - 1 else st.pn })
def Ds.make (st : Ds) (nm : List UInt8) : Int × Ds :=
  if st.on = false then (150, st) else if goodNm nm = false then (2, st) else if (lookF st.F nm).isSome = true then (153, st) else if 64 ≤ st.F.length then (151, st) else st.opd (insF ⟨nm, [], 0⟩) id
def Ds.append (st : Ds) (nm b : List UInt8) : Int × Ds :=
  if st.on = false then (150, st) else match lookF st.F nm with
  | none => (152, st)
  | some f => if 1048576 < f.b.length + b.length then (3, st) else if st.room < (usedF st.F : Int) + b.length then (151, st) else st.opd (setF nm fun f => ⟨f.nm, f.b ++ b, f.su⟩) (setF nm fun f => ⟨f.nm, f.b ++ b, f.su⟩)
def Ds.sync (st : Ds) (nm : List UInt8) : Int × Ds :=
  if st.on = false then (150, st) else match lookF st.F nm with
  | none => (152, st)
  | some f => st.opd (setF nm fun f => ⟨f.nm, f.b, f.b.length⟩) id
def Ds.cut (st : Ds) (nm : List UInt8) (n : Int) : Int × Ds :=
  if st.on = false then (150, st) else match lookF st.F nm with
  | none => (152, st)
  | some f => if n < 0 ∨ (f.b.length : Int) < n then (2, st) else st.opd (setF nm fun f => ⟨f.nm, f.b.take n.toNat, min f.su n.toNat⟩) id
def Ds.drop (st : Ds) (nm : List UInt8) : Int × Ds :=
  if st.on = false then (150, st) else match lookF st.F nm with
  | none => (152, st)
  | some f => st.opd (delF nm) id
def Ds.arm (st : Ds) (n keep : Int) : Int × Ds :=
  if st.on = false then (150, st) else if n < 0 then (2, st) else (0, { st with plan := true, pn := n, keep := keep })
def Ds.fail (st : Ds) (keep : Int) : Int × Ds := if st.on = false then (150, st) else (0, st.lost keep st.F)
def Ds.power (st : Ds) : Ds := { st with on := true }
def Ds.read (st : Ds) (nm : List UInt8) : Option (List UInt8) × Int :=
  if st.on = false then (none, 150) else match lookF st.F nm with
  | none => (none, 152)
  | some f => (some f.b, 0)
structure Ds.Ok (st : Ds) : Prop where
  len : st.F.length ≤ 64
  each : ∀ f ∈ st.F, f.b.length ≤ 1048576 ∧ f.su ≤ f.b.length ∧ f.nm.length ≤ 24
  asc : st.F.Pairwise (fun a b => Op.bytesLess a.nm b.nm = true)
  pn : 0 ≤ st.pn ∧ st.pn ≤ 9223372036854775807
  room : 0 ≤ st.room ∧ st.room ≤ 1073741824

theorem before_less : ∀ a b : List UInt8, bytesBefore a b = Op.bytesLess a b
  | [], [] => rfl
  | [], _ :: _ => rfl
  | _ :: _, [] => rfl
  | a :: r, b :: s => by simp only [bytesBefore, Op.bytesLess]; rw [before_less r s]
theorem less_irr : ∀ a : List UInt8, Op.bytesLess a a = false
  | [] => rfl
  | a :: r => by simp [Op.bytesLess, less_irr r]
theorem less_trans : ∀ {a b c : List UInt8}, Op.bytesLess a b = true → Op.bytesLess b c = true → Op.bytesLess a c = true
  | _, b, [], h, h' => by cases b <;> simp [Op.bytesLess] at h'
  | a, [], _ :: _, h, h' => by cases a <;> simp [Op.bytesLess] at h
  | [], _ :: _, _ :: _, h, h' => rfl
  | a :: x, b :: y, c :: z, h, h' => by
    simp only [Op.bytesLess, Bool.or_eq_true, decide_eq_true_eq, Bool.and_eq_true, beq_iff_eq] at h h' ⊢
    rcases h with h | ⟨rfl, h⟩ <;> rcases h' with h' | ⟨rfl, h'⟩
    · exact .inl (UInt8.lt_trans h h')
    · exact .inl h
    · exact .inl h'
    · exact .inr ⟨rfl, less_trans h h'⟩
theorem less_tri : ∀ a b : List UInt8, Op.bytesLess a b = true ∨ a = b ∨ Op.bytesLess b a = true
  | [], [] => .inr (.inl rfl)
  | [], _ :: _ => .inl rfl
  | _ :: _, [] => .inr (.inr rfl)
  | a :: x, b :: y => by
    simp only [Op.bytesLess, Bool.or_eq_true, decide_eq_true_eq, Bool.and_eq_true, beq_iff_eq]
    rcases UInt8.lt_or_lt_of_ne (a := a) (b := b) |> fun h => (Classical.em (a = b)).imp_right h with rfl | h
    · rcases less_tri x y with h | rfl | h
      · exact .inl (.inr ⟨rfl, h⟩)
      · exact .inr (.inl rfl)
      · exact .inr (.inr (.inr ⟨rfl, h⟩))
    · rcases h with h | h
      · exact .inl (.inl h)
      · exact .inr (.inr (.inl h))
theorem less_ne {a b : List UInt8} (h : Op.bytesLess a b = true) : a ≠ b := fun e => by rw [e, less_irr] at h; cases h

/-- A file in memory: its box, its bytes' slice. -/
structure Fl where
  g : Nat
  v : Value
  f : Fi
def Fl.zero : Fl := ⟨0, .slice none 0 0, ⟨[], [], 0⟩⟩
def ptrElem : Value → Option (DataW Unit × List MemPlace)
  | .pointer none => some (.nil, [])
  | .pointer (some ⟨g, 0, none⟩) => some (.lit (.int .i64 (g : Int)), [])
  | _ => none
def mapL (FS : List Fl) : List (Lit × DataW Unit) := FS.map fun x => (.string x.f.nm, .lit (.int .i64 (x.g : Int)))
def mapD (FS : List Fl) : DataW Unit := .map (mapL FS)
structure FilesB (W : World) (FS : List Fl) : Prop where
  box : ∀ x ∈ FS, W.heap[x.g]? = some (.cells #[x.v, .int .i64 (x.f.su : Int)] 104 (0, 0))
  own : ∀ x ∈ FS, OwnB W 0 5 x.v x.f.b
  apart : FS.Pairwise (fun a b => a.g ≠ b.g ∧ ∀ k, a.v.ownBlock = some k → b.v.ownBlock ≠ some k)
structure DiskIn (W : World) (q m : Nat) (pv : Value) (FS : List Fl) (st : Ds) : Prop where
  head : W.heap[q]? = some (.cells #[.map (some m), .int .i64 st.room, .bool st.on, .int .i64 st.ops, .int .i64 st.fails, pv] 67 (0, 0))
  plan : (st.plan = false ∧ pv = .pointer none) ∨ (st.plan = true ∧ ∃ gp, pv = .pointer (some ⟨gp, 0, none⟩) ∧ W.heap[gp]? = some (.cells #[.int .i64 st.pn, .int .i64 st.keep] 92 (0, 0)))
  map : W.ownsMap Tryz.prog 9 ptrElem m FS.length (mapD FS)
  fb : FilesB W FS
  pr : FS.map Fl.f = st.F
  ok : st.Ok
def foot (q m : Nat) (pv : Value) (FS : List Fl) (k : Nat) : Prop := k = q ∨ k = m ∨ pv = .pointer (some ⟨k, 0, none⟩) ∨ ∃ x ∈ FS, k = x.g ∨ x.v.ownBlock = some k
/-- Of what was there nothing but what F tells has turned. -/
structure Trn (F : Nat → Prop) (W W' : World) : Prop where
  os : W'.os = W.os
  tape : W'.tape = W.tape
  output : W'.output = W.output
  size : W.heap.size ≤ W'.heap.size
  block : ∀ k, k < W.heap.size → ¬ F k → W'.heap[k]? = W.heap[k]?
section
variable {F F' : Nat → Prop} {W W' W'' : World}
theorem Trn.of (h : Below W.heap.size W W') : Trn F W W' := ⟨h.os, h.tape, h.output, h.size, fun k hk _ => h.block k hk⟩
theorem Trn.refl : Trn F W W := Trn.of (Below.refl _ _)
theorem Trn.trans (h : Trn F W W') (h' : Trn F' W' W'') (hs : ∀ k, F' k → F k ∨ W.heap.size ≤ k) : Trn F W W'' :=
  ⟨h'.os.trans h.os, h'.tape.trans h.tape, h'.output.trans h.output, Nat.le_trans h.size h'.size, fun k hk hn => (h'.block k (Nat.lt_of_lt_of_le hk h.size) (fun hf => by rcases hs k hf with h1 | h1; exact hn h1; omega)).trans (h.block k hk hn)⟩
theorem Trn.then (h : Trn F W W') (h' : Trn F W' W'') : Trn F W W'' := h.trans h' fun k hk => .inl hk
theorem Trn.mono (h : Trn F W W') (hs : ∀ k, F k → F' k) : Trn F' W W' := ⟨h.os, h.tape, h.output, h.size, fun k hk hn => h.block k hk fun hf => hn (hs k hf)⟩
theorem Trn.base {B : Nat} (h : Trn F W W') (hB : B ≤ W.heap.size) (hF : ∀ k, F k → B ≤ k) : Below B W W' := ⟨h.os, h.tape, h.output, h.size, fun k hk => h.block k (by omega) fun hf => by have := hF k hf; omega⟩
theorem Trn.grown {row : Option Nat} (h : W.grownBy W' row) (hr : ∀ k, row = some k → F k) : Trn F W W' := ⟨h.os, h.tape, h.output, h.size, fun k hk hn => h.block k hk fun e => hn (hr k e.symm)⟩
theorem Trn.set {p : Addr} {v : Value} (h : Trn F W W') (hp : F p.block ∨ W.heap.size ≤ p.block) : Trn F W (W'.setCell p v) :=
  ⟨h.os, h.tape, h.output, by rw [World.size_setCell]; exact h.size, fun k hk hn => (heap_setCell_other W' p k v (fun e => by rcases hp with hp | hp; exact hn (e ▸ hp); omega)).trans (h.block k hk hn)⟩
theorem Trn.heap {k : Nat} {o : Obj} (h : Trn F W W') (hk : W.heap[k]? = some o) (hn : ¬ F k) : W'.heap[k]? = some o := (h.block k (Array.getElem?_eq_some_iff.1 hk).1 hn).trans hk
end
theorem tneD {W : World} {k : Nat} {c c' : Array Value} {t t' : TypeId} {f f' : Nat × Nat} (h1 : W.heap[k]? = some (.cells c t f)) (h2 : W.heap[k]? = some (.cells c' t' f')) : t = t' := by
  rw [h1] at h2; injection h2 with h2; injection h2
theorem OwnB.blkD {w : World} {B : Nat} {e : TypeId} {v : Value} {l : List UInt8} (h : OwnB w B e v l) {k : Nat} (hk : v.ownBlock = some k) : ∃ cur, w.heap[k]? = some (.cells cur e (0, 0)) := by
  rcases h.2 with ⟨rfl, hn⟩ | ⟨g, cap, cur, rfl, hB, hg, rest⟩
  · cases hk
  · injection hk with hk; subst hk; exact ⟨cur, hg⟩
theorem OwnB.of_blk {w w' : World} {B : Nat} {e : TypeId} {v : Value} {l : List UInt8} (h : OwnB w B e v l) (hb : ∀ k, v.ownBlock = some k → w'.heap[k]? = w.heap[k]?) : OwnB w' B e v l := by
  refine ⟨h.1, ?_⟩
  rcases h.2 with hn | ⟨g, cap, cur, rfl, hB, hg, rest⟩
  · exact .inl hn
  · exact .inr ⟨g, cap, cur, rfl, hB, by rw [hb g rfl]; exact hg, rest⟩
theorem OwnB.take {w : World} {B : Nat} {e : TypeId} {a : Option Addr} {n c i : Nat} {l : List UInt8} (h : OwnB w B e (.slice a n c) l) (hi : i ≤ l.length) : OwnB w B e (.slice a i c) (l.take i) := by
  obtain ⟨h1, h2⟩ := h
  have hl : (l.take i).length = i := by rw [List.length_take]; omega
  have hu : u8v (l.take i) = (u8v l).take i := by simp [u8v, List.map_take]
  refine ⟨by rw [u8v_length, Nat.mul_one], ?_⟩
  rcases h2 with ⟨hv, hn⟩ | ⟨g, cap, cur, hv, hB, hg, hnc, hcm, hcs, htake⟩
  · injection hv with x1 x2 x3
    subst x1 x3
    exact .inl ⟨by rw [show i = 0 by omega], by rw [hl]; omega⟩
  · injection hv with x1 x2 x3
    subst x1 x3
    refine .inr ⟨g, c, cur, by rw [hl], hB, hg, by rw [hl]; omega, hcm, hcs, ?_⟩
    rw [hl, hu, ← htake, List.take_take]
    congr 1
    omega
theorem FilesB.keep {W W' : World} {FS : List Fl} (h : FilesB W FS) (hk : ∀ x ∈ FS, W'.heap[x.g]? = W.heap[x.g]? ∧ ∀ k, x.v.ownBlock = some k → W'.heap[k]? = W.heap[k]?) : FilesB W' FS :=
  ⟨fun x hx => (hk x hx).1.trans (h.box x hx), fun x hx => (h.own x hx).of_blk (hk x hx).2, h.apart⟩
theorem ownsMap_keep {W W' : World} {m n : Nat} {D : DataW Unit} (h : W.ownsMap Tryz.prog 9 ptrElem m n D) (hk : W'.heap[m]? = W.heap[m]?) : W'.ownsMap Tryz.prog 9 ptrElem m n D := by
  obtain ⟨es, clock, h1, rest⟩ := h
  exact ⟨es, clock, hk.trans h1, rest⟩
theorem DiskIn.keep {W W' : World} {q m : Nat} {pv : Value} {FS : List Fl} {st : Ds} (h : DiskIn W q m pv FS st) (hk : ∀ k, foot q m pv FS k → W'.heap[k]? = W.heap[k]?) : DiskIn W' q m pv FS st :=
  ⟨(hk q (.inl rfl)).trans h.head, by
    rcases h.plan with h1 | ⟨h1, gp, rfl, h2⟩
    · exact .inl h1
    · exact .inr ⟨h1, gp, rfl, (hk gp (.inr (.inr (.inl rfl)))).trans h2⟩,
   ownsMap_keep h.map (hk m (.inr (.inl rfl))), h.fb.keep fun x hx => ⟨hk _ (.inr (.inr (.inr ⟨x, hx, .inl rfl⟩))), fun k hv => hk k (.inr (.inr (.inr ⟨x, hx, .inr hv⟩)))⟩, h.pr, h.ok⟩
theorem DiskIn.lt {W : World} {q m : Nat} {pv : Value} {FS : List Fl} {st : Ds} (h : DiskIn W q m pv FS st) {k : Nat} (hk : foot q m pv FS k) : k < W.heap.size := by
  rcases hk with rfl | rfl | hk | ⟨x, hx, rfl | hk⟩
  · exact (Array.getElem?_eq_some_iff.1 h.head).1
  · exact h.map.lt
  · rcases h.plan with ⟨-, h1⟩ | ⟨-, gp, h1, h2⟩
    · rw [h1] at hk; cases hk
    · rw [h1] at hk
      injection hk with hk; injection hk with hk; injection hk with hk
      subst hk
      exact (Array.getElem?_eq_some_iff.1 h2).1
  · exact (Array.getElem?_eq_some_iff.1 (h.fb.box x hx)).1
  · exact ((h.fb.own x hx).lt k hk).2
theorem DiskIn.below {W W' : World} {q m : Nat} {pv : Value} {FS : List Fl} {st : Ds} (h : DiskIn W q m pv FS st) (hb : Below W.heap.size W W') : DiskIn W' q m pv FS st := h.keep fun k hk => hb.block k (h.lt hk)
theorem DiskIn.kinds {W : World} {q m : Nat} {pv : Value} {FS : List Fl} {st : Ds} (h : DiskIn W q m pv FS st) : q ≠ m ∧ pv ≠ .pointer (some ⟨q, 0, none⟩) ∧ pv ≠ .pointer (some ⟨m, 0, none⟩) ∧
    (∀ x ∈ FS, x.g ≠ q ∧ x.g ≠ m ∧ pv ≠ .pointer (some ⟨x.g, 0, none⟩) ∧ x.v.ownBlock ≠ some q ∧ x.v.ownBlock ≠ some m) ∧ (∀ x ∈ FS, ∀ y ∈ FS, x.v.ownBlock ≠ some y.g) ∧ (∀ x ∈ FS, ∀ k, x.v.ownBlock = some k → pv ≠ .pointer (some ⟨k, 0, none⟩)) := by
  obtain ⟨es, cl, hm, -⟩ := h.map
  have hpl : ∀ k, pv = .pointer (some ⟨k, 0, none⟩) → ∃ c, W.heap[k]? = some (.cells c 92 (0, 0)) := fun k hk => by
    rcases h.plan with ⟨-, h1⟩ | ⟨-, gp, h1, h2⟩
    · rw [h1] at hk; cases hk
    · rw [h1] at hk
      injection hk with hk; injection hk with hk; injection hk with hk
      subst hk
      exact ⟨_, h2⟩
  refine ⟨fun e => ?_, fun e => ?_, fun e => ?_, fun x hx => ⟨fun e => ?_, fun e => ?_, fun e => ?_, fun e => ?_, fun e => ?_⟩, fun x hx y hy e => ?_, fun x hx k hk e => ?_⟩
  · subst e; have := h.head; rw [hm] at this; cases this
  · obtain ⟨c, hc⟩ := hpl _ e; exact absurd (tneD hc h.head) (by decide)
  · obtain ⟨c, hc⟩ := hpl _ e; rw [hm] at hc; cases hc
  · have := h.fb.box x hx; rw [e] at this; exact absurd (tneD this h.head) (by decide)
  · have := h.fb.box x hx; rw [e, hm] at this; cases this
  · obtain ⟨c, hc⟩ := hpl _ e; exact absurd (tneD hc (h.fb.box x hx)) (by decide)
  · obtain ⟨c, hc⟩ := (h.fb.own x hx).blkD e; exact absurd (tneD hc h.head) (by decide)
  · obtain ⟨c, hc⟩ := (h.fb.own x hx).blkD e; rw [hm] at hc; cases hc
  · obtain ⟨c, hc⟩ := (h.fb.own x hx).blkD e; exact absurd (tneD hc (h.fb.box y hy)) (by decide)
  · obtain ⟨c, hc⟩ := (h.fb.own x hx).blkD hk; obtain ⟨c', hc'⟩ := hpl _ e; exact absurd (tneD hc hc') (by decide)
/-- A disk, and what it may turn. -/
def Dk (W : World) (q : Nat) (st : Ds) (F : Nat → Prop) : Prop := ∃ m pv FS, DiskIn W q m pv FS st ∧ F = foot q m pv FS
theorem Dk.lt {W : World} {q : Nat} {st : Ds} {F : Nat → Prop} (h : Dk W q st F) {k : Nat} (hk : F k) : k < W.heap.size := by
  obtain ⟨m, pv, FS, h1, rfl⟩ := h; exact h1.lt hk
theorem Dk.keep {W W' : World} {q : Nat} {st : Ds} {F : Nat → Prop} (h : Dk W q st F) (hk : ∀ k, F k → W'.heap[k]? = W.heap[k]?) : Dk W' q st F := by
  obtain ⟨m, pv, FS, h1, rfl⟩ := h; exact ⟨m, pv, FS, h1.keep hk, rfl⟩
theorem Dk.below {W W' : World} {q : Nat} {st : Ds} {F : Nat → Prop} (h : Dk W q st F) (hb : Below W.heap.size W W') : Dk W' q st F := h.keep fun k hk => hb.block k (h.lt hk)
theorem Dk.ok {W : World} {q : Nat} {st : Ds} {F : Nat → Prop} (h : Dk W q st F) : st.Ok := by
  obtain ⟨m, pv, FS, h1, rfl⟩ := h; exact h1.ok
/-- What a call leaves that turns the disk. -/
def DPost (q : Nat) (F : Nat → Prop) (v : Value) (st' : Ds) (w : World) (e : Ending) (w' : World) : Prop :=
  e = .returned v ∧ ∃ F', Dk w' q st' F' ∧ Trn F w w' ∧ ∀ k, F' k → F k ∨ w.heap.size ≤ k
/-- .. of the files alone. -/
def FPost (q m : Nat) (pv : Value) (FS : List Fl) (st : Ds) (g : List Fi → List Fi) (w : World) (e : Ending) (w' : World) : Prop :=
  e = .returned (.tuple #[]) ∧ ∃ FS', DiskIn w' q m pv FS' { st with F := g st.F } ∧ Trn (foot q m pv FS) w w' ∧ ∀ k, foot q m pv FS' k → foot q m pv FS k ∨ w.heap.size ≤ k
end Go.Proofs.YtioeimkaljmffaaGreatDoor
end

section
namespace Go.Proofs.YtioeimkaljmffaaGreatDoor
open Go.RowKit Go Go.Sort Go.Maps Go.WideMaps
set_option linter.unusedVariables false
set_option maxRecDepth 20000

theorem klawD : Keyed Tryz.prog 9 := string_keyed Tryz.underlying9
theorem key_textD (s : List UInt8) (h : s.length ≤ 9223372036854775807) : keyOf Tryz.prog 9 (.string (text s)) = some (.string s) := by
  have := keyOf_string_mk (P := Tryz.prog) (s := text s) Tryz.underlying9 (by
    have e : (text s).size = s.length := by simp [text, ByteArray.size]
    rw [e]; unfold maxLen; exact h)
  rw [this]
  congr 2
theorem zeroD (w : World) : (zeroValue 101).run Tryz.prog w = .ok (.pointer none) w := by kernel_rfl
def ptrF (FS : List Fl) (nm : List UInt8) : Value := match FS.find? (fun x => x.f.nm == nm) with
  | some x => .pointer (some ⟨x.g, 0, none⟩)
  | none => .pointer none
theorem atKeyD (nm : List UInt8) (z : DataW Unit) : ∀ FS : List Fl, (mapD FS).atKey (.string nm) z = (match FS.find? (fun x => x.f.nm == nm) with | some x => .lit (.int .i64 (x.g : Int)) | none => z)
  | [] => rfl
  | x :: r => by
    have ih := atKeyD nm z r
    unfold mapD mapL DataW.atKey at ih ⊢
    simp only [List.map_cons, List.find?_cons]
    cases hx : (x.f.nm == nm) with
    | true => simp [Lit.sameKey, hx]
    | false => simp only [Lit.sameKey, hx]; exact ih
theorem ptrElem_lit {v : Value} {g : Nat} {ps : List MemPlace} (h : ptrElem v = some (.lit (.int .i64 (g : Int)), ps)) : v = .pointer (some ⟨g, 0, none⟩) := by
  unfold ptrElem at h
  split at h
  · injection h with h; injection h with h; cases h
  · injection h with h; injection h with h; injection h with h; injection h with h h2
    have : _ = g := Int.ofNat.inj h2
    subst this; rfl
  · cases h
theorem ptrElem_nil {v : Value} {ps : List MemPlace} (h : ptrElem v = some (.nil, ps)) : v = .pointer none := by
  unfold ptrElem at h
  split at h
  · rfl
  · injection h with h; injection h with h; cases h
  · cases h
theorem DiskIn.look {W : World} {q m : Nat} {pv : Value} {FS : List Fl} {st : Ds} (h : DiskIn W q m pv FS st) (nm : List UInt8) (hn : nm.length ≤ 9223372036854775807) :
    (Instr.lookup 64 (.map (some m)) (.string (text nm)) false).run Tryz.prog W = .ok (ptrF FS nm) W := by
  obtain ⟨v, ps, h1, h2⟩ := h.map.lookup klawD Tryz.underlying64 (zeroD W) (zd := .nil) (zp := []) rfl (key_textD nm hn)
  rw [h1]
  rw [atKeyD] at h2
  unfold ptrF
  cases hf : FS.find? (fun x => x.f.nm == nm) with
  | none => rw [hf] at h2; rw [ptrElem_nil h2]
  | some x => rw [hf] at h2; rw [ptrElem_lit h2]
theorem lookF_map (nm : List UInt8) : ∀ FS : List Fl, lookF (FS.map Fl.f) nm = (FS.find? (fun x => x.f.nm == nm)).map Fl.f
  | [] => rfl
  | x :: r => by
    have ih := lookF_map nm r
    unfold lookF at ih ⊢
    simp only [List.map_cons, List.find?_cons]
    cases hx : (x.f.nm == nm) with
    | true => rfl
    | false => simp only; exact ih
theorem DiskIn.lookF {W : World} {q m : Nat} {pv : Value} {FS : List Fl} {st : Ds} (h : DiskIn W q m pv FS st) (nm : List UInt8) : lookF st.F nm = (FS.find? (fun x => x.f.nm == nm)).map Fl.f := by
  rw [← h.pr]; exact lookF_map nm FS
/-- The name of a file, and where it stands. -/
theorem find_split {FS : List Fl} {nm : List UInt8} {x : Fl} (h : FS.find? (fun x => x.f.nm == nm) = some x) : x.f.nm = nm ∧ ∃ A C, FS = A ++ x :: C := by
  have h1 := List.find?_some h
  have h2 := List.mem_of_find?_eq_some h
  obtain ⟨A, C, e⟩ := List.append_of_mem h2
  exact ⟨by simpa using h1, A, C, e⟩
theorem DiskIn.cs {W : World} {q m : Nat} {pv : Value} {FS : List Fl} {st : Ds} (h : DiskIn W q m pv FS st) : W.cell? ⟨q, 0, none⟩ = some (.map (some m)) ∧ W.cell? ⟨q, 1, none⟩ = some (.int .i64 st.room) ∧ W.cell? ⟨q, 2, none⟩ = some (.bool st.on) ∧ W.cell? ⟨q, 3, none⟩ = some (.int .i64 st.ops) ∧ W.cell? ⟨q, 4, none⟩ = some (.int .i64 st.fails) ∧ W.cell? ⟨q, 5, none⟩ = some pv := by
  refine ⟨?_, ?_, ?_, ?_, ?_, ?_⟩ <;> (rw [cell_of_row W q _ _ 67 (0, 0) h.head]; rfl)
theorem DiskIn.fz {W : World} {q m : Nat} {pv : Value} {FS : List Fl} {st : Ds} (h : DiskIn W q m pv FS st) (i : Nat) : W.frozen? ⟨q, i, none⟩ = false := frozen_of_row W q i _ 67 h.head
/-- The disk's own box turned, and nothing else of it. -/
theorem DiskIn.turn {W W' : World} {q m : Nat} {pv pv' : Value} {FS : List Fl} {st st' : Ds} (h : DiskIn W q m pv FS st) (hk : ∀ k, foot q m pv FS k → k ≠ q → W'.heap[k]? = W.heap[k]?)
    (hh : W'.heap[q]? = some (.cells #[.map (some m), .int .i64 st'.room, .bool st'.on, .int .i64 st'.ops, .int .i64 st'.fails, pv'] 67 (0, 0)))
    (hp : (st'.plan = false ∧ pv' = .pointer none) ∨ (st'.plan = true ∧ ∃ gp, pv' = .pointer (some ⟨gp, 0, none⟩) ∧ W'.heap[gp]? = some (.cells #[.int .i64 st'.pn, .int .i64 st'.keep] 92 (0, 0))))
    (hF : st'.F = st.F) (hok : st'.Ok) : DiskIn W' q m pv' FS st' := by
  obtain ⟨k1, k2, k3, k4, k5, k6⟩ := h.kinds
  exact ⟨hh, hp, ownsMap_keep h.map (hk m (.inr (.inl rfl)) (Ne.symm k1)), h.fb.keep fun x hx => ⟨hk _ (.inr (.inr (.inr ⟨x, hx, .inl rfl⟩))) (k4 x hx).1, fun k hv => hk k (.inr (.inr (.inr ⟨x, hx, .inr hv⟩))) (fun e => (k4 x hx).2.2.2.1 (e ▸ hv))⟩, by rw [hF]; exact h.pr, hok⟩
theorem foot_pv {q m : Nat} {pv pv' : Value} {FS : List Fl} {k : Nat} (h : foot q m pv' FS k) : foot q m pv FS k ∨ pv' = .pointer (some ⟨k, 0, none⟩) := by
  rcases h with h | h | h | h
  · exact .inl (.inl h)
  · exact .inl (.inr (.inl h))
  · exact .inr h
  · exact .inl (.inr (.inr (.inr h)))

theorem neqSome (x : Nat) (w : World) : (binOp .neq 64 (.map (some x)) (.map none)).run Tryz.prog w = .ok (.bool true) w := by kernel_rfl
theorem dmade_c {w : World} {q m : Nat} {pv : Value} {FS : List Fl} {st : Ds} (h : DiskIn w q m pv FS st) : Calls Tryz.prog 58 #[.pointer (some ⟨q, 0, none⟩)] w (fun e w' => e = .returned (.bool true) ∧ w = w') := by
  have hne := neqSome
  have c0 := h.cs.1
  clear h
  go_enter Tryz.func58, Tryz.ntmps58
  go_wp2
  go_ret
  exact ⟨rfl, rfl⟩
theorem dfails_c {w : World} {q m : Nat} {pv : Value} {FS : List Fl} {st : Ds} (h : DiskIn w q m pv FS st) : Calls Tryz.prog 50 #[.pointer (some ⟨q, 0, none⟩)] w (fun e w' => e = .returned (.int .i64 st.fails) ∧ w = w') := by
  obtain ⟨c0, c1, c2, c3, c4, c5⟩ := h.cs
  have HD := Lib.hid h
  clear h
  go_enter Tryz.func50, Tryz.ntmps50
  go_wp2_with (first
    | (go_at_call 58; (with_reducible refine (dmade_c HD.out).mono ?_); rintro e9 w9 ⟨rfl, rfl⟩))
  go_ret
  exact ⟨rfl, rfl⟩
theorem dready_c {w : World} {q m : Nat} {pv : Value} {FS : List Fl} {st : Ds} (h : DiskIn w q m pv FS st) (b : Bool) (hb : st.on = b) : Calls Tryz.prog 48 #[.pointer (some ⟨q, 0, none⟩)] w (fun e w' => e = .returned (.int .i64 (if b = true then 0 else 150)) ∧ w = w') := by
  obtain ⟨c0, c1, c2, c3, c4, c5⟩ := h.cs
  have HD := Lib.hid h
  clear h
  rw [hb] at c2
  clear hb
  cases b
  all_goals
    go_enter Tryz.func48, Tryz.ntmps48
    go_wp2_with (go_at_call 58; (with_reducible refine (dmade_c HD.out).mono ?_); rintro e9 w9 ⟨rfl, rfl⟩)
    go_ret
    exact ⟨rfl, rfl⟩
theorem dfind_off {w : World} {q m : Nat} {pv : Value} {FS : List Fl} {st : Ds} (h : DiskIn w q m pv FS st) (s : ByteArray) (hon : st.on = false) : Calls Tryz.prog 70 #[.pointer (some ⟨q, 0, none⟩), .string s] w (fun e w' => e = .returned (.tuple #[.pointer none, .int .i64 150]) ∧ w = w') := by
  have HD := Lib.hid h
  have HON := Lib.hid hon
  clear h hon
  go_enter Tryz.func70, Tryz.ntmps70
  go_wp2_with (go_at_call 48; (with_reducible refine (dready_c HD.out false HON.out).mono ?_); rintro e9 w9 ⟨rfl, rfl⟩)
  go_ret2
  exact ⟨rfl, rfl⟩
theorem dfind_none {w : World} {q m : Nat} {pv : Value} {FS : List Fl} {st : Ds} (h : DiskIn w q m pv FS st) (nm : List UInt8) (hn : nm.length ≤ 9223372036854775807) (hon : st.on = true) (hl : FS.find? (fun x => x.f.nm == nm) = none) : Calls Tryz.prog 70 #[.pointer (some ⟨q, 0, none⟩), .string (text nm)] w (fun e w' => e = .returned (.tuple #[.pointer none, .int .i64 152]) ∧ w = w') := by
  have hrun := h.look nm hn
  unfold ptrF at hrun
  rw [hl] at hrun
  simp only at hrun
  obtain ⟨s, hs⟩ : ∃ s, text nm = s := ⟨_, rfl⟩
  rw [hs] at hrun ⊢
  have c0 := h.cs.1
  have HD := Lib.hid h
  have HON := Lib.hid hon
  clear h hon hl hs hn
  go_enter Tryz.func70, Tryz.ntmps70
  go_wp2_with (go_at_call 48; (with_reducible refine (dready_c HD.out true HON.out).mono ?_); rintro e9 w9 ⟨rfl, rfl⟩)
  go_ret2
  exact ⟨rfl, rfl⟩
theorem dfind_some {w : World} {q m : Nat} {pv : Value} {FS : List Fl} {st : Ds} (h : DiskIn w q m pv FS st) (nm : List UInt8) (hn : nm.length ≤ 9223372036854775807) (hon : st.on = true) {x : Fl} (hl : FS.find? (fun x => x.f.nm == nm) = some x) : Calls Tryz.prog 70 #[.pointer (some ⟨q, 0, none⟩), .string (text nm)] w (fun e w' => e = .returned (.tuple #[.pointer (some ⟨x.g, 0, none⟩), .int .i64 0]) ∧ w = w') := by
  have hrun := h.look nm hn
  unfold ptrF at hrun
  rw [hl] at hrun
  simp only at hrun
  obtain ⟨s, hs⟩ : ∃ s, text nm = s := ⟨_, rfl⟩
  rw [hs] at hrun ⊢
  have c0 := h.cs.1
  have HD := Lib.hid h
  have HON := Lib.hid hon
  clear h hon hl hs hn
  go_enter Tryz.func70, Tryz.ntmps70
  go_wp2_with (go_at_call 48; (with_reducible refine (dready_c HD.out true HON.out).mono ?_); rintro e9 w9 ⟨rfl, rfl⟩)
  go_ret2
  exact ⟨rfl, rfl⟩
theorem dpower_c {w : World} {q : Nat} {st : Ds} {F : Nat → Prop} (hk : Dk w q st F) : Calls Tryz.prog 21 #[.pointer (some ⟨q, 0, none⟩)] w (DPost q F (.int .i64 0) st.power w) := by
  obtain ⟨m, pv, FS, h, rfl⟩ := hk
  obtain ⟨c0, c1, c2, c3, c4, c5⟩ := h.cs
  have f2 := h.fz 2
  have HD := Lib.hid h
  clear h
  go_enter Tryz.func21, Tryz.ntmps21
  go_wp2_with (go_at_call 58; (with_reducible refine (dmade_c HD.out).mono ?_); rintro e9 w9 ⟨rfl, rfl⟩)
  go_ret
  have hd := HD.out
  refine ⟨rfl, _, ⟨m, pv, FS, hd.turn (st' := st.power) (fun k hk hne => heap_setCell_other _ _ _ _ hne) ?_ ?_ rfl ⟨hd.ok.len, hd.ok.each, hd.ok.asc, hd.ok.pn, hd.ok.room⟩, rfl⟩, Trn.refl.set (.inl (.inl rfl)), fun k hk => .inl hk⟩
  · rw [heap_setCell_same w q 2 _ 67 _ hd.head]; rfl
  · rcases hd.plan with h1 | ⟨h1, gp, h2, h3⟩
    · exact .inl h1
    · exact .inr ⟨h1, gp, h2, (heap_setCell_other w _ _ _ (fun e => hd.kinds.2.1 (by rw [h2, e]))).trans h3⟩
theorem dk_same {w : World} {q : Nat} {st : Ds} {F : Nat → Prop} (hk : Dk w q st F) (v : Value) : DPost q F v st w (.returned v) w := ⟨rfl, F, hk, Trn.refl, fun k hk => .inl hk⟩
theorem dk_below {w w' : World} {q : Nat} {st : Ds} {F : Nat → Prop} (hk : Dk w q st F) (hb : Below w.heap.size w w') (v : Value) : DPost q F v st w (.returned v) w' := ⟨rfl, F, hk.below hb, Trn.of hb, fun k hk => .inl hk⟩
theorem darm_c {w : World} {q : Nat} {st : Ds} {F : Nat → Prop} (hk : Dk w q st F) (n k : Int) (hn : n ≤ 9223372036854775807) : Calls Tryz.prog 15 #[.pointer (some ⟨q, 0, none⟩), .int .i64 n, .int .i64 k] w (DPost q F (.int .i64 (st.arm n k).1) (st.arm n k).2 w) := by
  have HKK := Lib.hid hk
  obtain ⟨m, pv, FS, h, rfl⟩ := hk
  have HD := Lib.hid h
  cases hon : st.on with
  | false =>
    have e : st.arm n k = (150, st) := by unfold Ds.arm; rw [if_pos hon]
    rw [e]
    have HON := Lib.hid hon
    clear h hon e
    go_enter Tryz.func15, Tryz.ntmps15
    go_wp2_with (go_at_call 48; (with_reducible refine (dready_c HD.out false HON.out).mono ?_); rintro e9 w9 ⟨rfl, rfl⟩)
    go_ret
    exact dk_same HKK.out _
  | true =>
    have HON := Lib.hid hon
    by_cases h0 : n < 0
    · have e : st.arm n k = (2, st) := by unfold Ds.arm; rw [if_neg (by simp [hon]), if_pos h0]
      rw [e]
      clear h hon e
      go_enter Tryz.func15, Tryz.ntmps15
      go_wp2_with (go_at_call 48; (with_reducible refine (dready_c HD.out true HON.out).mono ?_); rintro e9 w9 ⟨rfl, rfl⟩)
      go_ret
      exact dk_same HKK.out _
    · have e : st.arm n k = (0, { st with plan := true, pn := n, keep := k }) := by unfold Ds.arm; rw [if_neg (by simp [hon]), if_neg h0]
      rw [e]
      have HB := Lib.hid (alloc_below w (.cells #[.int .i64 n, .int .i64 k] 92))
      have HG := Lib.hid (heap_alloc_new w (.cells #[.int .i64 n, .int .i64 k] 92))
      have hd2 := h.below HB.out
      have c5 := hd2.cs.2.2.2.2.2
      have f5 := hd2.fz 5
      have HD2 := Lib.hid hd2
      have HN := Lib.hid (show 0 ≤ n ∧ n ≤ 9223372036854775807 from ⟨by omega, hn⟩)
      have HLT := Lib.hid (show q < w.heap.size from h.lt (.inl rfl))
      clear h hon e hd2 hn
      go_enter Tryz.func15, Tryz.ntmps15
      go_wp2_with (go_at_call 48; (with_reducible refine (dready_c HD.out true HON.out).mono ?_); rintro e9 w9 ⟨rfl, rfl⟩)
      go_ret
      have hd := HD2.out
      refine ⟨rfl, _, ⟨m, .pointer (some ⟨w.heap.size, 0, none⟩), FS, hd.turn (st' := { st with plan := true, pn := n, keep := k }) (fun j hj hne => heap_setCell_other _ _ _ _ hne) ?_ (.inr ⟨rfl, _, rfl, ?_⟩) rfl ⟨hd.ok.len, hd.ok.each, hd.ok.asc, HN.out, hd.ok.room⟩, rfl⟩, (Trn.of HB.out).set (.inl (.inl rfl)), fun j hj => ?_⟩
      · rw [heap_setCell_same _ q 5 _ 67 _ hd.head]; rfl
      · exact (heap_setCell_other _ _ _ _ (by have := HLT.out; simp; omega)).trans HG.out
      · rcases foot_pv (pv := pv) hj with h1 | h1
        · exact .inl h1
        · injection h1 with h1; injection h1 with h1; injection h1 with h1
          exact .inr (by omega)
theorem mapD_made (w : World) : (w.alloc (.map #[] 0)).ownsMap Tryz.prog 9 ptrElem w.heap.size 0 (mapD []) := World.ownsMap_made w Tryz.prog 9 ptrElem
def Ds.new (room : Int) : Ds := ⟨room, [], true, 0, 0, false, 0, 0⟩
theorem dnew_c (room : Int) (w : World) (h0 : 0 ≤ room) (h1 : room ≤ 1073741824) : Calls Tryz.prog 7 #[.int .i64 room] w (fun e w' => ∃ q, e = .returned (.pointer (some ⟨q, 0, none⟩)) ∧ ∃ F, Dk w' q (Ds.new room) F ∧ (∀ k, F k → w.heap.size ≤ k) ∧ Below w.heap.size w w') := by
  have n0 : ¬ room < 0 := by omega
  have n1 : ¬ 1073741824 < room := by omega
  have hmm := @run_makeMap Tryz.prog
  have HR := Lib.hid (And.intro h0 h1)
  clear h0 h1
  go_enter Tryz.func7, Tryz.ntmps7
  go_wp2
  go_ret
  have hb := second_below w (.map #[] 0) (.cells #[.map (some w.heap.size), .int .i64 room, .bool true, .int .i64 0, .int .i64 0, .pointer none] 67)
  have hm := ownsMap_keep (mapD_made w) (Below.heap_alloc (w.alloc (.map #[] 0)) (.cells #[.map (some w.heap.size), .int .i64 room, .bool true, .int .i64 0, .int .i64 0, .pointer none] 67) w.heap.size (by simp))
  have hh := heap_alloc_new (w.alloc (.map #[] 0)) (.cells #[.map (some w.heap.size), .int .i64 room, .bool true, .int .i64 0, .int .i64 0, .pointer none] 67)
  rw [World.size_alloc] at hh
  refine ⟨w.heap.size + 1, rfl, foot (w.heap.size + 1) w.heap.size (.pointer none) [], ⟨w.heap.size, .pointer none, [], ⟨hh, .inl ⟨rfl, rfl⟩, hm, ⟨fun x hx => (nomatch hx), fun x hx => (nomatch hx), List.Pairwise.nil⟩, rfl, ⟨by simp [Ds.new], fun f hf => (nomatch hf), List.Pairwise.nil, by simp [Ds.new], HR.out⟩⟩, rfl⟩, fun k hk => ?_, hb⟩
  rcases hk with hk | hk | hk | ⟨x, hx, -⟩
  · omega
  · omega
  · cases hk
  · cases hx
end Go.Proofs.YtioeimkaljmffaaGreatDoor
end

section
namespace Go.Proofs.YtioeimkaljmffaaGreatDoor
open Go.RowKit Go Go.Sort Go.Maps
set_option linter.unusedVariables false
set_option maxRecDepth 20000

theorem FilesB.kinds {W : World} {FS : List Fl} (h : FilesB W FS) {x y : Fl} (hx : x ∈ FS) (hy : y ∈ FS) : x.v.ownBlock ≠ some y.g := fun e => by
  obtain ⟨c, hc⟩ := (h.own x hx).blkD e
  exact absurd (tneD hc (h.box y hy)) (by decide)
theorem FilesB.lt {W : World} {FS : List Fl} (h : FilesB W FS) {x : Fl} (hx : x ∈ FS) : x.g < W.heap.size ∧ ∀ k, x.v.ownBlock = some k → k < W.heap.size :=
  ⟨(Array.getElem?_eq_some_iff.1 (h.box x hx)).1, fun k hk => ((h.own x hx).lt k hk).2⟩
theorem FilesB.upd {W W' : World} {A C : List Fl} {x x' : Fl} (h : FilesB W (A ++ x :: C)) (hg : x'.g = x.g) (hbox : W'.heap[x.g]? = some (.cells #[x'.v, .int .i64 (x'.f.su : Int)] 104 (0, 0))) (hown : OwnB W' 0 5 x'.v x'.f.b)
    (hv : ∀ k, x'.v.ownBlock = some k → x.v.ownBlock = some k ∨ W.heap.size ≤ k) (hk : ∀ k, k < W.heap.size → k ≠ x.g → x.v.ownBlock ≠ some k → W'.heap[k]? = W.heap[k]?) : FilesB W' (A ++ x' :: C) := by
  have hxm : x ∈ A ++ x :: C := by simp
  have hap := h.apart
  rw [List.pairwise_append, List.pairwise_cons] at hap
  obtain ⟨p1, ⟨p2, p3⟩, p4⟩ := hap
  have hA : ∀ y ∈ A, y.g ≠ x.g ∧ ∀ k, y.v.ownBlock = some k → x.v.ownBlock ≠ some k := fun y hy => p4 y hy x (by simp)
  have hC : ∀ y ∈ C, y.g ≠ x.g ∧ ∀ k, y.v.ownBlock = some k → x.v.ownBlock ≠ some k := fun y hy => ⟨Ne.symm (p2 y hy).1, fun k hk e => (p2 y hy).2 k e hk⟩
  have hO : ∀ y, y ∈ A ∨ y ∈ C → y ∈ A ++ x :: C ∧ y.g ≠ x.g ∧ ∀ k, y.v.ownBlock = some k → x.v.ownBlock ≠ some k := fun y hy => by
    rcases hy with hy | hy
    · exact ⟨by simp [hy], hA y hy⟩
    · exact ⟨by simp [hy], hC y hy⟩
  have hkb : ∀ y, y ∈ A ∨ y ∈ C → W'.heap[y.g]? = W.heap[y.g]? := fun y hy => hk _ (h.lt (hO y hy).1).1 (hO y hy).2.1 (h.kinds hxm (hO y hy).1)
  have hkv : ∀ y, y ∈ A ∨ y ∈ C → ∀ k, y.v.ownBlock = some k → W'.heap[k]? = W.heap[k]? := fun y hy k e => hk _ ((h.lt (hO y hy).1).2 k e) (fun e2 => h.kinds (hO y hy).1 hxm (e2 ▸ e)) ((hO y hy).2.2 k e)
  have hmem : ∀ y, y ∈ A ++ x' :: C → y = x' ∨ (y ∈ A ∨ y ∈ C) := fun y hy => by
    simp only [List.mem_append, List.mem_cons] at hy
    rcases hy with hy | hy | hy
    · exact .inr (.inl hy)
    · exact .inl hy
    · exact .inr (.inr hy)
  refine ⟨fun y hy => ?_, fun y hy => ?_, ?_⟩
  · rcases hmem y hy with rfl | hy
    · rw [hg]; exact hbox
    · exact (hkb y hy).trans (h.box y (hO y hy).1)
  · rcases hmem y hy with rfl | hy
    · exact hown
    · exact (h.own y (hO y hy).1).of_blk (hkv y hy)
  · rw [List.pairwise_append, List.pairwise_cons]
    refine ⟨p1, ⟨fun y hy => ⟨by rw [hg]; exact Ne.symm (hC y hy).1, fun k e e2 => ?_⟩, p3⟩, fun y hy z hz => ?_⟩
    · rcases hv k e with h1 | h1
      · exact (hC y hy).2 k e2 h1
      · have := (h.lt (hO y (.inr hy)).1).2 k e2; omega
    · rcases List.mem_cons.1 hz with rfl | hz
      · refine ⟨by rw [hg]; exact (hA y hy).1, fun k e e2 => ?_⟩
        rcases hv k e2 with h1 | h1
        · exact (hA y hy).2 k e h1
        · have := (h.lt (hO y (.inl hy)).1).2 k e; omega
      · exact p4 y hy z (by simp [hz])
theorem foot_upd {q m : Nat} {pv : Value} {A C : List Fl} {x x' : Fl} {n : Nat} (hg : x'.g = x.g) (hv : ∀ k, x'.v.ownBlock = some k → x.v.ownBlock = some k ∨ n ≤ k) {k : Nat} (hk : foot q m pv (A ++ x' :: C) k) : foot q m pv (A ++ x :: C) k ∨ n ≤ k := by
  rcases hk with h | h | h | ⟨y, hy, h⟩
  · exact .inl (.inl h)
  · exact .inl (.inr (.inl h))
  · exact .inl (.inr (.inr (.inl h)))
  · simp only [List.mem_append, List.mem_cons] at hy
    rcases hy with hy | rfl | hy
    · exact .inl (.inr (.inr (.inr ⟨y, by simp [hy], h⟩)))
    · rcases h with h | h
      · exact .inl (.inr (.inr (.inr ⟨x, by simp, .inl (by rw [← hg]; exact h)⟩)))
      · rcases hv k h with h1 | h1
        · exact .inl (.inr (.inr (.inr ⟨x, by simp, .inr h1⟩)))
        · exact .inr h1
    · exact .inl (.inr (.inr (.inr ⟨y, by simp [hy], h⟩)))
theorem mapD_upd {A C : List Fl} {x x' : Fl} (hg : x'.g = x.g) (hn : x'.f.nm = x.f.nm) : mapD (A ++ x' :: C) = mapD (A ++ x :: C) := by
  simp [mapD, mapL, hg, hn]
theorem DiskIn.upd {W W' : World} {q m : Nat} {pv : Value} {A C : List Fl} {x x' : Fl} {st : Ds} (h : DiskIn W q m pv (A ++ x :: C) st) (hg : x'.g = x.g) (hn : x'.f.nm = x.f.nm) (hl : x'.f.b.length ≤ 1048576 ∧ x'.f.su ≤ x'.f.b.length)
    (hbox : W'.heap[x.g]? = some (.cells #[x'.v, .int .i64 (x'.f.su : Int)] 104 (0, 0))) (hown : OwnB W' 0 5 x'.v x'.f.b)
    (hv : ∀ k, x'.v.ownBlock = some k → x.v.ownBlock = some k ∨ W.heap.size ≤ k) (hk : ∀ k, k < W.heap.size → k ≠ x.g → x.v.ownBlock ≠ some k → W'.heap[k]? = W.heap[k]?) : DiskIn W' q m pv (A ++ x' :: C) { st with F := A.map Fl.f ++ x'.f :: C.map Fl.f } := by
  have hxm : x ∈ A ++ x :: C := by simp
  obtain ⟨k1, k2, k3, k4, k5, k6⟩ := h.kinds
  have hF : st.F = A.map Fl.f ++ x.f :: C.map Fl.f := by rw [← h.pr]; simp
  have kq : W'.heap[q]? = W.heap[q]? := hk q (h.lt (.inl rfl)) (Ne.symm (k4 x hxm).1) (k4 x hxm).2.2.2.1
  have km : W'.heap[m]? = W.heap[m]? := hk m (h.lt (.inr (.inl rfl))) (Ne.symm (k4 x hxm).2.1) (k4 x hxm).2.2.2.2
  refine ⟨kq.trans h.head, ?_, ?_, h.fb.upd hg hbox hown hv hk, by simp, ?_⟩
  · rcases h.plan with h1 | ⟨h1, gp, h2, h3⟩
    · exact .inl h1
    · exact .inr ⟨h1, gp, h2, (hk gp (h.lt (.inr (.inr (.inl h2)))) (fun e => (k4 x hxm).2.2.1 (by rw [h2, e])) (fun e => k6 x hxm gp e h2)).trans h3⟩
  · have hm := ownsMap_keep h.map km
    rw [mapD_upd hg hn]
    simpa using hm
  · have ok := h.ok
    refine ⟨?_, fun f hf => ?_, ?_, ok.pn, ok.room⟩
    · have := ok.len; rw [hF] at this; simpa using this
    · simp only [List.mem_append, List.mem_cons] at hf
      have hx2 := (ok.each x.f (by rw [hF]; simp)).2.2
      rcases hf with hf | rfl | hf
      · exact ok.each f (by rw [hF]; simp only [List.mem_append]; exact .inl hf)
      · exact ⟨hl.1, hl.2, by rw [hn]; exact hx2⟩
      · exact ok.each f (by rw [hF]; simp only [List.mem_append, List.mem_cons]; exact .inr (.inr hf))
    · have ha := ok.asc
      rw [hF, List.pairwise_append, List.pairwise_cons] at ha
      show (A.map Fl.f ++ x'.f :: C.map Fl.f).Pairwise _
      rw [List.pairwise_append, List.pairwise_cons]
      refine ⟨ha.1, ⟨fun f hf => by rw [hn]; exact ha.2.1.1 f hf, ha.2.1.2⟩, fun f hf z hz => ?_⟩
      rcases List.mem_cons.1 hz with rfl | hz
      · rw [hn]; exact ha.2.2 f hf x.f (by simp)
      · exact ha.2.2 f hf z (by simp [hz])
theorem setF_split {A C : List Fi} {f : Fi} (g : Fi → Fi) (ha : (A ++ f :: C).Pairwise (fun a b => Op.bytesLess a.nm b.nm = true)) : setF f.nm g (A ++ f :: C) = A ++ g f :: C := by
  rw [List.pairwise_append, List.pairwise_cons] at ha
  have e1 : ∀ L : List Fi, (∀ y ∈ L, y.nm ≠ f.nm) → L.map (fun y => if y.nm = f.nm then g y else y) = L := fun L h => by
    have e : L.map (fun y => if y.nm = f.nm then g y else y) = L.map id := List.map_congr_left fun y hy => by simp [h y hy]
    rw [e, List.map_id]
  unfold setF
  rw [List.map_append, List.map_cons, e1 A (fun y hy => less_ne (ha.2.2 y hy f (by simp))), e1 C (fun y hy => Ne.symm (less_ne (ha.2.1.1 y hy)))]
  simp
/-- What a call on a file's box leaves. -/
def BoxPost (g : Nat) (v' : Value) (su : Nat) (w : World) (e : Ending) (w' : World) : Prop :=
  e = .returned (.tuple #[]) ∧ w'.heap[g]? = some (.cells #[v', .int .i64 (su : Int)] 104 (0, 0)) ∧ w.grownBy w' (some g)
theorem box_cs {W : World} {g : Nat} {v u : Value} (h : W.heap[g]? = some (.cells #[v, u] 104 (0, 0))) : W.cell? ⟨g, 0, none⟩ = some v ∧ W.cell? ⟨g, 1, none⟩ = some u := by
  refine ⟨?_, ?_⟩ <;> (rw [cell_of_row W g _ _ 104 (0, 0) h]; rfl)
theorem box_fz {W : World} {g : Nat} {v u : Value} (h : W.heap[g]? = some (.cells #[v, u] 104 (0, 0))) (i : Nat) : W.frozen? ⟨g, i, none⟩ = false := frozen_of_row W g i _ 104 h
theorem grown_set {w w' : World} {g : Nat} (h : w.grownBy w' (some g)) (i : Nat) (v : Value) : w.grownBy (w'.setCell ⟨g, i, none⟩ v) (some g) :=
  ⟨h.os, h.tape, h.output, by rw [World.size_setCell]; exact h.size, fun k hk hne => (heap_setCell_other w' ⟨g, i, none⟩ k v (by simpa using hne)).trans (h.block k hk hne)⟩
theorem box_set0 {W : World} {g : Nat} {v u : Value} (h : W.heap[g]? = some (.cells #[v, u] 104 (0, 0))) (x : Value) : (W.setCell ⟨g, 0, none⟩ x).heap[g]? = some (.cells #[x, u] 104 (0, 0)) := by
  rw [heap_setCell_same W g 0 _ 104 _ h]; rfl
theorem box_set1 {W : World} {g : Nat} {v u : Value} (h : W.heap[g]? = some (.cells #[v, u] 104 (0, 0))) (x : Value) : (W.setCell ⟨g, 1, none⟩ x).heap[g]? = some (.cells #[v, x] 104 (0, 0)) := by
  rw [heap_setCell_same W g 1 _ 104 _ h]; rfl
set_option maxRecDepth 100000 in
set_option maxHeartbeats 3200000 in
theorem fcut_c {w : World} {g : Nat} {a : Option Addr} {l c su n : Nat} (hb : w.heap[g]? = some (.cells #[.slice a l c, .int .i64 (su : Int)] 104 (0, 0))) (hl : l ≤ c) (hn : n ≤ l) :
    Calls Tryz.prog 127 #[.pointer (some ⟨g, 0, none⟩), .int .i64 (n : Int)] w (BoxPost g (.slice a n c) (min su n) w) := by
  obtain ⟨c0, c1⟩ := box_cs hb
  have f0 := box_fz hb 0
  have f1 := box_fz hb 1
  have n0 : (0 : Int) ≤ (n : Int) := by omega
  have n1 : (n : Int) ≤ (c : Int) := by omega
  have HB := Lib.hid hb
  have hmin : min (su : Int) (n : Int) = ((min su n : Nat) : Int) := by omega
  have HM := Lib.hid hmin
  clear hb hl hn hmin
  go_enter Tryz.func127, Tryz.ntmps127
  go_upto_region 1 with (fail)
  have hb1 := box_set0 HB.out (.slice a n c)
  have HG := Lib.hid (grown_set (World.grownBy.refl w (some g)) 0 (.slice a n c))
  clear c0 c1 f0 f1
  generalize w.setCell ⟨g, 0, none⟩ (.slice a n c) = W1 at *
  obtain ⟨c0, c1⟩ := box_cs hb1
  have f0 := box_fz hb1 0
  have f1 := box_fz hb1 1
  have HB1 := Lib.hid hb1
  clear hb1
  go_wp2
  refine bodyPost_end (results_none rfl _ _ _) rfl ?_
  refine ⟨rfl, ?_, grown_set HG.out 1 _⟩
  rw [← HM.out]
  exact box_set1 HB1.out _
set_option maxRecDepth 100000 in
set_option maxHeartbeats 6400000 in
theorem flose_c {w : World} {g : Nat} {a : Option Addr} {l c su : Nat} (hb : w.heap[g]? = some (.cells #[.slice a l c, .int .i64 (su : Int)] 104 (0, 0))) (hl : l ≤ c) (hc : c ≤ 9223372036854775807) (hs : su ≤ l) (h20 : l ≤ 1048576) (keep : Int) :
    Calls Tryz.prog 99 #[.pointer (some ⟨g, 0, none⟩), .int .i64 keep] w (BoxPost g (.slice a (loseN keep l su) c) (loseN keep l su) w) := by
  obtain ⟨bh, hbh⟩ : ∃ q : Nat, l - su = q := ⟨_, rfl⟩
  obtain ⟨mx, hmx⟩ : ∃ q : Int, max keep 0 = q := ⟨_, rfl⟩
  obtain ⟨mn, hmn, hmn2⟩ : ∃ q : Nat, min mx (bh : Int) = (q : Int) ∧ q ≤ bh := ⟨(min mx (bh : Int)).toNat, by omega, by omega⟩
  obtain ⟨n, hn⟩ : ∃ q : Nat, loseN keep l su = q := ⟨_, rfl⟩
  have hnv : n = su + mn := by
    have e : (l : Int) - (su : Int) = (bh : Int) := by omega
    unfold loseN at hn
    rw [hmx, e, hmn] at hn
    omega
  rw [hn]
  have s1 : IntKind.i64.wrap ((l : Int) - (su : Int)) = (bh : Int) := by rw [IntKind.wrap_i64]; omega
  have s2 : IntKind.i64.wrap ((su : Int) + (mn : Int)) = (n : Int) := by rw [IntKind.wrap_i64]; omega
  have s3 : (su : Int) + (mn : Int) = (n : Int) := by omega
  have n0 : (0 : Int) ≤ (n : Int) := by omega
  have n1 : (n : Int) ≤ (c : Int) := by omega
  obtain ⟨c0, c1⟩ := box_cs hb
  have HB := Lib.hid hb
  clear hb hl hs h20 hbh hn hnv hmn2 hc
  have H2 := Lib.hid s2
  have H3 := Lib.hid s3
  clear s2 s3
  go_enter Tryz.func99, Tryz.ntmps99
  go_wp2
  go_quiet (fail)
  have HB1 := Lib.hid (show (w.drewN nq).heap[g]? = some (.cells #[.slice a l c, .int .i64 (su : Int)] 104 (0, 0)) from HB.out)
  have HD := Lib.hid (drewN_below (Below.refl w.heap.size w) nq)
  clear c0 c1 s1
  go_upto_region 1 with (fail)
  obtain ⟨W1, hW1⟩ : ∃ X, w.drewN nq = X := ⟨_, rfl⟩
  rw [hW1] at HB1 HD ⊢
  clear hW1
  have HCB := Lib.hid (fun W (hW : Below W1.heap.size W1 W) => box_cs ((hW.block g (Array.getElem?_eq_some_iff.1 HB1.out).1).trans HB1.out))
  have s2 := H2.out
  refine wp_region_flow_tail 17 [none, none, none, none, none, none, none, none, none, none, none, none, none, none, none, some 0, some 1, some 2, some 3, some 4, some 5, some 6, some 7, some 8, some 9, some 10, some 11, some 12, some 13, some 14, some 15, some 16, none, none, none, none, none, none, none, none] (fun i => [undef, undef, undef, undef, undef, undef, undef, undef, undef, undef, undef, undef, undef, undef, undef, undef, undef].getD i undef) [(fun v _ => v = .pointer (some ⟨g, 0, none⟩)), (fun v _ => v = .pointer (some ⟨g, 0, none⟩)), (fun v _ => v = .pointer (some ⟨g, 0, none⟩)), (fun v _ => v = .pointer (some ⟨g, 0, none⟩)), (fun v _ => v = .slice a l c), (fun v _ => v = .pointer (some ⟨g, 0, none⟩)), (fun v _ => v = .pointer (some ⟨g, 0, none⟩)), (fun v _ => v = .pointer (some ⟨g, 1, none⟩)), (fun v _ => v = .int .i64 (su : Int)), (fun v _ => v = .int .i64 keep), (fun v _ => v = .int .i64 mx), (fun v _ => v = .int .i64 (bh : Int)), (fun v _ => v = .int .i64 (mn : Int)), (fun v _ => v = .int .i64 (n : Int)), (fun v _ => v = .slice a n c), (fun v _ => v = .pointer (some ⟨g, 0, none⟩)), (fun v _ => v = .pointer (some ⟨g, 0, none⟩))] (fun _ => False) (by kernel_rfl) (by kernel_rfl) (by kernel_rfl) rfl rfl rfl ?_ ?_ ?_
  · intro g hg v X Y hX hY hv
    simp only [List.mem_cons, List.not_mem_nil, or_false] at hg
    rcases hg with rfl | rfl | rfl | rfl | rfl | rfl | rfl | rfl | rfl | rfl | rfl | rfl | rfl | rfl | rfl | rfl | rfl
    all_goals first
      | exact hv
      | exact hv.kept hY
  · simp only [flowOpsF, List.take_succ_cons, List.take_zero, and_true]
    refine ⟨?_, ?_, ?_, ?_, ?_, ?_, ?_, ?_, ?_, ?_, ?_, ?_, ?_, ?_, ?_, ?_, ?_⟩
    · intro xs W hW hn9
      simp only [flowAct, List.zipWith_cons_cons, List.zipWith_nil_left]
      go_wp2_with (fail)
      exact ⟨rfl, _, rfl, Below.refl _ _, rfl, fun h => h.elim⟩
    · intro xs W hW hn9
      simp only [flowAct, List.zipWith_cons_cons, List.zipWith_nil_left]
      go_wp2_with (fail)
      exact ⟨rfl, _, rfl, Below.refl _ _, rfl, fun h => h.elim⟩
    · intro xs W hW hn9
      simp [flowNeeds, Region.binds] at hn9
      simp only [flowAct, List.zipWith_cons_cons, List.zipWith_nil_left]
      try simp only [hn9]
      go_wp2_with (fail)
      exact ⟨rfl, _, rfl, Below.refl _ _, rfl, fun h => h.elim⟩
    · intro xs W hW hn9
      simp [flowNeeds, Region.binds] at hn9
      simp only [flowAct, List.zipWith_cons_cons, List.zipWith_nil_left]
      try simp only [hn9]
      go_wp2_with (fail)
      exact ⟨rfl, _, rfl, Below.refl _ _, rfl, fun h => h.elim⟩
    · intro xs W hW hn9
      obtain ⟨c0, c1⟩ := HCB.out W hW
      simp [flowNeeds, Region.binds] at hn9
      simp only [flowAct, List.zipWith_cons_cons, List.zipWith_nil_left]
      try simp only [hn9]
      go_wp2_with (fail)
      exact ⟨rfl, _, rfl, Below.refl _ _, rfl, fun h => h.elim⟩
    · intro xs W hW hn9
      simp only [flowAct, List.zipWith_cons_cons, List.zipWith_nil_left]
      go_wp2_with (fail)
      exact ⟨rfl, _, rfl, Below.refl _ _, rfl, fun h => h.elim⟩
    · intro xs W hW hn9
      simp [flowNeeds, Region.binds] at hn9
      simp only [flowAct, List.zipWith_cons_cons, List.zipWith_nil_left]
      try simp only [hn9]
      go_wp2_with (fail)
      exact ⟨rfl, _, rfl, Below.refl _ _, rfl, fun h => h.elim⟩
    · intro xs W hW hn9
      simp [flowNeeds, Region.binds] at hn9
      simp only [flowAct, List.zipWith_cons_cons, List.zipWith_nil_left]
      try simp only [hn9]
      go_wp2_with (fail)
      exact ⟨rfl, _, rfl, Below.refl _ _, rfl, fun h => h.elim⟩
    · intro xs W hW hn9
      obtain ⟨c0, c1⟩ := HCB.out W hW
      simp [flowNeeds, Region.binds] at hn9
      simp only [flowAct, List.zipWith_cons_cons, List.zipWith_nil_left]
      try simp only [hn9]
      go_wp2_with (fail)
      exact ⟨rfl, _, rfl, Below.refl _ _, rfl, fun h => h.elim⟩
    · intro xs W hW hn9
      simp only [flowAct, List.zipWith_cons_cons, List.zipWith_nil_left]
      go_wp2_with (fail)
      exact ⟨rfl, _, rfl, Below.refl _ _, rfl, fun h => h.elim⟩
    · intro xs W hW hn9
      simp [flowNeeds, Region.binds] at hn9
      simp only [flowAct, List.zipWith_cons_cons, List.zipWith_nil_left]
      try simp only [hn9]
      go_wp2_with (fail)
      exact ⟨rfl, _, rfl, Below.refl _ _, rfl, fun h => h.elim⟩
    · intro xs W hW hn9
      simp only [flowAct, List.zipWith_cons_cons, List.zipWith_nil_left]
      go_wp2_with (fail)
      exact ⟨rfl, _, rfl, Below.refl _ _, rfl, fun h => h.elim⟩
    · intro xs W hW hn9
      simp [flowNeeds, Region.binds] at hn9
      simp only [flowAct, List.zipWith_cons_cons, List.zipWith_nil_left]
      try simp only [hn9]
      go_wp2_with (fail)
      exact ⟨rfl, _, rfl, Below.refl _ _, rfl, fun h => h.elim⟩
    · intro xs W hW hn9
      simp [flowNeeds, Region.binds] at hn9
      simp only [flowAct, List.zipWith_cons_cons, List.zipWith_nil_left]
      try simp only [hn9]
      go_wp2_with (fail)
      exact ⟨rfl, _, rfl, Below.refl _ _, rfl, fun h => h.elim⟩
    · intro xs W hW hn9
      simp [flowNeeds, Region.binds] at hn9
      simp only [flowAct, List.zipWith_cons_cons, List.zipWith_nil_left]
      try simp only [hn9]
      go_wp2_with (fail)
      exact ⟨rfl, _, rfl, Below.refl _ _, rfl, fun h => h.elim⟩
    · intro xs W hW hn9
      simp [flowNeeds, Region.binds] at hn9
      simp only [flowAct, List.zipWith_cons_cons, List.zipWith_nil_left]
      try simp only [hn9]
      go_wp2_with (fail)
      exact ⟨rfl, _, rfl, Below.refl _ _, rfl, fun h => h.elim⟩
    · intro xs W hW hn9
      simp [flowNeeds, Region.binds] at hn9
      simp only [flowAct, List.zipWith_cons_cons, List.zipWith_nil_left]
      try simp only [hn9]
      go_wp2_with (fail)
      exact ⟨rfl, _, rfl, Below.refl _ _, rfl, fun h => h.elim⟩
  · intro xs W hW hall hfr
    clear hfr
    simp only [flowAll, and_true, Nat.zero_add, Nat.reduceAdd] at hall
    obtain ⟨-, -, -, -, -, -, -, -, -, -, -, -, -, -, a14, -, a16⟩ := hall
    simp only [flowAct, List.zipWith_cons_cons, List.zipWith_nil_left, List.drop_succ_cons, List.drop_zero]
    simp only [a14, a16]
    clear a14 a16
    have hb1 := (hW.block g (Array.getElem?_eq_some_iff.1 HB1.out).1).trans HB1.out
    obtain ⟨c0, c1⟩ := box_cs hb1
    have f0 := box_fz hb1 0
    have HB2 := Lib.hid hb1
    have hW9 := HD.out.trans (hW.mono HD.out.size)
    have HW := Lib.hid (show w.grownBy W (some g) from ⟨hW9.os, hW9.tape, hW9.output, hW9.size, fun k hk _ => hW9.block k hk⟩)
    clear hW9
    clear hb1 hW
    go_upto_region 2 with (fail)
    have hb3 := box_set0 HB2.out (.slice a n c)
    have HG := Lib.hid (grown_set HW.out 0 (.slice a n c))
    clear c0 c1 f0 HB2 HW
    generalize W.setCell ⟨g, 0, none⟩ (.slice a n c) = W3 at *
    obtain ⟨c0, c1⟩ := box_cs hb3
    have f0 := box_fz hb3 0
    have f1 := box_fz hb3 1
    have HB3 := Lib.hid hb3
    clear hb3
    go_wp2
    refine bodyPost_end (results_none rfl _ _ _) rfl ?_
    exact ⟨rfl, box_set1 HB3.out _, grown_set HG.out 1 _⟩
end Go.Proofs.YtioeimkaljmffaaGreatDoor
end

section
namespace Go.Proofs.YtioeimkaljmffaaGreatDoor
open Go.RowKit Go Go.Sort Go.Maps Go.WideMaps
set_option linter.unusedVariables false
set_option maxRecDepth 20000

/-- The files that a loop has been at. -/
def doneL (left : Lit → Bool) (FS : List Fl) : List Fl := FS.filter (fun y => !left (.string y.f.nm))
theorem doneL_start (FS : List Fl) : doneL (Maps.has (mapD FS)) FS = [] := by
  unfold doneL
  rw [List.filter_eq_nil_iff]
  intro x hx
  have : Maps.has (mapD FS) (.string x.f.nm) = true := by
    unfold mapD Maps.has mapL
    rw [List.any_eq_true]
    exact ⟨_, List.mem_map.2 ⟨x, hx, rfl⟩, by simp [Lit.sameKey]⟩
  simp [this]
theorem doneL_end {left : Lit → Bool} (h : ∀ kl, left kl = false) (FS : List Fl) : doneL left FS = FS := by
  unfold doneL
  rw [List.filter_eq_self]
  intro x hx
  simp [h]
/-- The names of a disk's files are unlike. -/
def Names (FS : List Fl) : Prop := FS.Pairwise (fun a b => a.f.nm ≠ b.f.nm)
theorem DiskIn.names {W : World} {q m : Nat} {pv : Value} {FS : List Fl} {st : Ds} (h : DiskIn W q m pv FS st) : Names FS := by
  have := h.ok.asc
  rw [← h.pr, List.pairwise_map] at this
  exact this.imp less_ne
theorem left_other {left : Lit → Bool} {y x : Fl} (h : y.f.nm ≠ x.f.nm) : (left (.string y.f.nm) && !(Lit.string y.f.nm).sameKey (.string x.f.nm)) = left (.string y.f.nm) := by
  have : (Lit.string y.f.nm).sameKey (.string x.f.nm) = false := by simp [Lit.sameKey, h]
  rw [this]; simp
theorem doneL_step {left : Lit → Bool} {A C : List Fl} {x : Fl} (hn : Names (A ++ x :: C)) (hl : left (.string x.f.nm) = true) :
    (doneL (fun z => left z && !z.sameKey (.string x.f.nm)) (A ++ x :: C)).Perm (x :: doneL left (A ++ x :: C)) := by
  unfold Names at hn
  rw [List.pairwise_append, List.pairwise_cons] at hn
  have e : ∀ L : List Fl, (∀ y ∈ L, y.f.nm ≠ x.f.nm) → L.filter (fun y => !(left (.string y.f.nm) && !(Lit.string y.f.nm).sameKey (.string x.f.nm))) = L.filter (fun y => !left (.string y.f.nm)) := fun L h =>
    List.filter_congr fun y hy => by rw [left_other (h y hy)]
  unfold doneL
  rw [List.filter_append, List.filter_append, List.filter_cons, List.filter_cons, e A (fun y hy => hn.2.2 y hy x (by simp)), e C (fun y hy => Ne.symm (hn.2.1.1 y hy))]
  simp only [hl, Lit.sameKey, beq_self_eq_true, Bool.not_true, Bool.and_false, Bool.not_false, if_true]
  simp only [Bool.false_eq_true, if_false]
  exact List.perm_middle
theorem key_invD {key : Value} {kl : Lit} (h : keyOf Tryz.prog 9 key = some kl) : ∃ s : List UInt8, key = .string (text s) ∧ kl = .string s := by
  cases key <;> simp [keyOf, Tryz.underlying9, mapKey] at h
  rename_i b
  obtain ⟨h1, rfl⟩ := h
  exact ⟨b.data.toList, by simp [text], rfl⟩
theorem entryD {FS : List Fl} {key v : Value} {kl : Lit} {y : DataW Unit × List MemPlace} (hk : keyOf Tryz.prog 9 key = some kl) (hv : ptrElem v = some y) (ha : ∀ zd, (mapD FS).atKey kl zd = y.1) :
    ∃ A x C, FS = A ++ x :: C ∧ kl = .string x.f.nm ∧ key = .string (text x.f.nm) ∧ v = .pointer (some ⟨x.g, 0, none⟩) := by
  obtain ⟨s, rfl, rfl⟩ := key_invD hk
  cases hf : FS.find? (fun x => x.f.nm == s) with
  | none =>
    have h1 := ha .nil
    have h2 := ha (.lit (.bool true))
    rw [atKeyD, hf] at h1 h2
    simp only at h1 h2
    rw [← h1] at h2
    cases h2
  | some x =>
    obtain ⟨hn, A, C, e⟩ := find_split hf
    have h1 := ha .nil
    rw [atKeyD, hf] at h1
    simp only at h1
    obtain ⟨d, ps⟩ := y
    simp only at h1
    subst h1
    exact ⟨A, x, C, e, by rw [hn], by rw [hn], ptrElem_lit hv⟩
theorem sum_len_le {L : List Nat} {c n : Nat} (h : ∀ x ∈ L, x ≤ c) (hn : L.length ≤ n) : L.sum ≤ n * c := by
  have : L.sum ≤ L.length * c := by
    induction L with
    | nil => simp
    | cons a r ih =>
      have h1 := h a (by simp)
      have h2 := ih (fun x hx => h x (by simp [hx])) (by simp at hn; omega)
      simp only [List.sum_cons, List.length_cons, Nat.succ_mul]
      omega
  exact Nat.le_trans this (Nat.mul_le_mul_right c hn)
theorem DiskIn.few {W : World} {q m : Nat} {pv : Value} {FS : List Fl} {st : Ds} (h : DiskIn W q m pv FS st) {L : List Fl} (hL : L.length ≤ FS.length) (hs : ∀ x ∈ L, x ∈ FS) : (L.map fun x => x.f.b.length).sum ≤ 67108864 := by
  have hl : FS.length ≤ 64 := by have := h.ok.len; rw [← h.pr] at this; simpa using this
  have := sum_len_le (L := L.map fun x => x.f.b.length) (c := 1048576) (n := 64) (fun x hx => by
    obtain ⟨y, hy, rfl⟩ := List.mem_map.1 hx
    exact (h.ok.each y.f (by rw [← h.pr]; exact List.mem_map.2 ⟨y, hs y hy, rfl⟩)).1) (by simp; omega)
  omega
theorem rg_below {w wr w2 : World} {r : Nat} (hb : Below w.heap.size w wr) (hg : wr.grownBy w2 (some r)) (hr : w.heap.size ≤ r) : Below w.heap.size w w2 := hb.grown hg hb.size (fun k hk => by cases hk; exact hr)
set_option maxRecDepth 100000 in
set_option maxHeartbeats 6400000 in
theorem dused_c {w : World} {q m : Nat} {pv : Value} {FS : List Fl} {st : Ds} (h : DiskIn w q m pv FS st) : Calls Tryz.prog 71 #[.pointer (some ⟨q, 0, none⟩)] w (Tells (.int .i64 (usedF st.F : Int)) w) := by
  have c0 := h.cs.1
  have hu : usedF st.F = (FS.map fun x => x.f.b.length).sum := by unfold usedF; rw [← h.pr, List.map_map]; rfl
  rw [hu]
  have HD := Lib.hid h
  have HM := Lib.hid h.map
  have HN := Lib.hid h.names
  clear hu h
  go_enter Tryz.func71, Tryz.ntmps71
  go_wp2_with (first
    | (go_at_call 58; (with_reducible refine (dmade_c HD.out).mono ?_); rintro e9 w9 ⟨rfl, rfl⟩)
    | (at_range; refine wpList_range_own _ rfl _ 64 rfl 9 101 klawD Tryz.underlying64 ptrElem m FS.length (mapD FS) rfl HM.out ?_; intro w0 hrg0 hg0 hs0)
    | go_in)
  go_frame
  go_loopw [3] (fun s wr => ∃ (left : Lit → Bool) (cnt : Nat), wr.ranges Tryz.prog 9 ptrElem m w.heap.size FS.length (mapD FS) left cnt ∧ s = .int .i64 ((((doneL left FS).map fun x => x.f.b.length).sum : Nat) : Int) ∧ Below w.heap.size w wr) (fun _ wr => wr.rangeLeft m w.heap.size)
  case atStart => exact ⟨_, _, hrg0, by rw [doneL_start]; rfl, ⟨hg0.os, hg0.tape, hg0.output, hg0.size, fun k hk => hg0.block k hk (by simp)⟩⟩
  case round =>
    obtain ⟨left, cnt, hrg, rfl, hb⟩ := hrel
    have HRG := Lib.hid hrg
    have HB := Lib.hid hb
    clear hb
    go_wp2_with (first
      | (at_next; refine wpList_next_ranges _ rfl _ rfl 9 klawD ptrElem (fun v : Value => v) (fun v : Value => v) (fun key kl _ => ⟨key, rfl⟩) (fun v y _ => ⟨v, rfl⟩) m w.heap.size FS.length _ _ _ rfl hrg ?_ ?_)
      | go_in)
    · intro hc0 hl0
      rw [doneL_end hl0]
      go_wp2
      go_ret
      exact ⟨rfl, HB.out⟩
    · intro key v kl yd yp w2 cnt2 hkey hlk hv hat hrg2 hlt hg2 hs2 hen
      obtain ⟨A, x, C, e, rfl, rfl, rfl⟩ := entryD (y := (yd, yp)) hkey hv hat
      have hB2 := rg_below HB.out hg2 (Nat.le_refl _)
      have hd2 := HD.out.below hB2
      have hxm : x ∈ FS := by rw [e]; simp
      have hbx := hd2.fb.box x hxm
      have hpm := doneL_step (left := left) (x := x) (A := A) (C := C) (by rw [← e]; exact HN.out) hlk
      rw [← e] at hpm
      have hsm := (hpm.map fun x => x.f.b.length).sum_nat
      simp only [List.map_cons, List.sum_cons] at hsm
      have hf1 := HD.out.few (L := doneL left FS) (List.length_filter_le _ _) (fun x hx => (List.mem_filter.1 hx).1)
      obtain ⟨S1, hS1⟩ : ∃ q, ((doneL left FS).map fun x => x.f.b.length).sum = q := ⟨_, rfl⟩
      rw [hS1] at hsm hf1 ⊢
      obtain ⟨a, c, hva, hby⟩ := (hd2.fb.own x hxm).bys
      rw [hva] at hbx
      obtain ⟨d0, d1⟩ := box_cs hbx
      have hlen : x.f.b.length ≤ 1048576 := (HD.out.ok.each x.f (by rw [← HD.out.pr]; exact List.mem_map.2 ⟨x, hxm, rfl⟩)).1
      obtain ⟨xl, hxl⟩ : ∃ q, x.f.b.length = q := ⟨_, rfl⟩
      rw [hxl] at d0 hsm hlen
      obtain ⟨xg, hxg⟩ : ∃ q, x.g = q := ⟨_, rfl⟩
      rw [hxg] at d0 hen ⊢
      obtain ⟨kx, hkx⟩ : ∃ q, text x.f.nm = q := ⟨_, rfl⟩
      rw [hkx] at hen ⊢
      have hw : IntKind.i64.wrap ((S1 : Int) + (xl : Int)) = ((S1 + xl : Nat) : Int) := by rw [IntKind.wrap_i64]; omega
      have hw3 : (S1 : Int) + (xl : Int) = ((S1 + xl : Nat) : Int) := by omega
      have HB2 := Lib.hid hB2
      have HS := Lib.hid (show ((doneL (fun z => left z && !z.sameKey (.string x.f.nm)) FS).map fun x => x.f.b.length).sum = S1 + xl by omega)
      have HW3 := Lib.hid hw3
      have HR2 := Lib.hid hrg2
      have HLT := Lib.hid hlt
      clear hB2 hd2 hbx hpm hsm hf1 hS1 hva hby d1 hlen hxl hxg hkx hw3 hrg2 hlt hg2 hs2 hat hv hlk hkey hxm hrg
      go_wp2
      go_roundw
      case rel => exact ⟨_, cnt2, HR2.out, by rw [HS.out]; first | rfl | (congr 1; exact HW3.out), HB2.out⟩
      case measure => rw [HR2.out.left_eq, HRG.out.left_eq]; exact HLT.out

def cutV (v : Value) (n : Nat) : Value := match v with
  | .slice a _ c => .slice a n c
  | v => v
def lostL (keep : Int) (x : Fl) : Fl := ⟨x.g, cutV x.v (loseN keep x.f.b.length x.f.su), x.f.lose keep⟩
def leftL (keep : Int) (left : Lit → Bool) (x : Fl) : Fl := if left (.string x.f.nm) = true then x else lostL keep x
theorem cutV_blk (v : Value) (n : Nat) : (cutV v n).ownBlock = v.ownBlock := by
  unfold cutV
  split
  · rename_i a l c; cases a <;> rfl
  · rfl
theorem leftL_same {keep : Int} {left : Lit → Bool} {x : Fl} (L : List Fl) (h : ∀ y ∈ L, y.f.nm ≠ x.f.nm) : L.map (leftL keep (fun z => left z && !z.sameKey (.string x.f.nm))) = L.map (leftL keep left) :=
  List.map_congr_left fun y hy => by unfold leftL; simp only [left_other (h y hy)]
theorem lose_bd (keep : Int) {l s : Nat} (h : s ≤ l) : s ≤ loseN keep l s ∧ loseN keep l s ≤ l := by unfold loseN; omega
theorem lost_ok {st : Ds} (h : st.Ok) (keep : Int) : (st.lost keep st.F).Ok := by
  refine ⟨by simpa [Ds.lost] using h.len, fun f hf => ?_, ?_, h.pn, h.room⟩
  · obtain ⟨y, hy, rfl⟩ := List.mem_map.1 hf
    have h1 := h.each y hy
    have h2 := lose_bd keep h1.2.1
    refine ⟨?_, ?_, h1.2.2⟩
    · show (y.b.take _).length ≤ _
      rw [List.length_take]; omega
    · show loseN keep y.b.length y.su ≤ (y.b.take _).length
      rw [List.length_take]; omega
  · show (st.F.map (Fi.lose keep)).Pairwise _
    rw [List.pairwise_map]
    exact h.asc
theorem lostF_map (keep : Int) (FS : List Fl) : (FS.map (lostL keep)).map Fl.f = (FS.map Fl.f).map (Fi.lose keep) := by
  rw [List.map_map, List.map_map]; rfl
theorem mapD_lost (keep : Int) (FS : List Fl) : mapD (FS.map (lostL keep)) = mapD FS := by
  unfold mapD mapL; rw [List.map_map]; rfl
theorem leftL_start (keep : Int) (FS : List Fl) : FS.map (leftL keep (Maps.has (mapD FS))) = FS := by
  have : FS.map (leftL keep (Maps.has (mapD FS))) = FS.map id := List.map_congr_left fun x hx => by
    have : Maps.has (mapD FS) (.string x.f.nm) = true := by
      unfold mapD Maps.has mapL
      rw [List.any_eq_true]
      exact ⟨_, List.mem_map.2 ⟨x, hx, rfl⟩, by simp [Lit.sameKey]⟩
    unfold leftL; rw [if_pos this]; rfl
  rw [this, List.map_id]
theorem leftL_end {keep : Int} {left : Lit → Bool} (h : ∀ kl, left kl = false) (FS : List Fl) : FS.map (leftL keep left) = FS.map (lostL keep) :=
  List.map_congr_left fun x hx => by unfold leftL; rw [if_neg (by simp [h])]
theorem foot_lost {q m : Nat} {pv : Value} {keep : Int} {FS : List Fl} {k : Nat} (h : foot q m (.pointer none) (FS.map (lostL keep)) k) : foot q m pv FS k := by
  rcases h with h | h | h | ⟨y, hy, h⟩
  · exact .inl h
  · exact .inr (.inl h)
  · cases h
  · obtain ⟨x, hx, rfl⟩ := List.mem_map.1 hy
    refine .inr (.inr (.inr ⟨x, hx, ?_⟩))
    rcases h with h | h
    · exact .inl h
    · exact .inr (by rw [← h]; exact (cutV_blk _ _).symm)
set_option maxRecDepth 100000 in
set_option maxHeartbeats 6400000 in
theorem dlose_c {w : World} {q m : Nat} {pv : Value} {FS : List Fl} {st : Ds} (h : DiskIn w q m pv FS st) (keep : Int) : Calls Tryz.prog 57 #[.pointer (some ⟨q, 0, none⟩), .int .i64 keep] w (DPost q (foot q m pv FS) (.tuple #[]) (st.lost keep st.F) w) := by
  have c0 := h.cs.1
  have HD := Lib.hid h
  have HM := Lib.hid h.map
  have HN := Lib.hid h.names
  clear h
  go_enter Tryz.func57, Tryz.ntmps57
  go_wp2_with (first
    | (at_range; refine wpList_range_own _ rfl _ 64 rfl 9 101 klawD Tryz.underlying64 ptrElem m FS.length (mapD FS) rfl HM.out ?_; intro w0 hrg0 hg0 hs0)
    | go_in)
  go_frame
  go_loopw [] (fun wr => ∃ (left : Lit → Bool) (cnt : Nat), wr.ranges Tryz.prog 9 ptrElem m w.heap.size FS.length (mapD FS) left cnt ∧ FilesB wr (FS.map (leftL keep left)) ∧ Trn (foot q m pv FS) w wr ∧ (∀ k, (k = q ∨ pv = .pointer (some ⟨k, 0, none⟩)) → wr.heap[k]? = w.heap[k]?)) (fun wr => wr.rangeLeft m w.heap.size)
  case atStart =>
    have hb : Below w.heap.size w w0 := ⟨hg0.os, hg0.tape, hg0.output, hg0.size, fun k hk => hg0.block k hk (by simp)⟩
    exact ⟨_, _, hrg0, by rw [leftL_start]; exact (HD.out.below hb).fb, Trn.of hb, fun k hk => hb.block k (HD.out.lt (by rcases hk with rfl | hk; exact .inl rfl; exact .inr (.inr (.inl hk))))⟩
  case round =>
    obtain ⟨left, cnt, hrg, hfb, htr, hqk⟩ := hrel
    have HRG := Lib.hid hrg
    have HF := Lib.hid hfb
    have HT := Lib.hid htr
    have HQ := Lib.hid hqk
    clear hfb htr hqk
    go_wp2_with (first
      | (at_next; refine wpList_next_ranges _ rfl _ rfl 9 klawD ptrElem (fun v : Value => v) (fun v : Value => v) (fun key kl _ => ⟨key, rfl⟩) (fun v y _ => ⟨v, rfl⟩) m w.heap.size FS.length _ _ _ rfl hrg ?_ ?_)
      | go_in)
    · intro hc0 hl0
      have hfb := HF.out
      rw [leftL_end hl0] at hfb
      have hh := (HQ.out q (.inl rfl)).trans HD.out.head
      have HH := Lib.hid hh
      have HFB := Lib.hid hfb
      have e0 : ∀ (i : Nat) (v : Value), (#[Value.map (some m), .int .i64 st.room, .bool st.on, .int .i64 st.ops, .int .i64 st.fails, pv] : Array Value)[i]? = some v → wr.cell? ⟨q, i, none⟩ = some v := fun i v hv => by rw [cell_of_row wr q i _ 67 (0, 0) hh]; exact hv
      have d2 := e0 2 _ rfl
      have d4 := e0 4 _ rfl
      have d5 := e0 5 _ rfl
      have f2 := frozen_of_row wr q 2 _ 67 hh
      have f4 := frozen_of_row wr q 4 _ 67 hh
      have f5 := frozen_of_row wr q 5 _ 67 hh
      have HMR := Lib.hid hrg.owns
      obtain ⟨fl, hfl⟩ : ∃ x, wr64 (st.fails + 1) = x := ⟨_, rfl⟩
      have hw : IntKind.i64.wrap (st.fails + 1) = fl := hfl
      clear e0 hh hfb hrg hfl c0
      go_wp2
      refine bodyPost_end (results_none rfl _ _ _) rfl ?_
      have hd := HD.out
      obtain ⟨k1, k2, k3, k4, k5, k6⟩ := hd.kinds
      have hx : ∀ x ∈ FS.map (lostL keep), x.g ≠ q ∧ x.v.ownBlock ≠ some q := fun x hx => by
        obtain ⟨y, hy, rfl⟩ := List.mem_map.1 hx
        exact ⟨(k4 y hy).1, by show (cutV _ _).ownBlock ≠ _; rw [cutV_blk]; exact (k4 y hy).2.2.2.1⟩
      refine ⟨rfl, _, ⟨m, .pointer none, FS.map (lostL keep), ⟨?_, .inl ⟨rfl, rfl⟩, ?_, HFB.out.keep fun x h2 => ⟨?_, fun k hk => ?_⟩, ?_, lost_ok hd.ok keep⟩, rfl⟩, ((HT.out.set (.inl (.inl rfl))).set (.inl (.inl rfl))).set (.inl (.inl rfl)), fun k hk => .inl (foot_lost hk)⟩
      · rw [heap_setCell_same _ q 4 _ 67 _ (by rw [heap_setCell_same _ q 5 _ 67 _ (by rw [heap_setCell_same _ q 2 _ 67 _ HH.out])])]
        rw [← hw]
        rfl
      · rw [mapD_lost, List.length_map]
        refine ownsMap_keep HMR.out ?_
        rw [heap_setCell_other _ _ _ _ (Ne.symm k1), heap_setCell_other _ _ _ _ (Ne.symm k1), heap_setCell_other _ _ _ _ (Ne.symm k1)]
      · have h3 := (hx x h2).1
        rw [heap_setCell_other _ _ _ _ h3, heap_setCell_other _ _ _ _ h3, heap_setCell_other _ _ _ _ h3]
      · have h3 : k ≠ q := fun e => (hx x h2).2 (e ▸ hk)
        rw [heap_setCell_other _ _ _ _ h3, heap_setCell_other _ _ _ _ h3, heap_setCell_other _ _ _ _ h3]
      · rw [lostF_map, hd.pr]; rfl
    · intro key v kl yd yp w2 cnt2 hkey hlk hv hat hrg2 hlt hg2 hs2 hen
      obtain ⟨A, x, C, e, rfl, rfl, rfl⟩ := entryD (y := (yd, yp)) hkey hv hat
      have hxm : x ∈ FS := by rw [e]; simp
      have hnn := HN.out
      rw [e] at hnn
      unfold Names at hnn
      rw [List.pairwise_append, List.pairwise_cons] at hnn
      have hfb := HF.out
      have ex : leftL keep left x = x := by unfold leftL; rw [if_pos hlk]
      have em : FS.map (leftL keep left) = A.map (leftL keep left) ++ x :: C.map (leftL keep left) := by rw [e]; simp [ex]
      have em2 : FS.map (leftL keep (fun z => left z && !z.sameKey (.string x.f.nm))) = A.map (leftL keep left) ++ lostL keep x :: C.map (leftL keep left) := by
        have ex2 : leftL keep (fun z => left z && !z.sameKey (.string x.f.nm)) x = lostL keep x := by unfold leftL; rw [if_neg (by simp [Lit.sameKey])]
        rw [e, List.map_append, List.map_cons, leftL_same A (fun y hy => hnn.2.2 y hy x (by simp)), leftL_same C (fun y hy => Ne.symm (hnn.2.1.1 y hy)), ex2]
      rw [em] at hfb
      have hfl : ∀ z ∈ A.map (leftL keep left) ++ x :: C.map (leftL keep left), z.g < w.heap.size ∧ ∀ k, z.v.ownBlock = some k → k < w.heap.size := fun z hz => by
        rw [← em] at hz
        obtain ⟨y, hy, rfl⟩ := List.mem_map.1 hz
        have h1 := HD.out.fb.lt hy
        unfold leftL
        split
        · exact h1
        · exact ⟨h1.1, fun k hk => h1.2 k (by rw [← hk]; exact (cutV_blk _ _).symm)⟩
      have hfb2 : FilesB w2 (A.map (leftL keep left) ++ x :: C.map (leftL keep left)) := hfb.keep fun z hz => ⟨hg2.block _ (hfb.lt hz).1 (fun e9 => by injection e9 with e9; have := (hfl z hz).1; omega), fun k hk => hg2.block k ((hfb.lt hz).2 k hk) (fun e9 => by injection e9 with e9; have := (hfl z hz).2 k hk; omega)⟩
      have hx2 : x ∈ A.map (leftL keep left) ++ x :: C.map (leftL keep left) := by simp
      have hbx := hfb2.box x hx2
      have hox := hfb2.own x hx2
      obtain ⟨a, c, hva, hby⟩ := hox.bys
      rw [hva] at hbx
      have hlen := HD.out.ok.each x.f (by rw [← HD.out.pr]; exact List.mem_map.2 ⟨x, hxm, rfl⟩)
      have hfl2 := flose_c hbx hby.le hby.max hlen.2.1 hlen.1 keep
      have hrel2 : ∀ w3, w3.heap[x.g]? = some (.cells #[.slice a (loseN keep x.f.b.length x.f.su) c, .int .i64 ((loseN keep x.f.b.length x.f.su : Nat) : Int)] 104 (0, 0)) → w2.grownBy w3 (some x.g) →
          w3.ranges Tryz.prog 9 ptrElem m w.heap.size FS.length (mapD FS) (fun z => left z && !z.sameKey (.string x.f.nm)) cnt2 ∧ FilesB w3 (FS.map (leftL keep (fun z => left z && !z.sameKey (.string x.f.nm)))) ∧ Trn (foot q m pv FS) w w3 ∧ (∀ k, (k = q ∨ pv = .pointer (some ⟨k, 0, none⟩)) → w3.heap[k]? = w.heap[k]?) := fun w3 hb3 hg3 => by
        have hd := HD.out
        obtain ⟨k1, k2, k3, k4, k5, k6⟩ := hd.kinds
        have hxg := (hfl x hx2).1
        refine ⟨hrg2.kept hg3 (fun e9 => (k4 x hxm).2.1 (by injection e9 with e9; exact e9.symm)) (fun e9 => by injection e9 with e9; omega), ?_, ?_, fun k hk => ?_⟩
        · rw [em2]
          refine hfb2.upd rfl ?_ ?_ (fun k hk => .inl (by rw [← hk]; exact (cutV_blk _ _).symm)) (fun k hk hne hnv => hg3.block k hk (by simpa using hne))
          · show w3.heap[x.g]? = some (.cells #[cutV x.v _, _] _ _)
            rw [hva]; exact hb3
          · show OwnB w3 0 5 (cutV x.v _) (x.f.b.take _)
            rw [hva]
            have ho2 : OwnB w3 0 5 x.v x.f.b := hox.of_blk fun k hk => hg3.block k (hox.lt k hk).2 (fun e9 => by injection e9 with e9; exact hfb2.kinds hx2 hx2 (e9 ▸ hk))
            rw [hva] at ho2
            exact ho2.take (lose_bd keep hlen.2.1).2
        · refine HT.out.trans (F' := fun k => k = w.heap.size ∨ k = x.g) ⟨hg3.os.trans hg2.os, hg3.tape.trans hg2.tape, hg3.output.trans hg2.output, Nat.le_trans hg2.size hg3.size, fun k hk hn => (hg3.block k (Nat.lt_of_lt_of_le hk hg2.size) (fun e9 => hn (.inr (by injection e9)))).trans (hg2.block k hk (fun e9 => hn (.inl (by injection e9))))⟩ (fun k hk => ?_)
          rcases hk with rfl | rfl
          · exact .inr (Nat.le_refl _)
          · exact .inl (.inr (.inr (.inr ⟨x, hxm, .inl rfl⟩)))
        · have hlt9 : k < w.heap.size := hd.lt (by rcases hk with rfl | hk; exact .inl rfl; exact .inr (.inr (.inl hk)))
          have hne : k ≠ x.g := by
            rcases hk with rfl | hk
            · exact Ne.symm (k4 x hxm).1
            · exact fun e9 => (k4 x hxm).2.2.1 (by rw [← e9]; exact hk)
          have hs9 := HT.out.size
          exact ((hg3.block k (by have := hg2.size; omega) (fun e9 => hne (by injection e9))).trans (hg2.block k (by omega) (fun e9 => by injection e9 with e9; omega))).trans (HQ.out k hk)
      have HR := Lib.hid hrel2
      have HFL := Lib.hid hfl2
      have HLT := Lib.hid hlt
      clear hrel2 hfl2 hlen hby hva hox hbx hx2 hfb2 hfl em em2 ex hfb hnn hxm hrg2 hlt hg2 hs2 hat hv hlk hkey hrg
      obtain ⟨xg, hxg⟩ : ∃ q, x.g = q := ⟨_, rfl⟩
      obtain ⟨kx, hkx⟩ : ∃ q, text x.f.nm = q := ⟨_, rfl⟩
      rw [hxg] at hen HR HFL ⊢
      rw [hkx] at hen ⊢
      clear hxg hkx
      go_wp2_with (go_at_call 99; (with_reducible refine HFL.out.mono ?_); rintro e3 w3 ⟨rfl, hb3, hg3⟩)
      obtain ⟨r1, r2, r3, r4⟩ := HR.out w3 hb3 hg3
      go_roundw
      case rel => exact ⟨_, cnt2, r1, r2, r3, r4⟩
      case measure => rw [r1.left_eq, HRG.out.left_eq]; exact HLT.out
end Go.Proofs.YtioeimkaljmffaaGreatDoor
end

section
namespace Go.Proofs.YtioeimkaljmffaaGreatDoor
open Go Go.RowKit
set_option linter.unusedVariables false

structure InvU (S : List Nat) (n : Nat) (V : Nat → Value → World → Prop) (R : Nat → World → Prop) (L : Nat → Bool) (xs : Nat → Value) (W : World) : Prop where
  val : ∀ i, i < n → L i = true → V i (xs i) W
  stage : ∃ k, k ≤ S.length ∧ (∀ j p, S[j]? = some p → (L p = true ↔ j < k)) ∧ R k W
section
variable {S : List Nat} {n : Nat} {V : Nat → Value → World → Prop} {R : Nat → World → Prop} {L : Nat → Bool} {xs : Nat → Value} {W W' : World}
theorem InvU.start {m : Nat} (hL : ∀ i, i < m → L i = false) (hS : ∀ p ∈ S, p < m) (hn : n ≤ m) (hr : R 0 W) : InvU S n V R L xs W :=
  ⟨fun i hi h => (by rw [hL i (by omega)] at h; cases h), 0, Nat.zero_le _, fun j p hj => ⟨fun h => (by rw [hL p (hS p (List.mem_of_getElem? hj))] at h; cases h), fun h => absurd h (Nat.not_lt_zero _)⟩, hr⟩
theorem InvU.pure (h : InvU S n V R L xs W) (i : Nat) (hi : i ∉ S) {v : Value} (hW : ∀ k, R k W → R k W') (hV : ∀ j u, j ≠ i → L j = true → V j u W → V j u W') (hv : V i v W') : InvU S n V R (fun j => if j = i then true else L j) (fun j => if j = i then v else xs j) W' := by
  obtain ⟨k, hk, hs, hr⟩ := h.stage
  refine ⟨fun j hj hL => ?_, k, hk, fun j p hp => ?_, hW k hr⟩
  · by_cases e : j = i
    · subst e; simpa using hv
    · simp only [if_neg e] at hL ⊢; exact hV j _ e hL (h.val j hj hL)
  · have e : p ≠ i := fun e => hi (e ▸ List.mem_of_getElem? hp)
    simp only [if_neg e]
    exact hs j p hp
theorem InvU.at (h : InvU S n V R L xs W) {i : Nat} (j : Nat) (hj : S[j]? = some i) (hL : L i = false) (hp : ∀ p, (0 < j ∧ S[j - 1]? = some p) → L p = true) : R j W := by
  obtain ⟨k, hk, hs, hr⟩ := h.stage
  have h1 : ¬ j < k := fun h2 => by rw [(hs j i hj).2 h2] at hL; cases hL
  by_cases h0 : j = 0
  · subst h0
    obtain rfl : k = 0 := by omega
    exact hr
  · have hlt : j < S.length := (List.getElem?_eq_some_iff.1 hj).1
    have h3 : S[j - 1]? = some S[j - 1] := List.getElem?_eq_getElem (by omega)
    have h4 := (hs (j - 1) _ h3).1 (hp _ ⟨by omega, h3⟩)
    obtain rfl : k = j := by omega
    exact hr
theorem InvU.step (h : InvU S n V R L xs W) {i : Nat} (j : Nat) (hj : S[j]? = some i) (hL : L i = false) (hp : ∀ p, (0 < j ∧ S[j - 1]? = some p) → L p = true) (hnd : S.Nodup) {v : Value} (hr : R (j + 1) W') (hV : ∀ j u, j ≠ i → L j = true → V j u W → V j u W') (hv : V i v W') :
    InvU S n V R (fun j => if j = i then true else L j) (fun j => if j = i then v else xs j) W' := by
  obtain ⟨k, hk, hs, -⟩ := h.stage
  have hlt : j < S.length := (List.getElem?_eq_some_iff.1 hj).1
  have h1 : ¬ j < k := fun h2 => by rw [(hs j i hj).2 h2] at hL; cases hL
  have hkj : k = j := by
    by_cases h0 : j = 0
    · omega
    · have h3 : S[j - 1]? = some S[j - 1] := List.getElem?_eq_getElem (by omega)
      have h4 := (hs (j - 1) _ h3).1 (hp _ ⟨by omega, h3⟩)
      omega
  subst hkj
  refine ⟨fun q hq hL => ?_, k + 1, by omega, fun q p hp9 => ?_, hr⟩
  · by_cases e : q = i
    · subst e; simpa using hv
    · simp only [if_neg e] at hL ⊢; exact hV q _ e hL (h.val q hq hL)
  · by_cases e : p = i
    · have hq : q = k := (List.getElem?_inj (List.getElem?_eq_some_iff.1 hp9).1 hnd).1 (by rw [hp9, hj, e])
      simp [e, hq]
    · simp only [if_neg e]
      rw [hs q p hp9]
      have hne : q ≠ k := fun e2 => e (by rw [e2, hj] at hp9; injection hp9 with hp9; exact hp9.symm)
      omega
theorem InvU.any (h : InvU S n V R L xs W) : ∃ k, k ≤ S.length ∧ R k W := by
  obtain ⟨k, hk, -, hr⟩ := h.stage
  exact ⟨k, hk, hr⟩
theorem InvU.done {m : Nat} (h : InvU S n V R L xs W) (hL : ∀ i, i < m → L i = true) (hS : ∀ p ∈ S, p < m) (hn : n ≤ m) : R S.length W ∧ ∀ i, i < n → V i (xs i) W := by
  obtain ⟨k, hk, hs, hr⟩ := h.stage
  refine ⟨?_, fun i hi => h.val i hi (hL i (by omega))⟩
  by_cases e : k = S.length
  · rw [← e]; exact hr
  · have h3 : S[k]? = some S[k] := List.getElem?_eq_getElem (by omega)
    have := (hs k _ h3).1 (hL _ (hS _ (List.mem_of_getElem? h3)))
    omega
end
end Go.Proofs.YtioeimkaljmffaaGreatDoor
end

section
namespace Go.Proofs.YtioeimkaljmffaaGreatDoor
open Go.RowKit Go Go.Sort Go.Maps Go.WideMaps
set_option linter.unusedVariables false
set_option maxRecDepth 20000

def insL (x : Fl) : List Fl → List Fl
  | [] => [x]
  | y :: r => if Op.bytesLess x.f.nm y.f.nm then x :: y :: r else y :: insL x r
theorem insL_map (x : Fl) : ∀ FS : List Fl, (insL x FS).map Fl.f = insF x.f (FS.map Fl.f)
  | [] => rfl
  | y :: r => by
    unfold insL
    simp only [List.map_cons]
    unfold insF
    split
    · rfl
    · simp [insL_map x r]
theorem insL_mem {x y : Fl} : ∀ {FS : List Fl}, y ∈ insL x FS ↔ y = x ∨ y ∈ FS
  | [] => by simp [insL]
  | z :: r => by
    unfold insL
    split
    · simp
    · rw [List.mem_cons, insL_mem (FS := r), List.mem_cons]; exact ⟨fun h => by rcases h with h | h | h <;> simp [h], fun h => by rcases h with h | h | h <;> simp [h]⟩
theorem insL_len (x : Fl) : ∀ FS : List Fl, (insL x FS).length = FS.length + 1
  | [] => rfl
  | y :: r => by
    unfold insL
    split
    · rfl
    · simp [insL_len x r]
theorem insL_pair {R : Fl → Fl → Prop} {x : Fl} (hs : ∀ a b, R a b → R b a) : ∀ {FS : List Fl}, FS.Pairwise R → (∀ y ∈ FS, R x y) → (insL x FS).Pairwise R
  | [], _, _ => by simp [insL]
  | y :: r, h, hx => by
    unfold insL
    split
    · exact List.pairwise_cons.2 ⟨hx, h⟩
    · rw [List.pairwise_cons] at h ⊢
      refine ⟨fun z hz => ?_, insL_pair hs h.2 fun z hz => hx z (by simp [hz])⟩
      rcases insL_mem.1 hz with rfl | hz
      · exact hs _ _ (hx y (by simp))
      · exact h.1 z hz
theorem insF_asc {f : Fi} : ∀ {F : List Fi}, F.Pairwise (fun a b => Op.bytesLess a.nm b.nm = true) → (∀ y ∈ F, y.nm ≠ f.nm) → (insF f F).Pairwise (fun a b => Op.bytesLess a.nm b.nm = true)
  | [], _, _ => by simp [insF]
  | y :: r, h, hx => by
    have h9 := List.pairwise_cons.1 h
    unfold insF
    split
    · rename_i hl
      refine List.pairwise_cons.2 ⟨fun z hz => ?_, h⟩
      rcases List.mem_cons.1 hz with rfl | hz
      · exact hl
      · exact less_trans hl (h9.1 z hz)
    · rename_i hl
      have hm : ∀ z, z ∈ insF f r → z = f ∨ z ∈ r := fun z hz => by
        have : ∀ F : List Fi, z ∈ insF f F → z = f ∨ z ∈ F := fun F => by
          induction F with
          | nil => intro h; simpa [insF] using h
          | cons a b ih =>
            intro h
            unfold insF at h
            split at h
            · simpa using h
            · rcases List.mem_cons.1 h with h | h
              · exact .inr (by simp [h])
              · rcases ih h with h | h
                · exact .inl h
                · exact .inr (by simp [h])
        exact this r hz
      refine List.pairwise_cons.2 ⟨fun z hz => ?_, insF_asc h9.2 fun z hz => hx z (by simp [hz])⟩
      rcases hm z hz with rfl | hz
      · rcases less_tri z.nm y.nm with h1 | h1 | h1
        · exact absurd h1 hl
        · exact absurd h1.symm (hx y (by simp))
        · exact h1
      · exact h9.1 z hz
theorem mapL_ins (x : Fl) : ∀ FS : List Fl, DataW.insert (.string x.f.nm, .lit (.int .i64 (x.g : Int))) (mapL FS) = mapL (insL x FS)
  | [] => rfl
  | y :: r => by
    unfold insL mapL
    simp only [List.map_cons]
    unfold DataW.insert
    simp only [Lit.before, before_less]
    split
    · rfl
    · have := mapL_ins x r
      unfold mapL at this
      rw [this]; rfl
theorem mapD_put {x : Fl} {FS : List Fl} (h : ∀ y ∈ FS, y.f.nm ≠ x.f.nm) : (mapD FS).put (.string x.f.nm) (.lit (.int .i64 (x.g : Int))) = mapD (insL x FS) := by
  have e : (mapL FS).filter (fun p => !p.1.sameKey (.string x.f.nm)) = mapL FS := by
    rw [List.filter_eq_self]
    intro p hp
    obtain ⟨y, hy, rfl⟩ := List.mem_map.1 hp
    have := h y hy
    simp [Lit.sameKey, this]
  unfold mapD DataW.put
  simp only [e, mapL_ins]
theorem mapD_del (nm : List UInt8) (FS : List Fl) : (mapD FS).del (.string nm) = mapD (FS.filter (fun x => !(x.f.nm == nm))) := by
  unfold mapD DataW.del mapL
  simp only [List.filter_map]
  rfl
theorem owns_tight {W : World} {m n : Nat} {D : DataW Unit} (h : W.ownsMap Tryz.prog 9 ptrElem m n D) : W.ownsMap Tryz.prog 9 ptrElem m (Maps.size D) D := by
  obtain ⟨es, clock, hb, F, hs, rfl⟩ := h
  exact ⟨es, clock, hb, F, by rw [Maps.size_eq, length_sorted]; simp, rfl⟩
theorem var_c {W : World} {b : Nat} {v : Value} {ty : TypeId} (h : W.heap[b]? = some (.cells #[v] ty (0, 0))) : W.cell? ⟨b, 0, none⟩ = some v := by rw [cell_of_row W b 0 _ ty (0, 0) h]; rfl
theorem heapB {W W' : World} {q : Nat} {o : Obj} (h : W.heap[q]? = some o) (hb : Below W.heap.size W W') : W'.heap[q]? = some o := (hb.block _ (Array.getElem?_eq_some_iff.1 h).1).trans h
theorem dmake_done {w W w3 : World} {q m g : Nat} {pv : Value} {FS : List Fl} {st : Ds} {nm : List UInt8} (h : DiskIn w q m pv FS st) (hW : Below w.heap.size w W) (hg : w.heap.size ≤ g) (hbx : W.heap[g]? = some (.cells #[.slice none 0 0, .int .i64 0] 104 (0, 0)))
    (hown : w3.ownsMap Tryz.prog 9 ptrElem m (FS.length + 1) ((mapD FS).put (.string nm) (.lit (.int .i64 (g : Int))))) (hgr : W.grownBy w3 (some m)) (hab : ∀ x ∈ FS, x.f.nm ≠ nm) (hgn : goodNm nm = true) (hln : FS.length < 64) :
    FPost q m pv FS st (insF ⟨nm, [], 0⟩) w (.returned (.tuple #[])) w3 := by
  obtain ⟨k1, k2, k3, k4, k5, k6⟩ := h.kinds
  have hml := h.lt (k := m) (.inr (.inl rfl))
  have hk : ∀ k, k < w.heap.size → k ≠ m → w3.heap[k]? = w.heap[k]? := fun k hk hne => (hgr.block k (Nat.lt_of_lt_of_le hk hW.size) (by simpa using hne)).trans (hW.block k hk)
  have hgl := (Array.getElem?_eq_some_iff.1 hbx).1
  have hbx3 : w3.heap[g]? = some (.cells #[.slice none 0 0, .int .i64 0] 104 (0, 0)) := (hgr.block g hgl (by simp; omega)).trans hbx
  have hd := mapD_put (x := ⟨g, .slice none 0 0, ⟨nm, [], 0⟩⟩) (FS := FS) hab
  rw [hd] at hown
  have hmem : ∀ y, y ∈ insL ⟨g, .slice none 0 0, ⟨nm, [], 0⟩⟩ FS → y = ⟨g, .slice none 0 0, ⟨nm, [], 0⟩⟩ ∨ y ∈ FS := fun y => insL_mem.1
  have hln2 : 1 ≤ nm.length ∧ nm.length ≤ 24 := by
    unfold goodNm at hgn
    simp only [Bool.and_eq_true, decide_eq_true_eq] at hgn
    exact hgn.1
  refine ⟨rfl, insL ⟨g, .slice none 0 0, ⟨nm, [], 0⟩⟩ FS, ⟨(hk q (h.lt (.inl rfl)) k1).trans h.head, ?_, ?_, ⟨fun y hy => ?_, fun y hy => ?_, ?_⟩, ?_, ?_⟩, ⟨hgr.os.trans hW.os, hgr.tape.trans hW.tape, hgr.output.trans hW.output, Nat.le_trans hW.size hgr.size, fun k hk9 hn => hk k hk9 (fun e => hn (.inr (.inl e)))⟩, fun k hk9 => ?_⟩
  · rcases h.plan with h1 | ⟨h1, gp, h2, h3⟩
    · exact .inl h1
    · exact .inr ⟨h1, gp, h2, (hk gp (h.lt (.inr (.inr (.inl h2)))) (fun e => k3 (by rw [h2, e]))).trans h3⟩
  · rw [insL_len]; exact hown
  · rcases hmem y hy with rfl | hy
    · exact hbx3
    · exact (hk _ (h.fb.lt hy).1 (k4 y hy).2.1).trans (h.fb.box y hy)
  · rcases hmem y hy with rfl | hy
    · exact World.ownsRow_nil _ _ _ _
    · exact (h.fb.own y hy).of_blk fun k hk9 => hk k ((h.fb.lt hy).2 k hk9) (fun e => (k4 y hy).2.2.2.2 (e ▸ hk9))
  · exact insL_pair (R := fun a b => a.g ≠ b.g ∧ ∀ k, a.v.ownBlock = some k → b.v.ownBlock ≠ some k) (fun a b hab => ⟨Ne.symm hab.1, fun k h1 h2 => hab.2 k h2 h1⟩) h.fb.apart (fun y hy => ⟨by have := (h.fb.lt hy).1; show g ≠ y.g; omega, fun k h1 => (by cases h1)⟩)
  · rw [insL_map, h.pr]
  · have ok := h.ok
    have hab2 : ∀ y ∈ st.F, y.nm ≠ nm := fun y hy => by
      rw [← h.pr] at hy
      obtain ⟨x, hx, rfl⟩ := List.mem_map.1 hy
      exact hab x hx
    have e1 : insF ⟨nm, [], 0⟩ st.F = (insL ⟨g, .slice none 0 0, ⟨nm, [], 0⟩⟩ FS).map Fl.f := by rw [insL_map, h.pr]
    refine ⟨?_, fun f hf => ?_, insF_asc ok.asc hab2, ok.pn, ok.room⟩
    · show (insF _ _).length ≤ 64
      rw [e1, List.length_map, insL_len]; omega
    · change f ∈ insF _ _ at hf
      rw [e1] at hf
      obtain ⟨x, hx, rfl⟩ := List.mem_map.1 hf
      rcases hmem x hx with rfl | hx
      · exact ⟨by simp, by simp, hln2.2⟩
      · exact ok.each x.f (by rw [← h.pr]; exact List.mem_map.2 ⟨x, hx, rfl⟩)
  · rcases hk9 with h1 | h1 | h1 | ⟨y, hy, h1⟩
    · exact .inl (.inl h1)
    · exact .inl (.inr (.inl h1))
    · exact .inl (.inr (.inr (.inl h1)))
    · rcases hmem y hy with rfl | hy
      · rcases h1 with h1 | h1
        · exact .inr (by rw [h1]; exact hg)
        · cases h1
      · exact .inl (.inr (.inr (.inr ⟨y, hy, h1⟩)))
set_option maxRecDepth 100000 in
set_option maxHeartbeats 3200000 in
theorem dmake1_c {w : World} {q m b0 b1 : Nat} {pv : Value} {FS : List Fl} {st : Ds} {nm : List UInt8} (h : DiskIn w q m pv FS st) (h0 : w.heap[b0]? = some (.cells #[.pointer (some ⟨q, 0, none⟩)] 24 (0, 0))) (h1 : w.heap[b1]? = some (.cells #[.string (text nm)] 9 (0, 0)))
    (hab : ∀ x ∈ FS, x.f.nm ≠ nm) (hgn : goodNm nm = true) (hln : FS.length < 64) : Calls Tryz.prog 68 #[.pointer (some ⟨b0, 0, none⟩), .pointer (some ⟨b1, 0, none⟩)] w (FPost q m pv FS st (insF ⟨nm, [], 0⟩) w) := by
  have hkey := key_textD nm (by unfold goodNm at hgn; simp only [Bool.and_eq_true, decide_eq_true_eq] at hgn; omega)
  obtain ⟨s, hs⟩ : ∃ s, text nm = s := ⟨_, rfl⟩
  rw [hs] at hkey h1
  have HKEY := Lib.hid hkey
  have HD := Lib.hid h
  have HV := Lib.hid (fun W (hW : Below w.heap.size w W) => And.intro (var_c (heapB h0 hW)) (var_c (heapB h1 hW)))
  have HAB := Lib.hid hab
  have HGN := Lib.hid hgn
  have HLN := Lib.hid hln
  clear hkey h h0 h1 hab hgn hln hs
  go_enter Tryz.func68, Tryz.ntmps68
  go_wp2
  refine wp_region_flow_tail 7 [none, none, some 0, some 1, some 2, some 3, some 4, some 5, some 6] (fun i => [undef, undef, undef, undef, undef, undef, undef].getD i undef) [(fun v _ => v = .pointer (some ⟨q, 0, none⟩)), (fun v _ => v = .pointer (some ⟨q, 0, none⟩)), (fun v _ => v = .pointer (some ⟨q, 0, none⟩)), (fun v _ => v = .map (some m)), (fun v _ => v = .string s), (fun v _ => v = .agg #[.slice none 0 0, .int .i64 0]), (fun v W => ∃ g, v = .pointer (some ⟨g, 0, none⟩) ∧ w.heap.size ≤ g ∧ W.heap[g]? = some (.cells #[.slice none 0 0, .int .i64 0] 104 (0, 0)))] (fun _ => False) (by kernel_rfl) (by kernel_rfl) (by kernel_rfl) rfl rfl rfl ?_ ?_ ?_
  · intro g hg v X Y hX hY hv
    simp only [List.mem_cons, List.not_mem_nil, or_false] at hg
    rcases hg with rfl | rfl | rfl | rfl | rfl | rfl | rfl
    all_goals first
      | exact hv
      | (obtain ⟨g, h1, h2, h3⟩ := hv; exact ⟨g, h1, h2, heapB h3 hY⟩)
  · simp only [flowOpsF, List.take_succ_cons, List.take_zero, and_true]
    refine ⟨?_, ?_, ?_, ?_, ?_, ?_, ?_⟩
    · intro xs W hW hn9
      obtain ⟨v0, v1⟩ := HV.out W hW
      simp only [flowAct, List.zipWith_cons_cons, List.zipWith_nil_left]
      go_wp2_with (fail)
      exact ⟨rfl, _, rfl, Below.refl _ _, rfl, fun h => h.elim⟩
    · intro xs W hW hn9
      simp [flowNeeds, Region.binds] at hn9
      simp only [flowAct, List.zipWith_cons_cons, List.zipWith_nil_left]
      try simp only [hn9]
      go_wp2_with (fail)
      exact ⟨rfl, _, rfl, Below.refl _ _, rfl, fun h => h.elim⟩
    · intro xs W hW hn9
      simp [flowNeeds, Region.binds] at hn9
      simp only [flowAct, List.zipWith_cons_cons, List.zipWith_nil_left]
      try simp only [hn9]
      go_wp2_with (fail)
      exact ⟨rfl, _, rfl, Below.refl _ _, rfl, fun h => h.elim⟩
    · intro xs W hW hn9
      have c0 := (HD.out.below hW).cs.1
      simp [flowNeeds, Region.binds] at hn9
      simp only [flowAct, List.zipWith_cons_cons, List.zipWith_nil_left]
      try simp only [hn9]
      go_wp2_with (fail)
      exact ⟨rfl, _, rfl, Below.refl _ _, rfl, fun h => h.elim⟩
    · intro xs W hW hn9
      obtain ⟨v0, v1⟩ := HV.out W hW
      simp only [flowAct, List.zipWith_cons_cons, List.zipWith_nil_left]
      go_wp2_with (fail)
      exact ⟨rfl, _, rfl, Below.refl _ _, rfl, fun h => h.elim⟩
    · intro xs W hW hn9
      simp only [flowAct, List.zipWith_cons_cons, List.zipWith_nil_left]
      go_wp2_with (fail)
      exact ⟨rfl, _, rfl, Below.refl _ _, rfl, fun h => h.elim⟩
    · intro xs W hW hn9
      simp [flowNeeds, Region.binds] at hn9
      simp only [flowAct, List.zipWith_cons_cons, List.zipWith_nil_left]
      try simp only [hn9]
      go_wp2_with (fail)
      exact ⟨rfl, _, rfl, alloc_below _ _, ⟨_, rfl, hW.size, heap_alloc_new _ _⟩, fun h => h.elim⟩
  · intro xs W hW hall hfr
    clear hfr
    simp only [flowAll, and_true, Nat.zero_add, Nat.reduceAdd] at hall
    obtain ⟨-, -, -, a3, a4, -, ⟨g, a6, hg1, hg2⟩⟩ := hall
    simp only [flowAct, List.zipWith_cons_cons, List.zipWith_nil_left, List.drop_succ_cons, List.drop_zero]
    simp only [a3, a4, a6]
    clear a3 a4 a6
    have HW := Lib.hid hW
    have HX := Lib.hid (And.intro hg1 hg2)
    have HM := Lib.hid (HD.out.below hW).map
    clear hW hg1 hg2
    go_wp2_with (at_mapUpdate; refine wpList_mapUpdate_own _ rfl _ _ _ 64 rfl 9 101 klawD Tryz.underlying64 ptrElem m FS.length (mapD FS) rfl HM.out (by have := HLN.out; unfold maxLen; omega) _ _ (.string nm) rfl rfl HKEY.out (.lit (.int .i64 (g : Int))) [] rfl ?_; intro w3 hown3 hgrow3)
    refine bodyPost_end (results_none rfl _ _ _) rfl ?_
    exact dmake_done HD.out HW.out HX.out.1 HX.out.2 hown3 hgrow3 HAB.out HGN.out HLN.out
theorem ddrop_done {w W w3 : World} {q m : Nat} {pv : Value} {FS : List Fl} {st : Ds} {nm : List UInt8} (h : DiskIn w q m pv FS st) (hW : Below w.heap.size w W)
    (hown : w3.ownsMap Tryz.prog 9 ptrElem m FS.length ((mapD FS).del (.string nm))) (hgr : W.grownBy w3 (some m)) : FPost q m pv FS st (delF nm) w (.returned (.tuple #[])) w3 := by
  obtain ⟨k1, k2, k3, k4, k5, k6⟩ := h.kinds
  have hk : ∀ k, k < w.heap.size → k ≠ m → w3.heap[k]? = w.heap[k]? := fun k hk hne => (hgr.block k (Nat.lt_of_lt_of_le hk hW.size) (by simpa using hne)).trans (hW.block k hk)
  rw [mapD_del] at hown
  have hown2 := owns_tight hown
  have hsz : Maps.size (mapD (FS.filter (fun x => !(x.f.nm == nm)))) = (FS.filter (fun x => !(x.f.nm == nm))).length := by unfold mapD Maps.size mapL; simp
  rw [hsz] at hown2
  have hmem : ∀ y, y ∈ FS.filter (fun x => !(x.f.nm == nm)) → y ∈ FS := fun y hy => (List.mem_filter.1 hy).1
  have e1 : delF nm st.F = (FS.filter (fun x => !(x.f.nm == nm))).map Fl.f := by
    unfold delF
    rw [← h.pr, List.filter_map]
    rfl
  refine ⟨rfl, FS.filter (fun x => !(x.f.nm == nm)), ⟨(hk q (h.lt (.inl rfl)) k1).trans h.head, ?_, hown2, ⟨fun y hy => ?_, fun y hy => ?_, h.fb.apart.filter _⟩, e1.symm, ?_⟩, ⟨hgr.os.trans hW.os, hgr.tape.trans hW.tape, hgr.output.trans hW.output, Nat.le_trans hW.size hgr.size, fun k hk9 hn => hk k hk9 (fun e => hn (.inr (.inl e)))⟩, fun k hk9 => ?_⟩
  · rcases h.plan with h1 | ⟨h1, gp, h2, h3⟩
    · exact .inl h1
    · exact .inr ⟨h1, gp, h2, (hk gp (h.lt (.inr (.inr (.inl h2)))) (fun e => k3 (by rw [h2, e]))).trans h3⟩
  · have hy := hmem y hy
    exact (hk _ (h.fb.lt hy).1 (k4 y hy).2.1).trans (h.fb.box y hy)
  · have hy := hmem y hy
    exact (h.fb.own y hy).of_blk fun k hk9 => hk k ((h.fb.lt hy).2 k hk9) (fun e => (k4 y hy).2.2.2.2 (e ▸ hk9))
  · have ok := h.ok
    refine ⟨Nat.le_trans (List.length_filter_le _ _) ok.len, fun f hf => ok.each f (List.mem_filter.1 hf).1, ok.asc.filter _, ok.pn, ok.room⟩
  · rcases hk9 with h1 | h1 | h1 | ⟨y, hy, h1⟩
    · exact .inl (.inl h1)
    · exact .inl (.inr (.inl h1))
    · exact .inl (.inr (.inr (.inl h1)))
    · exact .inl (.inr (.inr (.inr ⟨y, hmem y hy, h1⟩)))
set_option maxRecDepth 100000 in
set_option maxHeartbeats 3200000 in
theorem ddrop1_c {w : World} {q m b0 b1 : Nat} {pv : Value} {FS : List Fl} {st : Ds} {nm : List UInt8} (h : DiskIn w q m pv FS st) (h0 : w.heap[b0]? = some (.cells #[.pointer (some ⟨q, 0, none⟩)] 24 (0, 0))) (h1 : w.heap[b1]? = some (.cells #[.string (text nm)] 9 (0, 0)))
    (hn : nm.length ≤ 9223372036854775807) : Calls Tryz.prog 100 #[.pointer (some ⟨b0, 0, none⟩), .pointer (some ⟨b1, 0, none⟩)] w (FPost q m pv FS st (delF nm) w) := by
  have hkey := key_textD nm hn
  obtain ⟨s, hs⟩ : ∃ s, text nm = s := ⟨_, rfl⟩
  rw [hs] at hkey h1
  have HKEY := Lib.hid hkey
  have HD := Lib.hid h
  have HV := Lib.hid (fun W (hW : Below w.heap.size w W) => And.intro (var_c (heapB h0 hW)) (var_c (heapB h1 hW)))
  clear hkey h h0 h1 hs hn
  go_enter Tryz.func100, Tryz.ntmps100
  go_wp2
  refine wp_region_flow_tail 5 [none, none, some 0, some 1, some 2, some 3, some 4] (fun i => [undef, undef, undef, undef, undef].getD i undef) [(fun v _ => v = .pointer (some ⟨q, 0, none⟩)), (fun v _ => v = .pointer (some ⟨q, 0, none⟩)), (fun v _ => v = .pointer (some ⟨q, 0, none⟩)), (fun v _ => v = .map (some m)), (fun v _ => v = .string s)] (fun _ => False) (by kernel_rfl) (by kernel_rfl) (by kernel_rfl) rfl rfl rfl ?_ ?_ ?_
  · intro g hg v X Y hX hY hv
    simp only [List.mem_cons, List.not_mem_nil, or_false] at hg
    rcases hg with rfl | rfl | rfl | rfl | rfl
    all_goals first
      | exact hv
      | exact hv.kept hY
  · simp only [flowOpsF, List.take_succ_cons, List.take_zero, and_true]
    refine ⟨?_, ?_, ?_, ?_, ?_⟩
    · intro xs W hW hn9
      obtain ⟨v0, v1⟩ := HV.out W hW
      simp only [flowAct, List.zipWith_cons_cons, List.zipWith_nil_left]
      go_wp2_with (fail)
      exact ⟨rfl, _, rfl, Below.refl _ _, rfl, fun h => h.elim⟩
    · intro xs W hW hn9
      simp [flowNeeds, Region.binds] at hn9
      simp only [flowAct, List.zipWith_cons_cons, List.zipWith_nil_left]
      try simp only [hn9]
      go_wp2_with (fail)
      exact ⟨rfl, _, rfl, Below.refl _ _, rfl, fun h => h.elim⟩
    · intro xs W hW hn9
      simp [flowNeeds, Region.binds] at hn9
      simp only [flowAct, List.zipWith_cons_cons, List.zipWith_nil_left]
      try simp only [hn9]
      go_wp2_with (fail)
      exact ⟨rfl, _, rfl, Below.refl _ _, rfl, fun h => h.elim⟩
    · intro xs W hW hn9
      have c0 := (HD.out.below hW).cs.1
      simp [flowNeeds, Region.binds] at hn9
      simp only [flowAct, List.zipWith_cons_cons, List.zipWith_nil_left]
      try simp only [hn9]
      go_wp2_with (fail)
      exact ⟨rfl, _, rfl, Below.refl _ _, rfl, fun h => h.elim⟩
    · intro xs W hW hn9
      obtain ⟨v0, v1⟩ := HV.out W hW
      simp only [flowAct, List.zipWith_cons_cons, List.zipWith_nil_left]
      go_wp2_with (fail)
      exact ⟨rfl, _, rfl, Below.refl _ _, rfl, fun h => h.elim⟩
  · intro xs W hW hall hfr
    clear hfr
    simp only [flowAll, and_true, Nat.zero_add, Nat.reduceAdd] at hall
    obtain ⟨-, -, -, a3, a4⟩ := hall
    simp only [flowAct, List.zipWith_cons_cons, List.zipWith_nil_left, List.drop_succ_cons, List.drop_zero]
    simp only [a3, a4]
    clear a3 a4
    have HW := Lib.hid hW
    have HM := Lib.hid (HD.out.below hW).map
    clear hW
    go_wp2_with (refine wpList_delete_own _ rfl _ _ 64 9 rfl 101 klawD Tryz.underlying64 ptrElem m FS.length (mapD FS) rfl HM.out _ (.string nm) rfl HKEY.out ?_; intro w3 hown3 hturn3)
    refine bodyPost_end (results_none rfl _ _ _) rfl ?_
    exact ddrop_done HD.out HW.out hown3 hturn3.grown
theorem dnothing_c {w : World} {q m : Nat} {pv : Value} {FS : List Fl} {st : Ds} (h : DiskIn w q m pv FS st) : Calls Tryz.prog 69 #[] w (FPost q m pv FS st id w) := by
  have HD := Lib.hid h
  clear h
  go_enter Tryz.func69, Tryz.ntmps69
  go_wp2
  refine bodyPost_end (results_none rfl _ _ _) rfl ?_
  exact ⟨rfl, FS, HD.out, Trn.refl, fun k hk => .inl hk⟩
end Go.Proofs.YtioeimkaljmffaaGreatDoor
end

section
namespace Go.Proofs.YtioeimkaljmffaaGreatDoor
open Go.RowKit Go Go.Sort Go.Maps Go.WideMaps
set_option linter.unusedVariables false
set_option maxRecDepth 20000

theorem Tryz.info5D : (Tryz.prog.info? 5).map (fun i => (i.zero, i.size, i.bytes)) = some (some (.int .u8 0), 1, 1) := by kernel_rfl
theorem run_append_bysA {P : Program} {w : World} {base : Nat} {t ty e : TypeId} {i : TypeInfo} {z : Value} {bytes : Nat} (ht : P.underlying t = some (.slice e)) (hi : P.info? e = some i) (hz : i.zero = some z)
    (hsize : i.size = 1) (hby : i.bytes = 1) (hzs : z.cells.size = 1) {v : Value} {k : List UInt8} (hown : OwnB w base e v k)
    {a : Option Addr} {m c : Nat} {l : List UInt8} (hb : Bys w a m c l) (h63 : k.length + m ≤ 140737488355328) (hbase : base ≤ w.heap.size) :
    ∃ v' w', (Builtin.append_ #[t, t] ty #[v, .slice a m c]).run P w = .ok v' w' ∧ OwnB w' base e v' (k ++ l) ∧ w.grownBy w' v.ownBlock ∧ (v'.ownBlock = v.ownBlock ∨ v'.ownBlock = some w.heap.size) := by
  have hlen := hb.len
  by_cases hm : a = none ∧ m = 0
  · obtain ⟨rfl, rfl⟩ := hm
    have hl : l = [] := List.eq_nil_of_length_eq_zero hb.len
    subst hl
    rw [List.append_nil]
    refine ⟨v, w, ?_, hown, World.grownBy.refl _ _, .inl rfl⟩
    have hown' := hown
    rcases hown'.2 with ⟨rfl, hn⟩ | ⟨g, cap, cur, rfl, _, _, hnc, _⟩
    · simp [Builtin.append_, run_underlying ht, sizeOf, typeInfo, hi, Builtin.lenOf, Builtin.firstCells]
    · simp [Builtin.append_, run_underlying ht, sizeOf, typeInfo, hi, Builtin.lenOf, Builtin.firstCells, hnc, storeCells]
  · obtain ⟨ad, rfl, hc⟩ : ∃ ad, a = some ad ∧ ∀ j v, (u8v l)[j]? = some v → w.cell? (ad.add j) = some v := by
      by_cases hm0 : 0 < m
      · exact hb.cells hm0
      · cases a with
        | none => exact absurd ⟨rfl, by omega⟩ hm
        | some ad =>
          have hl : l = [] := List.eq_nil_of_length_eq_zero (by omega)
          subst hl
          exact ⟨ad, rfl, fun j v hv => by simp [u8v] at hv⟩
    obtain ⟨v', w', h1, h2, h3, _, h5⟩ := run_append_own_at (P := P) w base t ty e i z 1 1 ht hi hz hsize hby hzs (by decide) v k.length (u8v k) hown ad m c (u8v l) (by rw [u8v_length]; omega) hc (u8v_one l)
      (by unfold maxLen; omega) (by omega) hbase
    refine ⟨v', w', h1, ?_, h3, h5⟩
    unfold OwnB
    rw [List.length_append, u8v_append, hlen]
    exact h2
theorem wpList_append_bysA {P : Program} {w : World} {ops : Array Oper} {rest : List Oper} {o : Oper} {a : Act} {Q : Exit → Act → World → Prop} (hgd : o.guard = none) (s x : Operand) (t : TypeId)
    (ho : o.op = .call { callee := .builtin .append, args := #[s, x], argTypes := #[t, t] })
    {base : Nat} {e : TypeId} {i : TypeInfo} {z : Value} (ht : P.underlying t = some (.slice e)) (hi : P.info? e = some i) (hz : i.zero = some z)
    (hsize : i.size = 1) (hby : i.bytes = 1) (hzs : z.cells.size = 1) {v : Value} {k : List UInt8} (hs : a.eval s = v) (hown : OwnB w base e v k)
    {ad : Option Addr} {m c : Nat} {l : List UInt8} (hx : a.eval x = .slice ad m c) (hb : Bys w ad m c l) (h63 : k.length + m ≤ 140737488355328) (hbase : base ≤ w.heap.size)
    (h : ∀ v' w', OwnB w' base e v' (k ++ l) → w.grownBy w' v.ownBlock → (v'.ownBlock = v.ownBlock ∨ v'.ownBlock = some w.heap.size) → wpList P ops Q rest (a.put o.dst v') w') : wpList P ops Q (o :: rest) a w := by
  refine wpList_plain hgd fun K hK => ?_
  obtain ⟨v', w', hr, h2, h3, h4⟩ := run_append_bysA (P := P) (ty := o.type) (bytes := 1) ht hi hz hsize hby hzs hown hb h63 hbase
  unfold Oper.wp execOp
  simp only [ho, resolve, invoke, builtin, Sem.run_bind, Sem.run_pure, Result.andThen_ok, List.map_toArray, List.map_cons, List.map_nil, hs, hx, hr]
  exact hK _ _ (h v' w' h2 h3 h4)
/-- One file turned, its name kept: what the whole disk is then. -/
theorem fpost_one {w w3 : World} {q m : Nat} {pv : Value} {FS : List Fl} {st : Ds} {x x' : Fl} {nm : List UInt8} {gf : Fi → Fi} (h : DiskIn w q m pv FS st) (hf : FS.find? (fun y => y.f.nm == nm) = some x) (hg : x'.g = x.g) (hfe : x'.f = gf x.f) (hn : (gf x.f).nm = x.f.nm)
    (hl : (gf x.f).b.length ≤ 1048576 ∧ (gf x.f).su ≤ (gf x.f).b.length) (hbox : w3.heap[x.g]? = some (.cells #[x'.v, .int .i64 (x'.f.su : Int)] 104 (0, 0))) (hown : OwnB w3 0 5 x'.v x'.f.b)
    (hv : ∀ k, x'.v.ownBlock = some k → x.v.ownBlock = some k ∨ w.heap.size ≤ k) (hos : w3.os = w.os) (htp : w3.tape = w.tape) (hou : w3.output = w.output) (hsz : w.heap.size ≤ w3.heap.size)
    (hk : ∀ k, k < w.heap.size → k ≠ x.g → x.v.ownBlock ≠ some k → w3.heap[k]? = w.heap[k]?) : FPost q m pv FS st (setF nm gf) w (.returned (.tuple #[])) w3 := by
  obtain ⟨hnm, A, C, rfl⟩ := find_split hf
  have hd := h.upd (x' := x') hg (by rw [hfe]; exact hn) (by rw [hfe]; exact hl) hbox hown hv hk
  have e : setF nm gf st.F = A.map Fl.f ++ x'.f :: C.map Fl.f := by
    have ha := h.ok.asc
    rw [← h.pr, List.map_append, List.map_cons] at ha ⊢
    rw [← hnm, setF_split gf ha, hfe]
  refine ⟨rfl, A ++ x' :: C, by rw [e]; exact hd, ⟨hos, htp, hou, hsz, fun k hk9 hn9 => hk k hk9 (fun e9 => hn9 (.inr (.inr (.inr ⟨x, by simp, .inl e9⟩)))) (fun e9 => hn9 (.inr (.inr (.inr ⟨x, by simp, .inr e9⟩))))⟩, fun k hk9 => foot_upd hg hv hk9⟩
theorem DiskIn.file {W : World} {q m : Nat} {pv : Value} {FS : List Fl} {st : Ds} (h : DiskIn W q m pv FS st) {nm : List UInt8} {x : Fl} (hf : FS.find? (fun y => y.f.nm == nm) = some x) :
    x ∈ FS ∧ x.f.nm = nm ∧ x.f.b.length ≤ 1048576 ∧ x.f.su ≤ x.f.b.length ∧ ∃ a c, x.v = .slice a x.f.b.length c ∧ Bys W a x.f.b.length c x.f.b ∧ W.heap[x.g]? = some (.cells #[.slice a x.f.b.length c, .int .i64 (x.f.su : Int)] 104 (0, 0)) := by
  have hm := List.mem_of_find?_eq_some hf
  have hn := (find_split hf).1
  have he := h.ok.each x.f (by rw [← h.pr]; exact List.mem_map.2 ⟨x, hm, rfl⟩)
  obtain ⟨a, c, hva, hby⟩ := (h.fb.own x hm).bys
  have hb := h.fb.box x hm
  rw [hva] at hb
  exact ⟨hm, hn, he.1, he.2.1, a, c, hva, hby, hb⟩
set_option maxRecDepth 100000 in
set_option maxHeartbeats 3200000 in
theorem dsync1_c {w : World} {q m b0 : Nat} {pv : Value} {FS : List Fl} {st : Ds} {nm : List UInt8} {x : Fl} (h : DiskIn w q m pv FS st) (hf : FS.find? (fun y => y.f.nm == nm) = some x) (h0 : w.heap[b0]? = some (.cells #[.pointer (some ⟨x.g, 0, none⟩)] 101 (0, 0))) :
    Calls Tryz.prog 132 #[.pointer (some ⟨b0, 0, none⟩)] w (FPost q m pv FS st (setF nm fun f => ⟨f.nm, f.b, f.b.length⟩) w) := by
  obtain ⟨hxm, hnm, hl1, hl2, a, c, hva, hby, hbx⟩ := h.file hf
  have HE := Lib.hid (fun (w3 : World) (hb3 : w3.heap[x.g]? = some (.cells #[.slice a x.f.b.length c, .int .i64 (x.f.b.length : Int)] 104 (0, 0))) (hk : ∀ k, k < w.heap.size → k ≠ x.g → w3.heap[k]? = w.heap[k]?) (h1 : w3.os = w.os) (h2 : w3.tape = w.tape) (h3 : w3.output = w.output) (h4 : w.heap.size ≤ w3.heap.size) =>
    fpost_one (x' := ⟨x.g, x.v, ⟨x.f.nm, x.f.b, x.f.b.length⟩⟩) (gf := fun f => ⟨f.nm, f.b, f.b.length⟩) h hf rfl rfl rfl ⟨hl1, Nat.le_refl _⟩ (by rw [hva]; exact hb3) ((h.fb.own x hxm).of_blk fun k hk9 => hk k ((h.fb.lt hxm).2 k hk9) (fun e => h.fb.kinds hxm hxm (e ▸ hk9))) (fun k hk9 => .inl hk9) h1 h2 h3 h4 (fun k hk9 hne _ => hk k hk9 hne))
  obtain ⟨xl, hxl⟩ : ∃ n, x.f.b.length = n := ⟨_, rfl⟩
  obtain ⟨xg, hxg⟩ : ∃ n, x.g = n := ⟨_, rfl⟩
  rw [hxl, hxg] at HE hbx
  rw [hxg] at h0
  have HBX := Lib.hid hbx
  have HV := Lib.hid (fun W (hW : Below w.heap.size w W) => var_c (heapB h0 hW))
  have HB := Lib.hid (fun W (hW : Below w.heap.size w W) => box_cs (heapB hbx hW))
  clear h hf h0 hxm hnm hl1 hl2 hva hby hbx hxl hxg
  go_enter Tryz.func132, Tryz.ntmps132
  go_wp2
  refine wp_region_flow_tail 8 [none, some 0, some 1, some 2, some 3, some 4, some 5, some 6, some 7] (fun i => [undef, undef, undef, undef, undef, undef, undef, undef].getD i undef) [(fun v _ => v = .pointer (some ⟨xg, 0, none⟩)), (fun v _ => v = .pointer (some ⟨xg, 0, none⟩)), (fun v _ => v = .pointer (some ⟨xg, 0, none⟩)), (fun v _ => v = .pointer (some ⟨xg, 0, none⟩)), (fun v _ => v = .slice a xl c), (fun v _ => v = .int .i64 (xl : Int)), (fun v _ => v = .pointer (some ⟨xg, 0, none⟩)), (fun v _ => v = .pointer (some ⟨xg, 1, none⟩))] (fun _ => False) (by kernel_rfl) (by kernel_rfl) (by kernel_rfl) rfl rfl rfl ?_ ?_ ?_
  · intro g hg v X Y hX hY hv
    simp only [List.mem_cons, List.not_mem_nil, or_false] at hg
    rcases hg with rfl | rfl | rfl | rfl | rfl | rfl | rfl | rfl
    all_goals first
      | exact hv
      | exact hv.kept hY
  · simp only [flowOpsF, List.take_succ_cons, List.take_zero, and_true]
    refine ⟨?_, ?_, ?_, ?_, ?_, ?_, ?_, ?_⟩
    · intro xs W hW hn9
      have v0 := HV.out W hW
      simp only [flowAct, List.zipWith_cons_cons, List.zipWith_nil_left]
      go_wp2_with (fail)
      exact ⟨rfl, _, rfl, Below.refl _ _, rfl, fun h => h.elim⟩
    · intro xs W hW hn9
      have v0 := HV.out W hW
      simp only [flowAct, List.zipWith_cons_cons, List.zipWith_nil_left]
      go_wp2_with (fail)
      exact ⟨rfl, _, rfl, Below.refl _ _, rfl, fun h => h.elim⟩
    · intro xs W hW hn9
      simp [flowNeeds, Region.binds] at hn9
      simp only [flowAct, List.zipWith_cons_cons, List.zipWith_nil_left]
      try simp only [hn9]
      go_wp2_with (fail)
      exact ⟨rfl, _, rfl, Below.refl _ _, rfl, fun h => h.elim⟩
    · intro xs W hW hn9
      simp [flowNeeds, Region.binds] at hn9
      simp only [flowAct, List.zipWith_cons_cons, List.zipWith_nil_left]
      try simp only [hn9]
      go_wp2_with (fail)
      exact ⟨rfl, _, rfl, Below.refl _ _, rfl, fun h => h.elim⟩
    · intro xs W hW hn9
      obtain ⟨d0, d1⟩ := HB.out W hW
      simp [flowNeeds, Region.binds] at hn9
      simp only [flowAct, List.zipWith_cons_cons, List.zipWith_nil_left]
      try simp only [hn9]
      go_wp2_with (fail)
      exact ⟨rfl, _, rfl, Below.refl _ _, rfl, fun h => h.elim⟩
    · intro xs W hW hn9
      simp [flowNeeds, Region.binds] at hn9
      simp only [flowAct, List.zipWith_cons_cons, List.zipWith_nil_left]
      try simp only [hn9]
      go_wp2_with (fail)
      exact ⟨rfl, _, rfl, Below.refl _ _, rfl, fun h => h.elim⟩
    · intro xs W hW hn9
      simp [flowNeeds, Region.binds] at hn9
      simp only [flowAct, List.zipWith_cons_cons, List.zipWith_nil_left]
      try simp only [hn9]
      go_wp2_with (fail)
      exact ⟨rfl, _, rfl, Below.refl _ _, rfl, fun h => h.elim⟩
    · intro xs W hW hn9
      simp [flowNeeds, Region.binds] at hn9
      simp only [flowAct, List.zipWith_cons_cons, List.zipWith_nil_left]
      try simp only [hn9]
      go_wp2_with (fail)
      exact ⟨rfl, _, rfl, Below.refl _ _, rfl, fun h => h.elim⟩
  · intro xs W hW hall hfr
    clear hfr
    simp only [flowAll, and_true, Nat.zero_add, Nat.reduceAdd] at hall
    obtain ⟨-, -, -, -, -, a5, -, a7⟩ := hall
    simp only [flowAct, List.zipWith_cons_cons, List.zipWith_nil_left, List.drop_succ_cons, List.drop_zero]
    simp only [a5, a7]
    clear a5 a7
    have HW := Lib.hid hW
    have hb3 := heapB HBX.out hW
    obtain ⟨d0, d1⟩ := box_cs hb3
    have f1 := box_fz hb3 1
    have HB3 := Lib.hid hb3
    clear hb3 hW
    go_wp2
    refine bodyPost_end (results_none rfl _ _ _) rfl ?_
    exact HE.out _ (box_set1 HB3.out _) (fun k hk hne => (heap_setCell_other _ _ _ _ hne).trans (HW.out.block k hk)) HW.out.os HW.out.tape HW.out.output (by rw [World.size_setCell]; exact HW.out.size)
set_option maxRecDepth 100000 in
set_option maxHeartbeats 3200000 in
theorem dcut1_c {w : World} {q m b0 b1 n : Nat} {pv : Value} {FS : List Fl} {st : Ds} {nm : List UInt8} {x : Fl} (h : DiskIn w q m pv FS st) (hf : FS.find? (fun y => y.f.nm == nm) = some x) (h0 : w.heap[b0]? = some (.cells #[.pointer (some ⟨x.g, 0, none⟩)] 101 (0, 0))) (h1 : w.heap[b1]? = some (.cells #[.int .i64 (n : Int)] 3 (0, 0))) (hn : n ≤ x.f.b.length) :
    Calls Tryz.prog 126 #[.pointer (some ⟨b0, 0, none⟩), .pointer (some ⟨b1, 0, none⟩)] w (FPost q m pv FS st (setF nm fun f => ⟨f.nm, f.b.take n, min f.su n⟩) w) := by
  obtain ⟨hxm, hnm, hl1, hl2, a, c, hva, hby, hbx⟩ := h.file hf
  have hlt : (x.f.b.take n).length = n := by rw [List.length_take]; omega
  have HE := Lib.hid (fun (w3 : World) (hb3 : w3.heap[x.g]? = some (.cells #[.slice a n c, .int .i64 ((min x.f.su n : Nat) : Int)] 104 (0, 0))) (hg : w.grownBy w3 (some x.g)) =>
    fpost_one (x' := ⟨x.g, .slice a n c, ⟨x.f.nm, x.f.b.take n, min x.f.su n⟩⟩) (gf := fun f => ⟨f.nm, f.b.take n, min f.su n⟩) h hf rfl rfl rfl ⟨by show (x.f.b.take n).length ≤ _; omega, by show min x.f.su n ≤ (x.f.b.take n).length; omega⟩ hb3
      (by
        have ho : OwnB w3 0 5 x.v x.f.b := (h.fb.own x hxm).of_blk fun k hk9 => hg.block k ((h.fb.lt hxm).2 k hk9) (fun e => h.fb.kinds hxm hxm (by injection e with e; exact e ▸ hk9))
        rw [hva] at ho
        exact ho.take hn) (fun k hk9 => .inl (by rw [hva]; rw [← hk9]; cases a <;> rfl)) hg.os hg.tape hg.output hg.size (fun k hk9 hne _ => hg.block k hk9 (by simpa using hne)))
  have HC := Lib.hid (fcut_c hbx hby.le hn)
  have v0 := var_c h0
  have v1 := var_c h1
  clear h hf h0 h1 hxm hnm hl1 hl2 hva hby hbx hlt hn
  go_enter Tryz.func126, Tryz.ntmps126
  go_wp2_with (go_at_call 127; (with_reducible refine HC.out.mono ?_); rintro e9 w9 ⟨rfl, hb9, hg9⟩)
  refine bodyPost_end (results_none rfl _ _ _) rfl ?_
  exact HE.out _ hb9 hg9
/-- The world while bytes are put at a file's end: before, behind the append, behind the store. -/
def ApR (w : World) (xg : Nat) (xv : Value) (xb l : List UInt8) (su : Nat) : Nat → World → Prop
  | 0, W => Below w.heap.size w W
  | 1, W => w.os = W.os ∧ w.tape = W.tape ∧ w.output = W.output ∧ w.heap.size ≤ W.heap.size ∧ ∀ k, k < w.heap.size → xv.ownBlock ≠ some k → W.heap[k]? = w.heap[k]?
  | _, W => (∃ v', W.heap[xg]? = some (.cells #[v', .int .i64 (su : Int)] 104 (0, 0)) ∧ OwnB W 0 5 v' (xb ++ l) ∧ ∀ k, v'.ownBlock = some k → xv.ownBlock = some k ∨ w.heap.size ≤ k) ∧ w.os = W.os ∧ w.tape = W.tape ∧ w.output = W.output ∧ w.heap.size ≤ W.heap.size ∧ ∀ k, k < w.heap.size → k ≠ xg → xv.ownBlock ≠ some k → W.heap[k]? = w.heap[k]?
def ApV (w : World) (xg : Nat) (xv : Value) (xb l : List UInt8) (ab : Option Addr) (bl cb : Nat) (i : Nat) (v : Value) (W : World) : Prop :=
  ([(fun v _ => v = .pointer (some ⟨xg, 0, none⟩)), (fun v _ => v = .pointer (some ⟨xg, 0, none⟩)), (fun v _ => v = .pointer (some ⟨xg, 0, none⟩)), (fun v _ => v = .pointer (some ⟨xg, 0, none⟩)), (fun v _ => v = xv), (fun v _ => v = .slice ab bl cb), (fun v W => OwnB W 0 5 v (xb ++ l) ∧ ∀ k, v.ownBlock = some k → xv.ownBlock = some k ∨ w.heap.size ≤ k), (fun v _ => v = .pointer (some ⟨xg, 0, none⟩)), (fun v _ => v = .pointer (some ⟨xg, 0, none⟩)), (fun _ _ => True)].getD i fun _ _ => True) v W
theorem ApV.keep {w W W' : World} {xg : Nat} {xv : Value} {xb l : List UInt8} {ab : Option Addr} {bl cb i : Nat} {v : Value} (h : ApV w xg xv xb l ab bl cb i v W) (hk : i = 6 → OwnB W 0 5 v (xb ++ l) → OwnB W' 0 5 v (xb ++ l)) : ApV w xg xv xb l ab bl cb i v W' := by
  unfold ApV at h ⊢
  rcases (by omega : i < 10 ∨ 10 ≤ i) with hi | hi
  · rcases (by omega : i = 0 ∨ i = 1 ∨ i = 2 ∨ i = 3 ∨ i = 4 ∨ i = 5 ∨ i = 6 ∨ i = 7 ∨ i = 8 ∨ i = 9) with rfl | rfl | rfl | rfl | rfl | rfl | rfl | rfl | rfl | rfl
    all_goals first
      | exact h
      | exact ⟨hk rfl h.1, h.2⟩
  · rw [List.getD_eq_getElem?_getD, List.getElem?_eq_none (by simpa using hi)] at h ⊢
    exact h
theorem ApR.vars {w W : World} {xg su b0 b1 : Nat} {xv u0 u1 : Value} {xb l : List UInt8} {t0 t1 : TypeId} (h0 : w.heap[b0]? = some (.cells #[u0] t0 (0, 0))) (h1 : w.heap[b1]? = some (.cells #[u1] t1 (0, 0))) (hbx : w.heap[xg]? = some (.cells #[xv, .int .i64 (su : Int)] 104 (0, 0))) (hox : OwnB w 0 5 xv xb) (n0 : t0 ≠ 5) (n1 : t1 ≠ 5) (m0 : t0 ≠ 104) (m1 : t1 ≠ 104) :
    ∀ {k : Nat}, ApR w xg xv xb l su k W → W.cell? ⟨b0, 0, none⟩ = some u0 ∧ W.cell? ⟨b1, 0, none⟩ = some u1 := by
  have a0 : xv.ownBlock ≠ some b0 := fun e => by obtain ⟨c, hc⟩ := hox.blkD e; exact n0 (tneD h0 hc)
  have a1 : xv.ownBlock ≠ some b1 := fun e => by obtain ⟨c, hc⟩ := hox.blkD e; exact n1 (tneD h1 hc)
  have a2 : b0 ≠ xg := fun e => m0 (by rw [e] at h0; exact tneD h0 hbx)
  have a3 : b1 ≠ xg := fun e => m1 (by rw [e] at h1; exact tneD h1 hbx)
  have l0 := (Array.getElem?_eq_some_iff.1 h0).1
  have l1 := (Array.getElem?_eq_some_iff.1 h1).1
  intro k h
  match k, h with
  | 0, h => exact ⟨var_c ((h.block b0 l0).trans h0), var_c ((h.block b1 l1).trans h1)⟩
  | 1, h => exact ⟨var_c ((h.2.2.2.2 b0 l0 a0).trans h0), var_c ((h.2.2.2.2 b1 l1 a1).trans h1)⟩
  | _ + 2, h => exact ⟨var_c ((h.2.2.2.2.2 b0 l0 a2 a0).trans h0), var_c ((h.2.2.2.2.2 b1 l1 a3 a1).trans h1)⟩
def DepP (L : Nat → Bool) : Prop := L 6 = true → L 4 = true
theorem DepP.put {L : Nat → Bool} (h : DepP L) (i : Nat) (hi : i = 6 → L 4 = true) : DepP (fun j => if j = i then true else L j) := fun h6 => by
  by_cases e : i = 6
  · subst e; simp [hi rfl]
  · have h6' : L 6 = true := by simpa [Ne.symm e] using h6
    simp [h h6']
theorem ApR.box4 {w W : World} {xg su : Nat} {xv : Value} {xb l : List UInt8} {V : Nat → Value → World → Prop} {L : Nat → Bool} {xs : Nat → Value} (hbx : w.heap[xg]? = some (.cells #[xv, .int .i64 (su : Int)] 104 (0, 0))) (hkx : xv.ownBlock ≠ some xg) (hI : InvU [6, 9] 10 V (ApR w xg xv xb l su) L xs W) (h9 : L 6 = false) : W.heap[xg]? = some (.cells #[xv, .int .i64 (su : Int)] 104 (0, 0)) := by
  have l0 := (Array.getElem?_eq_some_iff.1 hbx).1
  obtain ⟨k, hk, hs, hr⟩ := hI.stage
  have h1 : ¬ 0 < k := fun h => by rw [(hs 0 6 rfl).2 h] at h9; cases h9
  match k, hr, h1 with
  | 0, h, _ => exact (h.block xg l0).trans hbx
  | n + 1, _, h => omega
set_option maxRecDepth 100000 in
set_option maxHeartbeats 3200000 in
theorem dappend1_c {w : World} {q m b0 b1 : Nat} {pv : Value} {FS : List Fl} {st : Ds} {nm l : List UInt8} {x : Fl} {ab : Option Addr} {bl cb : Nat} (h : DiskIn w q m pv FS st) (hf : FS.find? (fun y => y.f.nm == nm) = some x) (h0 : w.heap[b0]? = some (.cells #[.pointer (some ⟨x.g, 0, none⟩)] 101 (0, 0))) (h1 : w.heap[b1]? = some (.cells #[.slice ab bl cb] 34 (0, 0)))
    (hbl : Bys w ab bl cb l) (hlen : x.f.b.length + l.length ≤ 1048576) :
    Calls Tryz.prog 72 #[.pointer (some ⟨b0, 0, none⟩), .pointer (some ⟨b1, 0, none⟩)] w (FPost q m pv FS st (setF nm fun f => ⟨f.nm, f.b ++ l, f.su⟩) w) := by
  obtain ⟨hxm, hnm, hl1, hl2, a, c, hva, hby, hbx⟩ := h.file hf
  have hkx := h.fb.kinds hxm hxm
  have HE := Lib.hid (fun (w3 : World) (hr : ApR w x.g x.v x.f.b l x.f.su 2 w3) => (by
    obtain ⟨⟨v', hb3, ho3, hv3⟩, h1, h2, h3, h4, hk⟩ := hr
    exact fpost_one (x' := ⟨x.g, v', ⟨x.f.nm, x.f.b ++ l, x.f.su⟩⟩) (gf := fun f => ⟨f.nm, f.b ++ l, f.su⟩) h hf rfl rfl rfl ⟨by show (x.f.b ++ l).length ≤ _; rw [List.length_append]; exact hlen, by show x.f.su ≤ (x.f.b ++ l).length; rw [List.length_append]; omega⟩ hb3 ho3 hv3 h1.symm h2.symm h3.symm h4 hk : FPost q m pv FS st (setF nm fun f => ⟨f.nm, f.b ++ l, f.su⟩) w (.returned (.tuple #[])) w3))
  have hox := h.fb.own x hxm
  obtain ⟨xv, hxv⟩ : ∃ n, x.v = n := ⟨_, rfl⟩
  obtain ⟨xb, hxb⟩ : ∃ n, x.f.b = n := ⟨_, rfl⟩
  obtain ⟨xg, hxg⟩ : ∃ n, x.g = n := ⟨_, rfl⟩
  obtain ⟨su, hsu⟩ : ∃ n, x.f.su = n := ⟨_, rfl⟩
  have hbx : w.heap[x.g]? = some (.cells #[x.v, .int .i64 (x.f.su : Int)] 104 (0, 0)) := h.fb.box x hxm
  rw [hxv, hxb, hxg, hsu] at HE
  rw [hxg, hxv, hsu] at hbx
  rw [hxg] at h0
  rw [hxv, hxb] at hox
  rw [hxb] at hlen
  rw [hxv, hxg] at hkx
  have HBX := Lib.hid hbx
  have HV := Lib.hid (fun W (hW : Below w.heap.size w W) => And.intro (var_c (heapB h0 hW)) (var_c (heapB h1 hW)))
  have HV2 := Lib.hid (And.intro (var_c h0) (var_c h1))
  have HOX := Lib.hid hox
  have HBL := Lib.hid hbl
  have HLEN := Lib.hid hlen
  have HKX := Lib.hid hkx
  have HB0 := Lib.hid (And.intro h0 h1)
  obtain ⟨i0, hi, hz0, hz1, hz2⟩ := info_parts Tryz.info5D
  clear h hf h0 h1 hxm hnm hl1 hl2 hva hby hbx hxg hxv hxb hsu hox hbl hlen hkx
  go_enter Tryz.func72, Tryz.ntmps72
  go_wp2
  refine wp_region_inv [none, none, some 0, some 1, some 2, some 3, some 4, some 5, some 6, some 7, some 8] (fun i => [undef, undef, undef, undef, undef, undef, undef, undef, undef, undef].getD i undef) (fun L xs W => InvU [6, 9] 10 (ApV w xg xv xb l ab bl cb) (ApR w xg xv xb l su) L xs W ∧ DepP L) (by kernel_rfl) (by kernel_rfl) rfl rfl (fun L hL => ⟨InvU.start hL (by decide) (by decide) ⟨rfl, rfl, rfl, Nat.le_refl _, fun _ _ => rfl⟩, fun h => by have h6 := hL 6 (by decide); rw [h6] at h; cases h⟩) ?_ ?_
  · simp only [invOps, and_true]
    refine ⟨?_, ?_, ?_, ?_, ?_, ?_, ?_, ?_, ?_, ?_⟩
    · intro L xs W ⟨hI, hDp⟩ hL hn
      obtain ⟨k9, -, hr9⟩ := hI.any
      have hv9 := ApR.vars HB0.out.1 HB0.out.2 HBX.out HOX.out (by decide) (by decide) (by decide) (by decide) hr9
      obtain ⟨v0, v1⟩ := hv9
      clear hr9
      simp only [flowAct, List.zipWith_cons_cons, List.zipWith_nil_left]
      go_wp2_with (fail)
      exact ⟨rfl, _, rfl, hI.pure 0 (by decide) (fun _ h => h) (fun _ _ _ _ h => h) rfl, hDp.put 0 (fun e => absurd e (by decide))⟩
    · intro L xs W ⟨hI, hDp⟩ hL hn
      obtain ⟨k9, -, hr9⟩ := hI.any
      have hv9 := ApR.vars HB0.out.1 HB0.out.2 HBX.out HOX.out (by decide) (by decide) (by decide) (by decide) hr9
      obtain ⟨v0, v1⟩ := hv9
      clear hr9
      simp only [flowAct, List.zipWith_cons_cons, List.zipWith_nil_left]
      go_wp2_with (fail)
      exact ⟨rfl, _, rfl, hI.pure 1 (by decide) (fun _ h => h) (fun _ _ _ _ h => h) rfl, hDp.put 1 (fun e => absurd e (by decide))⟩
    · intro L xs W ⟨hI, hDp⟩ hL hn
      simp [invNeeds, Region.binds] at hn
      have e1 : xs 1 = .pointer (some ⟨xg, 0, none⟩) := hI.val 1 (by decide) (by simp only [hn])
      simp only [flowAct, List.zipWith_cons_cons, List.zipWith_nil_left]
      simp only [e1]
      go_wp2_with (fail)
      exact ⟨rfl, _, rfl, hI.pure 2 (by decide) (fun _ h => h) (fun _ _ _ _ h => h) rfl, hDp.put 2 (fun e => absurd e (by decide))⟩
    · intro L xs W ⟨hI, hDp⟩ hL hn
      simp [invNeeds, Region.binds] at hn
      have e2 : xs 2 = .pointer (some ⟨xg, 0, none⟩) := hI.val 2 (by decide) (by simp only [hn])
      simp only [flowAct, List.zipWith_cons_cons, List.zipWith_nil_left]
      simp only [e2]
      go_wp2_with (fail)
      exact ⟨rfl, _, rfl, hI.pure 3 (by decide) (fun _ h => h) (fun _ _ _ _ h => h) rfl, hDp.put 3 (fun e => absurd e (by decide))⟩
    · intro L xs W ⟨hI, hDp⟩ hL hn
      simp [invNeeds, Region.binds] at hn
      have e3 : xs 3 = .pointer (some ⟨xg, 0, none⟩) := hI.val 3 (by decide) (by simp only [hn])
      obtain ⟨k9, hk9, hr9⟩ := hI.any
      have L6 : L 6 = false := by
        cases h : L 6 with
        | false => rfl
        | true => have := hDp h; rw [hL] at this; cases this
      have hv9 := ApR.box4 HBX.out HKX.out hI L6
      obtain ⟨d0, d1⟩ := box_cs hv9
      clear hv9 hr9
      simp only [flowAct, List.zipWith_cons_cons, List.zipWith_nil_left]
      simp only [e3]
      go_wp2_with (fail)
      exact ⟨rfl, _, rfl, hI.pure 4 (by decide) (fun _ h => h) (fun _ _ _ _ h => h) rfl, hDp.put 4 (fun e => absurd e (by decide))⟩
    · intro L xs W ⟨hI, hDp⟩ hL hn
      obtain ⟨k9, -, hr9⟩ := hI.any
      have hv9 := ApR.vars HB0.out.1 HB0.out.2 HBX.out HOX.out (by decide) (by decide) (by decide) (by decide) hr9
      obtain ⟨v0, v1⟩ := hv9
      clear hr9
      simp only [flowAct, List.zipWith_cons_cons, List.zipWith_nil_left]
      go_wp2_with (fail)
      exact ⟨rfl, _, rfl, hI.pure 5 (by decide) (fun _ h => h) (fun _ _ _ _ h => h) rfl, hDp.put 5 (fun e => absurd e (by decide))⟩
    · intro L xs W ⟨hI, hDp⟩ hL hn
      simp [invNeeds, Region.binds] at hn
      have e4 : xs 4 = xv := hI.val 4 (by decide) (by simp only [hn])
      have e5 : xs 5 = .slice ab bl cb := hI.val 5 (by decide) (by simp only [hn])
      have hr := hI.at 0 rfl hL (fun p hp => absurd hp.1 (by omega))
      have hr : Below w.heap.size w W := hr
      have HR := Lib.hid hr
      have h4 : L 4 = true := by simp only [hn]
      clear hr
      simp only [flowAct, List.zipWith_cons_cons, List.zipWith_nil_left]
      simp only [e4, e5]
      go_wp2_with (refine wpList_append_bysA rfl _ _ 34 rfl (base := 0) (e := 5) (v := xv) (k := xb) (l := l) (i := i0) (z := .int .u8 0) Tryz.underlying34 hi hz0 hz1 hz2 rfl rfl (HOX.out.kept HR.out) rfl (HBL.out.below HR.out) (by have := HLEN.out; have := HBL.out.len; omega) (Nat.zero_le _) ?_; intro v9 w9 ho9 hg9 ha9)
      refine ⟨rfl, _, rfl, hI.step 0 rfl hL (fun p hp => absurd hp.1 (by omega)) (by decide) ?_ (fun j u hj hLj hu => hu.keep fun e => absurd e hj) ⟨ho9, fun k hk => ?_⟩, hDp.put 6 (fun _ => h4)⟩
      · exact ⟨(hg9.os.trans HR.out.os).symm, (hg9.tape.trans HR.out.tape).symm, (hg9.output.trans HR.out.output).symm, Nat.le_trans HR.out.size hg9.size, fun k hk hne => (hg9.block k (Nat.lt_of_lt_of_le hk HR.out.size) (fun e => hne e.symm)).trans (HR.out.block k hk)⟩
      · rcases ha9 with h9 | h9
        · exact .inl (by rw [← h9]; exact hk)
        · rw [h9] at hk; injection hk with hk; exact .inr (by have := HR.out.size; omega)
    · intro L xs W ⟨hI, hDp⟩ hL hn
      simp [invNeeds, Region.binds] at hn
      have e0 : xs 0 = .pointer (some ⟨xg, 0, none⟩) := hI.val 0 (by decide) (by simp only [hn])
      simp only [flowAct, List.zipWith_cons_cons, List.zipWith_nil_left]
      simp only [e0]
      go_wp2_with (fail)
      exact ⟨rfl, _, rfl, hI.pure 7 (by decide) (fun _ h => h) (fun _ _ _ _ h => h) rfl, hDp.put 7 (fun e => absurd e (by decide))⟩
    · intro L xs W ⟨hI, hDp⟩ hL hn
      simp [invNeeds, Region.binds] at hn
      have e7 : xs 7 = .pointer (some ⟨xg, 0, none⟩) := hI.val 7 (by decide) (by simp only [hn])
      simp only [flowAct, List.zipWith_cons_cons, List.zipWith_nil_left]
      simp only [e7]
      go_wp2_with (fail)
      exact ⟨rfl, _, rfl, hI.pure 8 (by decide) (fun _ h => h) (fun _ _ _ _ h => h) rfl, hDp.put 8 (fun e => absurd e (by decide))⟩
    · intro L xs W ⟨hI, hDp⟩ hL hn
      simp [invNeeds, Region.binds] at hn
      have e8 : xs 8 = .pointer (some ⟨xg, 0, none⟩) := hI.val 8 (by decide) (by simp only [hn])
      have e6 : OwnB W 0 5 (xs 6) (xb ++ l) ∧ ∀ k, (xs 6).ownBlock = some k → xv.ownBlock = some k ∨ w.heap.size ≤ k := hI.val 6 (by decide) (by simp only [hn])
      have h6 : L 6 = true := by simp only [hn]
      have hr := hI.at 1 rfl hL (fun p hp => by obtain ⟨-, h⟩ := hp; injection h with h; subst h; exact h6)
      have hbx := (hr.2.2.2.2 xg (Array.getElem?_eq_some_iff.1 HBX.out).1 HKX.out).trans HBX.out
      obtain ⟨d0, d1⟩ := box_cs hbx
      have f0 := box_fz hbx 0
      have HR := Lib.hid hr
      have HBX9 := Lib.hid hbx
      have HE6 := Lib.hid e6
      clear hr hbx e6
      simp only [flowAct, List.zipWith_cons_cons, List.zipWith_nil_left]
      simp only [e8]
      obtain ⟨a6, c6, hv6, -⟩ := HE6.out.1.bys
      obtain ⟨n6, hn6⟩ : ∃ n, (xb ++ l).length = n := ⟨_, rfl⟩
      rw [hn6] at hv6
      rw [hv6] at HE6 ⊢
      clear hn6
      go_wp2_with (fail)
      refine ⟨rfl, undef, rfl, hI.step 1 rfl hL (fun p hp => by obtain ⟨-, h⟩ := hp; injection h with h; subst h; exact h6) (by decide) ?_ (fun j u hj hLj hu => hu.keep fun e ho => ho.of_blk fun k hk => heap_setCell_other _ _ _ _ (fun e9 => ?_)) trivial, hDp.put 9 (fun e => absurd e (by decide))⟩
      · obtain ⟨r1, r2, r3, r4, r5⟩ := HR.out
        refine ⟨⟨.slice a6 n6 c6, box_set0 HBX9.out _, HE6.out.1.of_blk fun k hk => heap_setCell_other _ _ _ _ (fun e9 => ?_), HE6.out.2⟩, r1, r2, r3, by rw [World.size_setCell]; exact r4, fun k hk hne hnv => (heap_setCell_other _ _ _ _ hne).trans (r5 k hk hnv)⟩
        obtain ⟨c9, hc9⟩ := HE6.out.1.blkD hk
        rw [e9] at hc9
        exact absurd (tneD hc9 HBX9.out) (by decide)
      · obtain ⟨c9, hc9⟩ := ho.blkD hk
        rw [e9] at hc9
        exact absurd (tneD hc9 HBX9.out) (by decide)
  · intro L xs W ⟨hI, _⟩ hL
    obtain ⟨hr, -⟩ := hI.done hL (by decide) (by decide)
    refine bodyPost_end (results_none rfl _ _ _) rfl ?_
    exact HE.out _ hr
end Go.Proofs.YtioeimkaljmffaaGreatDoor
end

section
namespace Go.Proofs.YtioeimkaljmffaaGreatDoor
open Go.RowKit Go Go.Sort Go.Maps Go.WideMaps
set_option linter.unusedVariables false
set_option maxRecDepth 20000

theorem ops_turn {W : World} {q m : Nat} {pv : Value} {FS : List Fl} {st : Ds} (h : DiskIn W q m pv FS st) (x : Int) : DiskIn (W.setCell ⟨q, 3, none⟩ (.int .i64 x)) q m pv FS { st with ops := x } := by
  refine h.turn (st' := { st with ops := x }) (fun k hk hne => heap_setCell_other _ _ _ _ hne) ?_ ?_ rfl ⟨h.ok.len, h.ok.each, h.ok.asc, h.ok.pn, h.ok.room⟩
  · rw [heap_setCell_same W q 3 _ 67 _ h.head]; rfl
  · rcases h.plan with h1 | ⟨h1, gp, h2, h3⟩
    · exact .inl h1
    · exact .inr ⟨h1, gp, h2, (heap_setCell_other W _ _ _ (fun e => h.kinds.2.1 (by rw [h2, e]))).trans h3⟩
theorem pn_turn {W : World} {q m gp : Nat} {FS : List Fl} {st : Ds} (h : DiskIn W q m (.pointer (some ⟨gp, 0, none⟩)) FS st) (hg : W.heap[gp]? = some (.cells #[.int .i64 st.pn, .int .i64 st.keep] 92 (0, 0))) (hp : st.plan = true) {x : Int} (hx : 0 ≤ x ∧ x ≤ 9223372036854775807) : DiskIn (W.setCell ⟨gp, 0, none⟩ (.int .i64 x)) q m (.pointer (some ⟨gp, 0, none⟩)) FS { st with pn := x } := by
  obtain ⟨k1, k2, k3, k4, k5, k6⟩ := h.kinds
  have hk : ∀ k, k ≠ gp → (W.setCell ⟨gp, 0, none⟩ (.int .i64 x)).heap[k]? = W.heap[k]? := fun k hne => heap_setCell_other _ _ _ _ hne
  refine ⟨(hk q (fun e => k2 (by rw [e]))).trans h.head, .inr ⟨hp, gp, rfl, ?_⟩, ownsMap_keep h.map (hk m (fun e => k3 (by rw [e]))), h.fb.keep fun y hy => ⟨hk _ (fun e => (k4 y hy).2.2.1 (by rw [e])), fun k hv => hk k (fun e => k6 y hy k hv (by rw [e]))⟩, h.pr, ⟨h.ok.len, h.ok.each, h.ok.asc, hx, h.ok.room⟩⟩
  rw [heap_setCell_same W gp 0 _ 92 _ hg]; rfl
set_option maxRecDepth 100000 in
set_option maxHeartbeats 6400000 in
theorem doperate20_c {w : World} {q m : Nat} {pv : Value} {FS : List Fl} {st : Ds} (h : DiskIn w q m pv FS st) {fd fa : Nat} {x0 x1 : Value} (ed : ∀ args w, (callFunc fd args).run Tryz.prog w = .ok (.enter fd args) w) (ea : ∀ args w, (callFunc fa args).run Tryz.prog w = .ok (.enter fa args) w) (gd ga : List Fi → List Fi)
    (Hd : ∀ W st', Trn (foot q m pv FS) w W → st'.F = st.F → DiskIn W q m pv FS st' → Calls Tryz.prog fd #[x0, x1] W (FPost q m pv FS st' gd W)) (Ha : ∀ W st', Trn (foot q m pv FS) w W → st'.F = st.F → DiskIn W q m pv FS st' → Calls Tryz.prog fa #[] W (FPost q m pv FS st' ga W)) :
    Calls Tryz.prog 67 #[.pointer (some ⟨q, 0, none⟩), .func (.func fd) #[] #[x0, x1], .func (.func fa) #[] #[]] w (DPost q (foot q m pv FS) (.int .i64 (st.opd gd ga).1) (st.opd gd ga).2 w) := by
  have HD := Lib.hid h
  have HHd := Lib.hid Hd
  have HHa := Lib.hid Ha
  obtain ⟨c0, c1, c2, c3, c4, c5⟩ := h.cs
  obtain ⟨o1, ho1⟩ : ∃ x, wr64 (st.ops + 1) = x := ⟨_, rfl⟩
  have hw : IntKind.i64.wrap (st.ops + 1) = o1 := ho1
  rcases h.plan with ⟨hp, hpv⟩ | ⟨hp, gp, hpv, hg⟩
  · have hop : st.opd gd ga = (0, { st with F := gd st.F, ops := o1, pn := st.pn }) := by
      unfold Ds.opd; rw [if_neg (by rw [hp]; simp), ho1, hp]; rfl
    rw [hop]
    subst hpv
    have HC := Lib.hid (Hd w st Trn.refl rfl h)
    clear h Hd Ha hop hp ho1 ea
    go_enter Tryz.func67, Tryz.ntmps67
    go_upto_region 8 with (go_at_fn fd; (with_reducible refine HC.out.mono ?_); rintro e1 w1 ⟨rfl, FS1, hd1, ht1, hf1⟩)
    have HD1 := Lib.hid hd1
    have HT1 := Lib.hid (And.intro ht1 hf1)
    obtain ⟨-, -, -, x3, -, -⟩ := hd1.cs
    have x3 : w1.cell? ⟨q, 3, none⟩ = some (.int .i64 st.ops) := x3
    have f3 := hd1.fz 3
    clear hd1 ht1 hf1 c0 c1 c2 c3 c4 c5
    go_wp2
    go_ret
    exact ⟨rfl, _, ⟨m, _, FS1, ops_turn HD1.out _, rfl⟩, HT1.out.1.set (.inl (.inl rfl)), HT1.out.2⟩
  · subst hpv
    have d0 : w.cell? ⟨gp, 0, none⟩ = some (.int .i64 st.pn) := by rw [cell_of_row w gp 0 _ 92 (0, 0) hg]; rfl
    have d1 : w.cell? ⟨gp, 1, none⟩ = some (.int .i64 st.keep) := by rw [cell_of_row w gp 1 _ 92 (0, 0) hg]; rfl
    by_cases h0 : st.pn = 0
    · have hop : st.opd gd ga = (150, st.lost st.keep (ga st.F)) := by unfold Ds.opd; rw [if_pos ⟨hp, h0⟩]
      rw [hop]
      rw [h0] at d0
      have HC := Lib.hid (Ha w st Trn.refl rfl h)
      clear h Hd Ha hop ho1 h0 ed
      go_enter Tryz.func67, Tryz.ntmps67
      go_upto_region 4 with (go_at_fn fa; (with_reducible refine HC.out.mono ?_); rintro e1 w1 ⟨rfl, FS1, hd1, ht1, hf1⟩)
      have HD1 := Lib.hid hd1
      have HT1 := Lib.hid (And.intro ht1 hf1)
      obtain ⟨-, -, -, -, -, x5⟩ := hd1.cs
      have y1 : w1.cell? ⟨gp, 1, none⟩ = some (.int .i64 st.keep) := by
        rcases hd1.plan with ⟨h1, -⟩ | ⟨-, gp', e, h3⟩
        · exact absurd (hp.symm.trans h1) (by simp)
        · injection e with e; injection e with e; injection e with e
          subst e
          rw [cell_of_row w1 gp 1 _ 92 (0, 0) h3]; rfl
      have HL := Lib.hid (dlose_c hd1 st.keep)
      clear hd1 ht1 hf1 c0 c1 c2 c3 c4 c5 d0 d1 hg
      go_wp2_with (go_at_call 57; (with_reducible refine HL.out.mono ?_); rintro e2 w2 ⟨rfl, F2, hk2, ht2, hf2⟩)
      go_ret
      refine ⟨rfl, F2, hk2, HT1.out.1.trans ht2 HT1.out.2, fun k hk => ?_⟩
      rcases hf2 k hk with h1 | h1
      · exact HT1.out.2 k h1
      · have := HT1.out.1.size; exact .inr (by omega)
    · have e0 : (st.pn == 0) = false := by simpa using h0
      have hpo := h.ok.pn
      have hop : st.opd gd ga = (0, { st with F := gd st.F, ops := o1, pn := st.pn - 1 }) := by
        unfold Ds.opd; rw [if_neg (fun hh => h0 hh.2), ho1, if_pos hp]
      rw [hop]
      have hw2 : IntKind.i64.wrap (st.pn - 1) = st.pn - 1 := by rw [IntKind.wrap_i64]; omega
      have HW3 := Lib.hid (show wrap64 (st.pn - 1) = st.pn - 1 by unfold wrap64; omega)
      have hd2 := pn_turn h hg hp (x := st.pn - 1) (by omega)
      have ht2 : Trn (foot q m (.pointer (some ⟨gp, 0, none⟩)) FS) w (w.setCell ⟨gp, 0, none⟩ (.int .i64 (st.pn - 1))) := Trn.refl.set (.inl (.inr (.inr (.inl rfl))))
      have HC := Lib.hid (Hd _ { st with pn := st.pn - 1 } ht2 rfl hd2)
      have HT2 := Lib.hid ht2
      have fg := frozen_of_row w gp 0 _ 92 hg
      obtain ⟨p1, hp1⟩ : ∃ x, st.pn - 1 = x := ⟨_, rfl⟩
      rw [hp1] at hw2 HC HT2 HW3 ⊢
      clear h Hd Ha hop ho1 h0 hpo hd2 ht2 ea hp
      go_enter Tryz.func67, Tryz.ntmps67
      go_upto_region 7 with (fail)
      try rw [hp1]
      try rw [HW3.out]
      clear c0 c1 c2 c3 c4 c5 d0 d1 fg hg
      generalize w.setCell ⟨gp, 0, none⟩ (.int .i64 p1) = W2 at *
      go_upto_region 8 with (go_at_fn fd; (with_reducible refine HC.out.mono ?_); rintro e1 w1 ⟨rfl, FS1, hd1, ht1, hf1⟩)
      have HD1 := Lib.hid hd1
      have HT1 := Lib.hid (And.intro ht1 hf1)
      obtain ⟨-, -, -, x3, -, -⟩ := hd1.cs
      have x3 : w1.cell? ⟨q, 3, none⟩ = some (.int .i64 st.ops) := x3
      have f3 := hd1.fz 3
      clear hd1 ht1 hf1
      go_wp2
      go_ret
      exact ⟨rfl, _, ⟨m, _, FS1, ops_turn HD1.out _, rfl⟩, (HT2.out.then HT1.out.1).set (.inl (.inl rfl)), fun k hk => (HT1.out.2 k hk).imp_right (fun h => Nat.le_trans HT2.out.size h)⟩
set_option maxRecDepth 100000 in
set_option maxHeartbeats 6400000 in
theorem doperate10_c {w : World} {q m : Nat} {pv : Value} {FS : List Fl} {st : Ds} (h : DiskIn w q m pv FS st) {fd fa : Nat} {x0 : Value} (ed : ∀ args w, (callFunc fd args).run Tryz.prog w = .ok (.enter fd args) w) (ea : ∀ args w, (callFunc fa args).run Tryz.prog w = .ok (.enter fa args) w) (gd ga : List Fi → List Fi)
    (Hd : ∀ W st', Trn (foot q m pv FS) w W → st'.F = st.F → DiskIn W q m pv FS st' → Calls Tryz.prog fd #[x0] W (FPost q m pv FS st' gd W)) (Ha : ∀ W st', Trn (foot q m pv FS) w W → st'.F = st.F → DiskIn W q m pv FS st' → Calls Tryz.prog fa #[] W (FPost q m pv FS st' ga W)) :
    Calls Tryz.prog 67 #[.pointer (some ⟨q, 0, none⟩), .func (.func fd) #[] #[x0], .func (.func fa) #[] #[]] w (DPost q (foot q m pv FS) (.int .i64 (st.opd gd ga).1) (st.opd gd ga).2 w) := by
  have HD := Lib.hid h
  have HHd := Lib.hid Hd
  have HHa := Lib.hid Ha
  obtain ⟨c0, c1, c2, c3, c4, c5⟩ := h.cs
  obtain ⟨o1, ho1⟩ : ∃ x, wr64 (st.ops + 1) = x := ⟨_, rfl⟩
  have hw : IntKind.i64.wrap (st.ops + 1) = o1 := ho1
  rcases h.plan with ⟨hp, hpv⟩ | ⟨hp, gp, hpv, hg⟩
  · have hop : st.opd gd ga = (0, { st with F := gd st.F, ops := o1, pn := st.pn }) := by
      unfold Ds.opd; rw [if_neg (by rw [hp]; simp), ho1, hp]; rfl
    rw [hop]
    subst hpv
    have HC := Lib.hid (Hd w st Trn.refl rfl h)
    clear h Hd Ha hop hp ho1 ea
    go_enter Tryz.func67, Tryz.ntmps67
    go_upto_region 8 with (go_at_fn fd; (with_reducible refine HC.out.mono ?_); rintro e1 w1 ⟨rfl, FS1, hd1, ht1, hf1⟩)
    have HD1 := Lib.hid hd1
    have HT1 := Lib.hid (And.intro ht1 hf1)
    obtain ⟨-, -, -, x3, -, -⟩ := hd1.cs
    have x3 : w1.cell? ⟨q, 3, none⟩ = some (.int .i64 st.ops) := x3
    have f3 := hd1.fz 3
    clear hd1 ht1 hf1 c0 c1 c2 c3 c4 c5
    go_wp2
    go_ret
    exact ⟨rfl, _, ⟨m, _, FS1, ops_turn HD1.out _, rfl⟩, HT1.out.1.set (.inl (.inl rfl)), HT1.out.2⟩
  · subst hpv
    have d0 : w.cell? ⟨gp, 0, none⟩ = some (.int .i64 st.pn) := by rw [cell_of_row w gp 0 _ 92 (0, 0) hg]; rfl
    have d1 : w.cell? ⟨gp, 1, none⟩ = some (.int .i64 st.keep) := by rw [cell_of_row w gp 1 _ 92 (0, 0) hg]; rfl
    by_cases h0 : st.pn = 0
    · have hop : st.opd gd ga = (150, st.lost st.keep (ga st.F)) := by unfold Ds.opd; rw [if_pos ⟨hp, h0⟩]
      rw [hop]
      rw [h0] at d0
      have HC := Lib.hid (Ha w st Trn.refl rfl h)
      clear h Hd Ha hop ho1 h0 ed
      go_enter Tryz.func67, Tryz.ntmps67
      go_upto_region 4 with (go_at_fn fa; (with_reducible refine HC.out.mono ?_); rintro e1 w1 ⟨rfl, FS1, hd1, ht1, hf1⟩)
      have HD1 := Lib.hid hd1
      have HT1 := Lib.hid (And.intro ht1 hf1)
      obtain ⟨-, -, -, -, -, x5⟩ := hd1.cs
      have y1 : w1.cell? ⟨gp, 1, none⟩ = some (.int .i64 st.keep) := by
        rcases hd1.plan with ⟨h1, -⟩ | ⟨-, gp', e, h3⟩
        · exact absurd (hp.symm.trans h1) (by simp)
        · injection e with e; injection e with e; injection e with e
          subst e
          rw [cell_of_row w1 gp 1 _ 92 (0, 0) h3]; rfl
      have HL := Lib.hid (dlose_c hd1 st.keep)
      clear hd1 ht1 hf1 c0 c1 c2 c3 c4 c5 d0 d1 hg
      go_wp2_with (go_at_call 57; (with_reducible refine HL.out.mono ?_); rintro e2 w2 ⟨rfl, F2, hk2, ht2, hf2⟩)
      go_ret
      refine ⟨rfl, F2, hk2, HT1.out.1.trans ht2 HT1.out.2, fun k hk => ?_⟩
      rcases hf2 k hk with h1 | h1
      · exact HT1.out.2 k h1
      · have := HT1.out.1.size; exact .inr (by omega)
    · have e0 : (st.pn == 0) = false := by simpa using h0
      have hpo := h.ok.pn
      have hop : st.opd gd ga = (0, { st with F := gd st.F, ops := o1, pn := st.pn - 1 }) := by
        unfold Ds.opd; rw [if_neg (fun hh => h0 hh.2), ho1, if_pos hp]
      rw [hop]
      have hw2 : IntKind.i64.wrap (st.pn - 1) = st.pn - 1 := by rw [IntKind.wrap_i64]; omega
      have HW3 := Lib.hid (show wrap64 (st.pn - 1) = st.pn - 1 by unfold wrap64; omega)
      have hd2 := pn_turn h hg hp (x := st.pn - 1) (by omega)
      have ht2 : Trn (foot q m (.pointer (some ⟨gp, 0, none⟩)) FS) w (w.setCell ⟨gp, 0, none⟩ (.int .i64 (st.pn - 1))) := Trn.refl.set (.inl (.inr (.inr (.inl rfl))))
      have HC := Lib.hid (Hd _ { st with pn := st.pn - 1 } ht2 rfl hd2)
      have HT2 := Lib.hid ht2
      have fg := frozen_of_row w gp 0 _ 92 hg
      obtain ⟨p1, hp1⟩ : ∃ x, st.pn - 1 = x := ⟨_, rfl⟩
      rw [hp1] at hw2 HC HT2 HW3 ⊢
      clear h Hd Ha hop ho1 h0 hpo hd2 ht2 ea hp
      go_enter Tryz.func67, Tryz.ntmps67
      go_upto_region 7 with (fail)
      try rw [hp1]
      try rw [HW3.out]
      clear c0 c1 c2 c3 c4 c5 d0 d1 fg hg
      generalize w.setCell ⟨gp, 0, none⟩ (.int .i64 p1) = W2 at *
      go_upto_region 8 with (go_at_fn fd; (with_reducible refine HC.out.mono ?_); rintro e1 w1 ⟨rfl, FS1, hd1, ht1, hf1⟩)
      have HD1 := Lib.hid hd1
      have HT1 := Lib.hid (And.intro ht1 hf1)
      obtain ⟨-, -, -, x3, -, -⟩ := hd1.cs
      have x3 : w1.cell? ⟨q, 3, none⟩ = some (.int .i64 st.ops) := x3
      have f3 := hd1.fz 3
      clear hd1 ht1 hf1
      go_wp2
      go_ret
      exact ⟨rfl, _, ⟨m, _, FS1, ops_turn HD1.out _, rfl⟩, (HT2.out.then HT1.out.1).set (.inl (.inl rfl)), fun k hk => (HT1.out.2 k hk).imp_right (fun h => Nat.le_trans HT2.out.size h)⟩
set_option maxRecDepth 100000 in
set_option maxHeartbeats 6400000 in
theorem doperate22_c {w : World} {q m : Nat} {pv : Value} {FS : List Fl} {st : Ds} (h : DiskIn w q m pv FS st) {fd fa : Nat} {x0 x1 y0 y1 : Value} (ed : ∀ args w, (callFunc fd args).run Tryz.prog w = .ok (.enter fd args) w) (ea : ∀ args w, (callFunc fa args).run Tryz.prog w = .ok (.enter fa args) w) (gd ga : List Fi → List Fi)
    (Hd : ∀ W st', Trn (foot q m pv FS) w W → st'.F = st.F → DiskIn W q m pv FS st' → Calls Tryz.prog fd #[x0, x1] W (FPost q m pv FS st' gd W)) (Ha : ∀ W st', Trn (foot q m pv FS) w W → st'.F = st.F → DiskIn W q m pv FS st' → Calls Tryz.prog fa #[y0, y1] W (FPost q m pv FS st' ga W)) :
    Calls Tryz.prog 67 #[.pointer (some ⟨q, 0, none⟩), .func (.func fd) #[] #[x0, x1], .func (.func fa) #[] #[y0, y1]] w (DPost q (foot q m pv FS) (.int .i64 (st.opd gd ga).1) (st.opd gd ga).2 w) := by
  have HD := Lib.hid h
  have HHd := Lib.hid Hd
  have HHa := Lib.hid Ha
  obtain ⟨c0, c1, c2, c3, c4, c5⟩ := h.cs
  obtain ⟨o1, ho1⟩ : ∃ x, wr64 (st.ops + 1) = x := ⟨_, rfl⟩
  have hw : IntKind.i64.wrap (st.ops + 1) = o1 := ho1
  rcases h.plan with ⟨hp, hpv⟩ | ⟨hp, gp, hpv, hg⟩
  · have hop : st.opd gd ga = (0, { st with F := gd st.F, ops := o1, pn := st.pn }) := by
      unfold Ds.opd; rw [if_neg (by rw [hp]; simp), ho1, hp]; rfl
    rw [hop]
    subst hpv
    have HC := Lib.hid (Hd w st Trn.refl rfl h)
    clear h Hd Ha hop hp ho1 ea
    go_enter Tryz.func67, Tryz.ntmps67
    go_upto_region 8 with (go_at_fn fd; (with_reducible refine HC.out.mono ?_); rintro e1 w1 ⟨rfl, FS1, hd1, ht1, hf1⟩)
    have HD1 := Lib.hid hd1
    have HT1 := Lib.hid (And.intro ht1 hf1)
    obtain ⟨-, -, -, x3, -, -⟩ := hd1.cs
    have x3 : w1.cell? ⟨q, 3, none⟩ = some (.int .i64 st.ops) := x3
    have f3 := hd1.fz 3
    clear hd1 ht1 hf1 c0 c1 c2 c3 c4 c5
    go_wp2
    go_ret
    exact ⟨rfl, _, ⟨m, _, FS1, ops_turn HD1.out _, rfl⟩, HT1.out.1.set (.inl (.inl rfl)), HT1.out.2⟩
  · subst hpv
    have d0 : w.cell? ⟨gp, 0, none⟩ = some (.int .i64 st.pn) := by rw [cell_of_row w gp 0 _ 92 (0, 0) hg]; rfl
    have d1 : w.cell? ⟨gp, 1, none⟩ = some (.int .i64 st.keep) := by rw [cell_of_row w gp 1 _ 92 (0, 0) hg]; rfl
    by_cases h0 : st.pn = 0
    · have hop : st.opd gd ga = (150, st.lost st.keep (ga st.F)) := by unfold Ds.opd; rw [if_pos ⟨hp, h0⟩]
      rw [hop]
      rw [h0] at d0
      have HC := Lib.hid (Ha w st Trn.refl rfl h)
      clear h Hd Ha hop ho1 h0 ed
      go_enter Tryz.func67, Tryz.ntmps67
      go_upto_region 4 with (go_at_fn fa; (with_reducible refine HC.out.mono ?_); rintro e1 w1 ⟨rfl, FS1, hd1, ht1, hf1⟩)
      have HD1 := Lib.hid hd1
      have HT1 := Lib.hid (And.intro ht1 hf1)
      obtain ⟨-, -, -, -, -, x5⟩ := hd1.cs
      have y1 : w1.cell? ⟨gp, 1, none⟩ = some (.int .i64 st.keep) := by
        rcases hd1.plan with ⟨h1, -⟩ | ⟨-, gp', e, h3⟩
        · exact absurd (hp.symm.trans h1) (by simp)
        · injection e with e; injection e with e; injection e with e
          subst e
          rw [cell_of_row w1 gp 1 _ 92 (0, 0) h3]; rfl
      have HL := Lib.hid (dlose_c hd1 st.keep)
      clear hd1 ht1 hf1 c0 c1 c2 c3 c4 c5 d0 d1 hg
      go_wp2_with (go_at_call 57; (with_reducible refine HL.out.mono ?_); rintro e2 w2 ⟨rfl, F2, hk2, ht2, hf2⟩)
      go_ret
      refine ⟨rfl, F2, hk2, HT1.out.1.trans ht2 HT1.out.2, fun k hk => ?_⟩
      rcases hf2 k hk with h1 | h1
      · exact HT1.out.2 k h1
      · have := HT1.out.1.size; exact .inr (by omega)
    · have e0 : (st.pn == 0) = false := by simpa using h0
      have hpo := h.ok.pn
      have hop : st.opd gd ga = (0, { st with F := gd st.F, ops := o1, pn := st.pn - 1 }) := by
        unfold Ds.opd; rw [if_neg (fun hh => h0 hh.2), ho1, if_pos hp]
      rw [hop]
      have hw2 : IntKind.i64.wrap (st.pn - 1) = st.pn - 1 := by rw [IntKind.wrap_i64]; omega
      have HW3 := Lib.hid (show wrap64 (st.pn - 1) = st.pn - 1 by unfold wrap64; omega)
      have hd2 := pn_turn h hg hp (x := st.pn - 1) (by omega)
      have ht2 : Trn (foot q m (.pointer (some ⟨gp, 0, none⟩)) FS) w (w.setCell ⟨gp, 0, none⟩ (.int .i64 (st.pn - 1))) := Trn.refl.set (.inl (.inr (.inr (.inl rfl))))
      have HC := Lib.hid (Hd _ { st with pn := st.pn - 1 } ht2 rfl hd2)
      have HT2 := Lib.hid ht2
      have fg := frozen_of_row w gp 0 _ 92 hg
      obtain ⟨p1, hp1⟩ : ∃ x, st.pn - 1 = x := ⟨_, rfl⟩
      rw [hp1] at hw2 HC HT2 HW3 ⊢
      clear h Hd Ha hop ho1 h0 hpo hd2 ht2 ea hp
      go_enter Tryz.func67, Tryz.ntmps67
      go_upto_region 7 with (fail)
      try rw [hp1]
      try rw [HW3.out]
      clear c0 c1 c2 c3 c4 c5 d0 d1 fg hg
      generalize w.setCell ⟨gp, 0, none⟩ (.int .i64 p1) = W2 at *
      go_upto_region 8 with (go_at_fn fd; (with_reducible refine HC.out.mono ?_); rintro e1 w1 ⟨rfl, FS1, hd1, ht1, hf1⟩)
      have HD1 := Lib.hid hd1
      have HT1 := Lib.hid (And.intro ht1 hf1)
      obtain ⟨-, -, -, x3, -, -⟩ := hd1.cs
      have x3 : w1.cell? ⟨q, 3, none⟩ = some (.int .i64 st.ops) := x3
      have f3 := hd1.fz 3
      clear hd1 ht1 hf1
      go_wp2
      go_ret
      exact ⟨rfl, _, ⟨m, _, FS1, ops_turn HD1.out _, rfl⟩, (HT2.out.then HT1.out.1).set (.inl (.inl rfl)), fun k hk => (HT1.out.2 k hk).imp_right (fun h => Nat.le_trans HT2.out.size h)⟩
end Go.Proofs.YtioeimkaljmffaaGreatDoor
end

section
namespace Go.Proofs.YtioeimkaljmffaaGreatDoor
open Go.RowKit Go Go.Sort Go.Maps Go.WideMaps
set_option linter.unusedVariables false
set_option maxRecDepth 20000

theorem isletter_c (c : UInt8) (w : World) : Calls Tryz.prog 112 #[.int .u8 (c.toNat : Int)] w (fun e w' => e = .returned (.bool (97 ≤ c && c ≤ 122)) ∧ w = w') := by
  have hb : (97 ≤ c && c ≤ 122) = (decide ((97 : Int) ≤ (c.toNat : Int)) && decide ((c.toNat : Int) ≤ 122)) := by
    have h1 : (97 ≤ c) = (97 ≤ c.toNat) := by rw [UInt8.le_iff_toNat_le]; rfl
    have h2 : (c ≤ 122) = (c.toNat ≤ 122) := by rw [UInt8.le_iff_toNat_le]; rfl
    simp only [h1, h2]
    congr 1
    · simp
      omega
    · simp
      omega
  rw [hb]
  obtain ⟨n, hn⟩ : ∃ n : Nat, c.toNat = n := ⟨_, rfl⟩
  rw [hn]
  clear hb hn
  by_cases h1 : (97 : Int) ≤ (n : Int)
  · by_cases h2 : (n : Int) ≤ 122
    · rw [decide_eq_true h1, decide_eq_true h2]
      go_enter Tryz.func112, Tryz.ntmps112
      go_wp2
      go_ret
      exact ⟨rfl, rfl⟩
    · rw [decide_eq_true h1, decide_eq_false h2]
      go_enter Tryz.func112, Tryz.ntmps112
      go_wp2
      go_ret
      exact ⟨by first | rfl | (simp; done) | (simp; omega), rfl⟩
  · rw [decide_eq_false h1]
    go_enter Tryz.func112, Tryz.ntmps112
    go_wp2
    go_ret
    exact ⟨by first | rfl | (simp; done) | (simp; omega), rfl⟩
theorem isdigit_c (c : UInt8) (w : World) : Calls Tryz.prog 113 #[.int .u8 (c.toNat : Int)] w (fun e w' => e = .returned (.bool (48 ≤ c && c ≤ 57)) ∧ w = w') := by
  have hb : (48 ≤ c && c ≤ 57) = (decide ((48 : Int) ≤ (c.toNat : Int)) && decide ((c.toNat : Int) ≤ 57)) := by
    have h1 : (48 ≤ c) = (48 ≤ c.toNat) := by rw [UInt8.le_iff_toNat_le]; rfl
    have h2 : (c ≤ 57) = (c.toNat ≤ 57) := by rw [UInt8.le_iff_toNat_le]; rfl
    simp only [h1, h2]
    congr 1
    · simp
      omega
    · simp
      omega
  rw [hb]
  obtain ⟨n, hn⟩ : ∃ n : Nat, c.toNat = n := ⟨_, rfl⟩
  rw [hn]
  clear hb hn
  by_cases h1 : (48 : Int) ≤ (n : Int)
  · by_cases h2 : (n : Int) ≤ 57
    · rw [decide_eq_true h1, decide_eq_true h2]
      go_enter Tryz.func113, Tryz.ntmps113
      go_wp2
      go_ret
      exact ⟨rfl, rfl⟩
    · rw [decide_eq_true h1, decide_eq_false h2]
      go_enter Tryz.func113, Tryz.ntmps113
      go_wp2
      go_ret
      exact ⟨by first | rfl | (simp; done) | (simp; omega), rfl⟩
  · rw [decide_eq_false h1]
    go_enter Tryz.func113, Tryz.ntmps113
    go_wp2
    go_ret
    exact ⟨by first | rfl | (simp; done) | (simp; omega), rfl⟩

theorem text_listD (l : List UInt8) : (text l).toList = l := by unfold text; simp
set_option maxHeartbeats 3200000 in
theorem dgood_c (s : List UInt8) (hs : s.length ≤ 9223372036854775807) (w : World) : Calls Tryz.prog 66 #[.string (text s)] w (Tells (.bool (goodNm s)) w) := by
  have hsz : (text s).size = s.length := by simp [text, ByteArray.size]
  have hse : ((text s).toList == (⟨#[]⟩ : ByteArray).toList) = decide (s = []) := by
    have := text_listD s
    rw [this]
    have e0 : (⟨#[]⟩ : ByteArray).toList = [] := by simp
    rw [e0]
    cases s <;> simp
  have HV := Lib.hid (show goodNm s = (decide (1 ≤ s.length ∧ s.length ≤ 24) && s.all nmB) from rfl)
  by_cases h0 : s = []
  · subst h0
    rw [show goodNm [] = false from rfl]
    have hemp : (text ([] : List UInt8)).toList.isEmpty = true := by rw [text_listD]; rfl
    go_enter Tryz.func66, Tryz.ntmps66
    go_wp2
    go_ret
    exact ⟨by rfl, Below.refl _ _⟩
  · have hemp : (text s).toList.isEmpty = false := by
      rw [text_listD]
      cases s with
      | nil => exact absurd rfl h0
      | cons a r => rfl
    by_cases h1 : 24 < s.length
    · have hv : goodNm s = false := by rw [HV.out, decide_eq_false (by omega)]; rfl
      rw [hv]
      have h1i : (24 : Int) < ((text s).size : Int) := by rw [hsz]; omega
      have hse2 : decide (s = []) = false := by simp [h0]
      rw [hse2] at hse
      obtain ⟨t, ht⟩ : ∃ t, text s = t := ⟨_, rfl⟩
      rw [ht] at h1i hse hemp ⊢
      clear hv h0 h1 hs hse2 ht hsz
      go_enter Tryz.func66, Tryz.ntmps66
      go_wp2
      go_ret
      exact ⟨rfl, Below.refl _ _⟩
    · have hln : 1 ≤ s.length := by cases s with
        | nil => exact absurd rfl h0
        | cons a r => simp
      have hv : goodNm s = s.all nmB := by rw [HV.out, decide_eq_true (by omega)]; simp
      rw [hv]
      have h1i : ¬ (24 : Int) < ((text s).size : Int) := by rw [hsz]; omega
      have hse2 : decide (s = []) = false := by simp [h0]
      rw [hse2] at hse
      have hcv := Lib.run_convert_string_bytes (P := Tryz.prog) w 9 34 5 (text s) Tryz.underlying9 Tryz.underlying34 Tryz.underlying5
      have hcell : ∀ j, j < s.length → (Lib.bytesWorld w 5 (text s)).cell? ⟨w.heap.size, j, none⟩ = some (.int .u8 ((byt8 s j).toNat : Int)) := fun j hj => by
        have := Lib.bytesWorld_cell w 5 (text s) j (by rw [hsz]; exact hj)
        rw [this]; rfl
      have hbw : Below w.heap.size w (Lib.bytesWorld w 5 (text s)) := ⟨by unfold Lib.bytesWorld World.freeze; split <;> rfl, by unfold Lib.bytesWorld World.freeze; split <;> rfl, by unfold Lib.bytesWorld World.freeze; split <;> rfl, by rw [Lib.bytesWorld_size]; omega, fun k hk => Lib.bytesWorld_at_old w 5 _ k hk⟩
      rw [hsz] at hcv h1i
      have hgc := grownCap_ge w s.length 0 5
      obtain ⟨gc, hgc2⟩ : ∃ c, grownCap w s.length 0 5 = c := ⟨_, rfl⟩
      rw [hgc2] at hcv hgc
      obtain ⟨W1, hW1⟩ : ∃ W, Lib.bytesWorld w 5 (text s) = W := ⟨_, rfl⟩
      rw [hW1] at hcv hcell hbw
      have HC := Lib.hid hcell
      have HB := Lib.hid hbw
      obtain ⟨n, hn⟩ : ∃ n, s.length = n := ⟨_, rfl⟩
      have HNN := Lib.hid hn
      rw [hn] at hcv h1i hgc HC hsz
      have hsz2 : ((text s).size : Int) = (n : Int) := by rw [hsz]
      obtain ⟨t, ht⟩ : ∃ t, text s = t := ⟨_, rfl⟩
      rw [ht] at hse hemp hcv hsz2 ⊢
      clear hv h0 h1 hs hse2 ht hgc2 hW1 hbw hcell hln hn hsz
      go_enter Tryz.func66, Tryz.ntmps66
      go_upto_region 4 with (fail)
      go_loopw [15] (fun i wr => ∃ k : Nat, k ≤ n ∧ i = .int .i64 (k : Int) ∧ (s.take k).all nmB = true ∧ wr = W1) (fun i _ => n - (intOf i).toNat)
      case atStart => exact ⟨0, by omega, rfl, rfl, rfl⟩
      case round =>
        obtain ⟨k, hk, rfl, hall, rfl⟩ := hrel
        have HALL := Lib.hid hall
        clear hall
        by_cases hlt : k < n
        · have hki : (k : Int) < (n : Int) := by omega
          have hkc : (k : Int) < (gc : Int) := by omega
          have hc := HC.out k hlt
          have hstep : (s.take (k + 1)).all nmB = ((s.take k).all nmB && nmB (byt8 s k)) := by
            rw [take_snoc8 s k (by have := HNN.out; omega)]
            simp [byt8]
          have hkn : nmB (byt8 s k) = ((97 ≤ byt8 s k && byt8 s k ≤ 122) || (48 ≤ byt8 s k && byt8 s k ≤ 57)) := rfl
          obtain ⟨c, hcc⟩ : ∃ c, byt8 s k = c := ⟨_, rfl⟩
          rw [hcc] at hc hstep hkn
          have HL := Lib.hid (isletter_c c)
          have HDg := Lib.hid (isdigit_c c)
          have HST := Lib.hid hstep
          cases e1 : (97 ≤ c && c ≤ 122)
          · cases e2 : (48 ≤ c && c ≤ 57)
            · rw [e1] at HL
              rw [e2] at HDg
              have HR := Lib.hid (show s.all nmB = false from by
                have hb : nmB c = false := by rw [hkn, e1, e2]; rfl
                have hm : c ∈ s := by
                  have := HNN.out
                  rw [← hcc]
                  unfold byt8
                  rw [List.getD_eq_getElem?_getD, List.getElem?_eq_getElem (by omega)]
                  exact List.getElem_mem _
                rw [List.all_eq_false]
                exact ⟨c, hm, by simp [hb]⟩)
              clear hcc hstep hkn e1 e2
              go_wp2_with (first
                | (go_at_call 112; (with_reducible refine (HL.out _).mono ?_); rintro e9 w9 ⟨rfl, rfl⟩)
                | (go_at_call 113; (with_reducible refine (HDg.out _).mono ?_); rintro e9 w9 ⟨rfl, rfl⟩))
              go_ret
              exact ⟨by rw [HR.out]; rfl, HB.out⟩
            · rw [e1] at HL
              rw [e2] at HDg
              have HR := Lib.hid (show (s.take (k + 1)).all nmB = true from by rw [HST.out, HALL.out, hkn, e1, e2]; rfl)
              clear hcc hstep hkn e1 e2
              go_wp2_with (first
                | (go_at_call 112; (with_reducible refine (HL.out _).mono ?_); rintro e9 w9 ⟨rfl, rfl⟩)
                | (go_at_call 113; (with_reducible refine (HDg.out _).mono ?_); rintro e9 w9 ⟨rfl, rfl⟩))
              go_roundw
              case rel => exact ⟨k + 1, by omega, by go_num, HR.out, by first | rfl | trivial⟩
              case measure => simp [intOf]; omega
          · rw [e1] at HL
            have HR := Lib.hid (show (s.take (k + 1)).all nmB = true from by rw [HST.out, HALL.out, hkn, e1]; rfl)
            clear hcc hstep hkn e1
            go_wp2_with (go_at_call 112; (with_reducible refine (HL.out _).mono ?_); rintro e9 w9 ⟨rfl, rfl⟩)
            go_roundw
            case rel => exact ⟨k + 1, by omega, by go_num, HR.out, by first | rfl | trivial⟩
            case measure => simp [intOf]; omega
        · obtain rfl : k = n := by omega
          have HR := Lib.hid (show s.all nmB = true from by have h := HALL.out; rwa [List.take_of_length_le (by rw [HNN.out]; exact Nat.le_refl _)] at h)
          go_wp2
          go_ret
          exact ⟨by rw [HR.out]; rfl, HB.out⟩
end Go.Proofs.YtioeimkaljmffaaGreatDoor
end

