/-
  THE PLAIN MATHEMATICS OF THE NUMBERS (num): sizes, the value of bytes, what bytes begin with. No program is named here.
-/
import Derived.WalkKit
namespace Go.Proofs.Ytngfohedddcboaa
open Go.RowKit

/-- How many bytes a number has. -/
def sizeS (n : Int) : Int :=
  if n < 0 ∨ 4611686018427387903 < n then 0 else if n < 64 then 1 else if n < 16384 then 2 else if n < 1073741824 then 4 else 8

theorem sizeS_neg {n : Int} (h : n < 0 ∨ 4611686018427387903 < n) : sizeS n = 0 := by unfold sizeS; rw [if_pos h]
theorem sizeS_1 {n : Int} (h : 0 ≤ n) (h1 : n < 64) : sizeS n = 1 := by unfold sizeS; rw [if_neg (by omega), if_pos h1]
theorem sizeS_2 {n : Int} (h : 64 ≤ n) (h1 : n < 16384) : sizeS n = 2 := by unfold sizeS; rw [if_neg (by omega), if_neg (by omega), if_pos h1]
theorem sizeS_4 {n : Int} (h : 16384 ≤ n) (h1 : n < 1073741824) : sizeS n = 4 := by unfold sizeS; rw [if_neg (by omega), if_neg (by omega), if_neg (by omega), if_pos h1]
theorem sizeS_8 {n : Int} (h : 1073741824 ≤ n) (h1 : n ≤ 4611686018427387903) : sizeS n = 8 := by unfold sizeS; rw [if_neg (by omega), if_neg (by omega), if_neg (by omega), if_neg (by omega)]
theorem sizeS_bd (n : Int) : 0 ≤ sizeS n ∧ sizeS n ≤ 8 := by unfold sizeS; split <;> (try split) <;> (try split) <;> (try split) <;> omega

/-- Byte i of l, as a number. -/
def by8 (l : List UInt8) (i : Nat) : Int := ((l.getD i 0).toNat : Int)
theorem by8_bd (l : List UInt8) (i : Nat) : 0 ≤ by8 l i ∧ by8 l i ≤ 255 := by
  unfold by8; have := (l.getD i 0).toNat_lt; omega
theorem by8_zero (c : UInt8) (r : List UInt8) : by8 (c :: r) 0 = (c.toNat : Int) := rfl
theorem by8_cons (c : UInt8) (r : List UInt8) (i : Nat) : by8 (c :: r) (i + 1) = by8 r i := rfl

/-- A byte slice of the world: length n, reading as the bytes l. -/
structure Bys (w : World) (a : Option Addr) (n cap : Nat) (l : List UInt8) : Prop where
  len : l.length = n
  le : n ≤ cap
  max : cap ≤ 9223372036854775807
  adr : cap = 0 ∨ ∃ b off, a = some ⟨b, off, none⟩ ∧ ∀ i, i < n → w.cell? ⟨b, off + i, none⟩ = some (.int .u8 (by8 l i))

theorem by8_take (l : List UInt8) (q i : Nat) (h : i < q) : by8 (l.take q) i = by8 l i := by
  unfold by8; simp [List.getD, h]
theorem by8_drop (l : List UInt8) (q i : Nat) : by8 (l.drop q) i = by8 l (q + i) := by
  unfold by8; simp [List.getD, List.getElem?_drop]
theorem addr_add (b off i : Nat) : (⟨b, off, none⟩ : Addr).add i = ⟨b, off + i, none⟩ := by
  by_cases h0 : i = 0
  · subst h0; rfl
  · simp [Addr.add, h0]

/-- The first q bytes of a slice. -/
theorem Bys.take {w : World} {a : Option Addr} {n cap : Nat} {l : List UInt8} (h : Bys w a n cap l) {q : Nat} (hq : q ≤ n) : Bys w a q cap (l.take q) := by
  obtain ⟨h1, h2, h3, h4⟩ := h
  refine ⟨by simp; omega, by omega, h3, ?_⟩
  rcases h4 with h4 | ⟨b, off, rfl, hc⟩
  · exact .inl h4
  · exact .inr ⟨b, off, rfl, fun i hi => by rw [by8_take l q i hi]; exact hc i (by omega)⟩
/-- The bytes from q on: at the end of the room the address stays. -/
theorem Bys.dropEnd {w : World} {a : Option Addr} {n cap : Nat} {l : List UInt8} (h : Bys w a n cap l) {q : Nat} (hq : q ≤ n) (hc : cap = q) : Bys w a (n - q) (cap - q) (l.drop q) := by
  obtain ⟨h1, h2, h3, h4⟩ := h
  exact ⟨by simp; omega, by omega, by omega, .inl (by omega)⟩
theorem Bys.drop {w : World} {a : Option Addr} {n cap : Nat} {l : List UInt8} (h : Bys w a n cap l) {q : Nat} (hq : q ≤ n) : Bys w (a.map (fun x => x.add q)) (n - q) (cap - q) (l.drop q) := by
  obtain ⟨h1, h2, h3, h4⟩ := h
  refine ⟨by simp; omega, by omega, by omega, ?_⟩
  rcases h4 with h4 | ⟨b, off, rfl, hc⟩
  · exact .inl (by omega)
  · exact .inr ⟨b, off + q, by rw [Option.map_some, addr_add], fun i hi => by rw [by8_drop, Nat.add_assoc]; exact hc (q + i) (by omega)⟩

theorem Bys.below {w w' : World} {a : Option Addr} {n cap : Nat} {l : List UInt8} (h : Bys w a n cap l) (hb : Below w.heap.size w w') : Bys w' a n cap l := by
  obtain ⟨h1, h2, h3, h4⟩ := h
  refine ⟨h1, h2, h3, ?_⟩
  rcases h4 with h4 | ⟨b, off, rfl, hc⟩
  · exact .inl h4
  · refine .inr ⟨b, off, rfl, fun i hi => ?_⟩
    have := hc i hi
    rw [hb.cell (World.block_lt_of_cell? w _ this)]; exact this

/-- Byte i of l. -/
def byt8 (l : List UInt8) (i : Nat) : UInt8 := l.getD i 0
theorem by8_byt8 (l : List UInt8) (i : Nat) : by8 l i = ((byt8 l i).toNat : Int) := rfl

/-- One byte more behind a number, the highest first. -/
def push1 (n : Int) (c : UInt8) : Int := n * 256 + (c.toNat : Int)

/-- The value of the first k bytes of l behind n. -/
def valS (n : Int) (l : List UInt8) (k : Nat) : Int := (l.take k).foldl push1 n

theorem valS_zero (n : Int) (l : List UInt8) : valS n l 0 = n := by simp [valS]

theorem take_snoc8 (l : List UInt8) (k : Nat) (h : k < l.length) : l.take (k + 1) = l.take k ++ [l.getD k 0] := by
  rw [List.take_succ_eq_append_getElem h]; simp [List.getD, h]

theorem valS_succ (n : Int) (l : List UInt8) (k : Nat) (h : k < l.length) : valS n l (k + 1) = valS n l k * 256 + by8 l k := by
  unfold valS; rw [take_snoc8 l k h, List.foldl_append]; rfl

theorem valS_bd (n : Int) (l : List UInt8) (k : Nat) (h0 : 0 ≤ n) (h1 : n < 64) : k ≤ l.length → 0 ≤ valS n l k ∧ valS n l k < 64 * 256 ^ k := by
  induction k with
  | zero => intro _; simp [valS_zero]; omega
  | succ k ih =>
    intro hk
    have := ih (by omega)
    have hc := by8_bd l k
    rw [valS_succ n l k (by omega)]
    have e : (256 : Int) ^ (k + 1) = 256 ^ k * 256 := Int.pow_succ ..
    rw [e]
    generalize (256 : Int) ^ k = p at *
    omega

theorem valS_lt54 (n : Int) (l : List UInt8) (k : Nat) (h0 : 0 ≤ n) (h1 : n < 64) (hk : k ≤ l.length) (h6 : k ≤ 6) : 0 ≤ valS n l k ∧ valS n l k < 18014398509481984 := by
  have h := valS_bd n l k h0 h1 hk
  refine ⟨h.1, ?_⟩
  rcases (by omega : k = 0 ∨ k = 1 ∨ k = 2 ∨ k = 3 ∨ k = 4 ∨ k = 5 ∨ k = 6) with rfl | rfl | rfl | rfl | rfl | rfl | rfl <;> omega

theorem or_i64 (n c : Int) (h0 : 0 ≤ n) (h1 : n < 18014398509481984) (c0 : 0 ≤ c) (c1 : c ≤ 255) : bits .or .i64 (n * 256) c = n * 256 + c := by
  obtain ⟨m, rfl⟩ := Int.eq_ofNat_of_zero_le h0
  obtain ⟨d, rfl⟩ := Int.eq_ofNat_of_zero_le c0
  have e1 : (BitVec.ofInt 64 ((m : Int) * 256)).toNat = m * 256 := by
    rw [show ((m : Int) * 256) = ((m * 256 : Nat) : Int) by omega, BitVec.ofInt_natCast, BitVec.toNat_ofNat]; exact Nat.mod_eq_of_lt (by omega)
  have e2 : (BitVec.ofInt 64 ((d : Nat) : Int)).toNat = d := by
    rw [BitVec.ofInt_natCast, BitVec.toNat_ofNat]; exact Nat.mod_eq_of_lt (by omega)
  show IntKind.i64.wrap ((BitVec.ofInt 64 ((m : Int) * 256) ||| BitVec.ofInt 64 (d : Int)).toNat : Int) = _
  rw [BitVec.toNat_or, e1, e2]
  have e3 : m * 256 ||| d = m * 256 + d := by
    have := Nat.shiftLeft_add_eq_or_of_lt (i := 8) (b := d) (by omega) m
    rw [Nat.shiftLeft_eq] at this
    exact this.symm
  rw [e3, IntWalk.i64_in _ (by omega)]
  omega

/-- What is told of v in k bytes. -/
def outS (k v : Int) : Int × Int × Int := if sizeS v = k then (v, k, 0) else (0, 0, 11)
theorem outS_yes {k v : Int} (h : sizeS v = k) : outS k v = (v, k, 0) := by unfold outS; rw [if_pos h]
theorem outS_no {k v : Int} (h : ¬ sizeS v = k) : outS k v = (0, 0, 11) := by unfold outS; rw [if_neg h]

/-- What bytes begin with: the number, its bytes, the error. -/
def getS : List UInt8 → Int × Int × Int
  | [] => (0, 0, 10)
  | b :: r => if r.length + 1 < 2 ^ (b.toNat / 64) then (0, 0, 10) else outS (2 ^ (b.toNat / 64) : Nat) (valS ((b.toNat : Int) % 64) r (2 ^ (b.toNat / 64) - 1))
end Go.Proofs.Ytngfohedddcboaa
