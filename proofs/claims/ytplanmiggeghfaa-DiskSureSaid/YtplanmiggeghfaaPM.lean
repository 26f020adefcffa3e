/-
  THE BYTES OF A NUMBER: the plain mathematics. No program is named here.
-/
import Derived.Test.YtplanmiggeghfaaAp
import Derived.Lib.Hide
namespace Go.Proofs.Ytplanmiggeghfaa
open Go.RowKit
set_option linter.unusedVariables false

/-- The mark of a number's first byte. -/
def markS (k : Nat) : Nat := if k = 2 then 64 else if k = 4 then 128 else if k = 8 then 192 else 0

def rawAt (n : Int) (i : Nat) : UInt8 := UInt8.ofNat (n.toNat / 256 ^ i % 256)
/-- The k lowest bytes of n, the highest first. -/
def rawB (n : Int) (k : Nat) : List UInt8 := (List.range k).map (fun j => rawAt n (k - 1 - j))
theorem rawB_length (n : Int) (k : Nat) : (rawB n k).length = k := by simp [rawB]
theorem rawB_get (n : Int) (k j : Nat) (h : j < k) : byt8 (rawB n k) j = rawAt n (k - 1 - j) := by
  unfold byt8 rawB; simp [List.getD, h]
/-- k bytes with the mark. -/
def numK (n : Int) (k : Nat) : List UInt8 := (rawB n k).set 0 (UInt8.ofNat (n.toNat / 256 ^ (k - 1) % 256 + markS k))
theorem numK_length (n : Int) (k : Nat) : (numK n k).length = k := by simp [numK, rawB_length]
/-- The bytes of a number; none, if it can't be laid. -/
def numB (n : Int) : List UInt8 := numK n (sizeS n).toNat

theorem rawAt_val (n : Int) (h : 0 ≤ n) (i : Nat) : n / 2 ^ (8 * i) % 256 = ((rawAt n i).toNat : Int) := by
  obtain ⟨m, rfl⟩ := Int.eq_ofNat_of_zero_le h
  unfold rawAt
  rw [show (2 : Int) ^ (8 * i) = 256 ^ i by rw [Int.pow_mul]; rfl]
  simp

/-- Where Put's loop stands: i bytes are laid, from the last one on. -/
def layN (l : List UInt8) (n : Int) (k i : Nat) : List UInt8 := l ++ (List.replicate (k - i) 0 ++ (rawB n k).drop (k - i))
theorem layN_zero (l : List UInt8) (n : Int) (k : Nat) : layN l n k 0 = l ++ List.replicate k 0 := by
  unfold layN; rw [List.drop_of_length_le (by rw [rawB_length]; omega)]; simp
theorem layN_all (l : List UInt8) (n : Int) (k : Nat) : layN l n k k = l ++ rawB n k := by unfold layN; simp
theorem layN_length (l : List UInt8) (n : Int) (k i : Nat) (h : i ≤ k) : (layN l n k i).length = l.length + k := by
  unfold layN; simp [rawB_length]
theorem layN_succ (l : List UInt8) (n : Int) (k i : Nat) (h : i < k) : (layN l n k i).set (l.length + (k - 1 - i)) (rawAt n i) = layN l n k (i + 1) := by
  unfold layN
  rw [List.set_append, if_neg (by omega), Nat.add_sub_cancel_left, List.set_append, List.length_replicate, if_pos (by omega)]
  congr 1
  have e1 : k - i = (k - 1 - i) + 1 := by omega
  have e2 : k - (i + 1) = k - 1 - i := by omega
  rw [e2]
  have hd : (rawB n k).drop (k - 1 - i) = rawAt n i :: (rawB n k).drop (k - i) := by
    rw [List.drop_eq_getElem_cons (by rw [rawB_length]; omega), ← e1]
    congr 1
    have := rawB_get n k (k - 1 - i) (by omega)
    unfold byt8 at this
    rw [List.getD_eq_getElem?_getD, List.getElem?_eq_getElem (by rw [rawB_length]; omega), Option.getD_some] at this
    rw [this]
    congr 1; omega
  rw [hd, e1, List.replicate_succ', List.set_append, List.length_replicate, if_neg (by omega), Nat.sub_self]
  simp

theorem sizeS_cases {n : Int} (h0 : 0 ≤ n) (h1 : n ≤ 4611686018427387903) : ∃ k : Nat, sizeS n = (k : Int) ∧ (k = 1 ∨ k = 2 ∨ k = 4 ∨ k = 8) ∧ n.toNat / 256 ^ (k - 1) < 64 := by
  by_cases c3 : n < 64
  · exact ⟨1, sizeS_1 h0 c3, by omega, by simp; omega⟩
  by_cases c4 : n < 16384
  · exact ⟨2, sizeS_2 (by omega) c4, by omega, by simp; omega⟩
  by_cases c5 : n < 1073741824
  · exact ⟨4, sizeS_4 (by omega) c5, by omega, by simp; omega⟩
  · exact ⟨8, sizeS_8 (by omega) h1, by omega, by simp; omega⟩

/-- The first byte takes its mark. -/
theorem mark_val (n : Int) (k : Nat) (hk : k = 1 ∨ k = 2 ∨ k = 4 ∨ k = 8) (hn : n.toNat / 256 ^ (k - 1) < 64) :
    bits .or .u8 ((rawAt n (k - 1)).toNat : Int) (markS k : Nat) = ((UInt8.ofNat (n.toNat / 256 ^ (k - 1) % 256 + markS k)).toNat : Int) := by
  have hr : (rawAt n (k - 1)).toNat = n.toNat / 256 ^ (k - 1) := by unfold rawAt; simp; omega
  have hm : markS k = 64 * (markS k / 64) ∧ markS k ≤ 192 := by rcases hk with rfl | rfl | rfl | rfl <;> decide
  rw [hr]
  generalize n.toNat / 256 ^ (k - 1) = a at *
  rw [u8_or_nat _ _ (by omega) (by omega)]
  have e : a ||| markS k = a + markS k := by
    have := Nat.shiftLeft_add_eq_or_of_lt (i := 6) (b := a) (by omega) (markS k / 64)
    rw [Nat.shiftLeft_eq, show markS k / 64 * 2 ^ 6 = markS k by omega] at this
    rw [Nat.or_comm, ← this, Nat.add_comm]
  rw [e]
  simp; omega
theorem numK_set (l : List UInt8) (n : Int) (k : Nat) (hk : 0 < k) : (l ++ rawB n k).set l.length (UInt8.ofNat (n.toNat / 256 ^ (k - 1) % 256 + markS k)) = l ++ numK n k := by
  rw [List.set_append, if_neg (by omega), Nat.sub_self]; rfl

theorem u8v_set (l : List UInt8) (i : Nat) (c : UInt8) : (u8v l).set i (.int .u8 (c.toNat : Int)) = u8v (l.set i c) := by
  unfold u8v; rw [List.map_set]

/-- A row that was made, and copied into at its head. -/
theorem made_list (n : Nat) : (madeCells #[Value.int .u8 0] n).toList = List.replicate n (Value.int .u8 0) := toList_madeCells_one _ n
theorem heap_of_made {w : World} {B g n : Nat} (h : w.ownsRow B 5 1 (.slice (some ⟨g, 0, none⟩) n n) n (madeCells #[Value.int .u8 0] n).toList) :
    w.heap[g]? = some (.cells (List.replicate n (Value.int .u8 0)).toArray 5 (0, 0)) := by
  rcases h.2 with ⟨h', _⟩ | ⟨g', cap', cur, h', _, hg, _, _, hcs, htake⟩
  · simp at h'
  · simp only [Value.slice.injEq, Option.some.injEq, Addr.mk.injEq, and_true, true_and] at h'
    obtain ⟨rfl, rfl⟩ := h'
    rw [made_list, List.take_of_length_le (by simp [hcs])] at htake
    rw [hg]
    congr 2
    apply Array.ext'
    rw [htake]
theorem own_copied {w : World} {B g k : Nat} {l : List UInt8} (hB : B ≤ g) (hm : l.length + k ≤ 140737488355328)
    (h : w.heap[g]? = some (.cells (splice (List.replicate (l.length + k) (Value.int .u8 0)) 0 (u8v l)).toArray 5 (0, 0))) :
    w.ownsRow B 5 1 (.slice (some ⟨g, 0, none⟩) (l.length + k) (l.length + k)) (l.length + k) (u8v (l ++ List.replicate k 0)) := by
  have e : splice (List.replicate (l.length + k) (Value.int .u8 0)) 0 (u8v l) = u8v (l ++ List.replicate k 0) := by
    unfold splice
    rw [u8v_append, u8v_length]
    simp [u8v]
  rw [e] at h
  refine ⟨by rw [u8v_length]; simp, .inr ⟨g, _, _, rfl, hB, h, Nat.le_refl _, by unfold maxLen; omega, ?_, ?_⟩⟩
  · simp [u8v_length]
  · simp only []
    rw [List.take_of_length_le (by simp [u8v_length])]
theorem grown_trans {a b c : World} {g : Nat} (h : a.grownBy b (some g)) (k : b.grownBy c (some g)) : a.grownBy c (some g) :=
  ⟨k.os.trans h.os, k.tape.trans h.tape, k.output.trans h.output, Nat.le_trans h.size k.size, fun i hi hne => (k.block i (Nat.lt_of_lt_of_le hi h.size) hne).trans (h.block i hi hne)⟩
theorem grown_below {a b : World} {g : Nat} (h : a.grownBy b (some g)) (hg : g ≤ a.heap.size) : Below g a b :=
  ⟨h.os, h.tape, h.output, h.size, fun i hi => h.block i (by omega) (by simp; omega)⟩
theorem text_beq (l m : List UInt8) : ((text l).toList == (text m).toList) = decide (l = m) := by
  have e : ∀ k : List UInt8, (text k).toList = k := fun k => by
    unfold text; simp
  rw [e, e, Bool.eq_iff_iff]; simp
theorem numB_length (n : Int) : (numB n).length ≤ 8 := by
  unfold numB; rw [numK_length]; have := sizeS_bd n; omega
end Go.Proofs.Ytplanmiggeghfaa
