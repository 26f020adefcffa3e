/-
  Merged: RP FW WM9 DS DO DM DN DP WMA WMB RL NG NR FO FP RE RM RR WMF WMG WMH.
-/
import Derived.WalkKit
import Derived.Laws.CopyOwn
import Derived.WalkSmall
import Derived.Deep.QuietTactic
import Derived.StillTail
import Derived.Lib.QuietBelow
import Derived.Test.YtioeimkaljmffaaGreatDoorRows
import Derived.Lib.Hide
import Derived.BigQuiet
import Derived.BigRegion
import Derived.Deep.Cut
import Derived.Deep.MidRow
import Derived.Great.BuildSlice
import Derived.Outline
import Derived.OwnWalk
import Derived.Laws.Rows
import Derived.ChangeKeysEq
import Derived.Laws.StructEq
import Derived.Deep.DeepAppendWide
import Derived.Deep.AppendSrc
import Derived.Maps.RangeWalk
import Derived.Maps.OwnSet
import Derived.Maps.OwnOps
import Derived.Lib.MinMax
import Derived.Deep.RegionWith
import Derived.Maps.AppendAt
import Derived.Shelf.Abstract
import Derived.Lib.ConvBytes
import Derived.Lib.SlBytesConst
import Derived.WalkSpells
import Derived.WalkLawsBesides
import Derived.Lib.LaidTab
import Derived.Stop.LaidErr
import Derived.Lib.ItoaNum
import Derived.Shelf.Strings.Builder1
import Derived.Shelf.Strings.Builder2
import Derived.Shelf.Strings.BuilderF
import Derived.Shelf.Strconv.Atoi
import Derived.Shelf.Strconv.Itoa0
import Derived.Shelf.Strconv.Itoa1
import Derived.Shelf.LaysM
import Derived.Shelf.Strconv.Itoa2
import Derived.Shelf.Strconv.Itoa3
import Derived.Shelf.Strconv.AtoiErrFast
import Derived.Shelf.Strconv.ParseIntEmpty
import Derived.Shelf.Strconv.AtoiFail
import Derived.Shelf.Strconv.Clone
import Derived.Shelf.Strconv.SyntaxError
import Derived.Shelf.LaysC
import Derived.Shelf.Strconv.ToError
import Derived.Shelf.Strconv.Lower
import Derived.Shelf.Strconv.ParseUint10
import Derived.Shelf.Strconv.ParseUint10Empty
import Derived.Shelf.Strconv.ParseUint10Any
import Derived.Shelf.Strconv.ParseInt10
import Derived.Shelf.Strconv.AtoiLong
import Derived.Shelf.Strconv.AtoiInnerAll
import Derived.Shelf.Strconv.RangeError
import Derived.Shelf.Strconv.ToErrorRange
import Derived.Shelf.Strconv.AtoiAll
import Derived.Shelf.Strconv.ErrVarAll
import Derived.Shelf.Strings.Prefix
import Derived.Shelf.Bits.Mul64
import Derived.Shelf.Strings.Repeat
import Derived.Test.YtioeimkaljmffaaGreatDoorProg
import Derived.Lib.AtoiTie
import Derived.Lib.AtoiAll
import Derived.Lib.ItoaMem
import Derived.Lib.ItoaLen
import Derived.Lib.AtoiErrMem
import Derived.Lib.AtoiAllCases
import Derived.WideShapes
import Derived.OpenShut
import Derived.ChangeSlices
import Derived.Deep.RegionLaw
import Derived.Deep.RegionHeld3
import Derived.Shelf.Sort.Plain
import Derived.Shelf.Slices.In.SortNone
import Derived.Sort.OwnSorted
import Derived.Sort.KeysCollected
import Derived.Deep.Slices
import Derived.RangeFuncNested
import Derived.RangeFuncBound
import Derived.RangeFuncCalls
import Derived.RangeFuncLeaves
import Derived.OwnWalkIn
import Derived.TacticsInMore
import Derived.LoopNIn
import Derived.LoopIn
import Derived.Shelf.Small.Bits
import Derived.Ground.Names2Prog
import Derived.Shelf.Slices.Delete
import Derived.Shelf.Slices.Cells
import Derived.Shelf.Slices.Empties
import Derived.Deep.Matrix
import Derived.Test.YtioeimkaljmffaaGreatDoorSC2

section
namespace Go.Proofs.YtioeimkaljmffaaGreatDoor
open Go.RowKit
set_option linter.unusedVariables false

theorem and255 (x : Int) (h0 : 0 ≤ x) (h1 : x ≤ 4611686018427387903) : bits .and .i64 x 255 = x % 256 := by
  obtain ⟨m, rfl⟩ := Int.eq_ofNat_of_zero_le h0
  have e1 : (BitVec.ofInt 64 ((m : Nat) : Int)).toNat = m := by
    rw [BitVec.ofInt_natCast, BitVec.toNat_ofNat]; exact Nat.mod_eq_of_lt (by omega)
  show IntKind.i64.wrap ((BitVec.ofInt 64 (m : Int) &&& BitVec.ofInt 64 255).toNat : Int) = _
  rw [BitVec.toNat_and, e1, show (BitVec.ofInt 64 255).toNat = 255 by decide, show 255 = 2 ^ 8 - 1 by rfl, Nat.and_two_pow_sub_one_eq_mod, IntWalk.i64_in _ (by omega)]
  omega
theorem shr_bd (n : Int) (h0 : 0 ≤ n) (h1 : n ≤ 4611686018427387903) (i : Nat) : 0 ≤ n / 2 ^ i ∧ n / 2 ^ i ≤ 4611686018427387903 := by
  obtain ⟨m, rfl⟩ := Int.eq_ofNat_of_zero_le h0
  rw [show ((m : Int) / 2 ^ i) = ((m / 2 ^ i : Nat) : Int) by simp]
  have := Nat.div_le_self m (2 ^ i)
  generalize m / 2 ^ i = q at *
  omega
theorem numK_zero (n : Int) (k : Nat) (hk : 0 < k) : byt8 (numK n k) 0 = UInt8.ofNat (n.toNat / 256 ^ (k - 1) % 256 + markS k) := by
  unfold byt8 numK
  simp [List.getD, rawB_length, hk]
theorem numK_next (n : Int) (k j : Nat) (hj : 0 < j) (hk : j < k) : byt8 (numK n k) j = rawAt n (k - 1 - j) := by
  rw [← rawB_get n k j hk]
  unfold byt8 numK
  simp [List.getD, show ¬ 0 = j by omega]
theorem first_val (n : Int) (k : Nat) (hk : k = 1 ∨ k = 2 ∨ k = 4 ∨ k = 8) (h0 : 0 ≤ n) (hn : n.toNat / 256 ^ (k - 1) < 64) :
    n / 2 ^ (8 * (k - 1)) % 256 + (markS k : Nat) = ((byt8 (numK n k) 0).toNat : Int) := by
  have hm : markS k ≤ 192 := by rcases hk with rfl | rfl | rfl | rfl <;> decide
  rw [rawAt_val n h0, numK_zero n k (by omega)]
  have hr : (rawAt n (k - 1)).toNat = n.toNat / 256 ^ (k - 1) := by unfold rawAt; simp; omega
  rw [hr]
  generalize n.toNat / 256 ^ (k - 1) = x at *
  simp; omega

theorem one_bys (w : World) (e : TypeId) (x : Int) (c : UInt8) (h : x = (c.toNat : Int)) : Bys (w.alloc (.cells #[.int .u8 x] e)) (some ⟨w.heap.size, 0, none⟩) 1 1 [c] := by
  subst h
  refine ⟨rfl, Nat.le_refl _, by omega, .inr ⟨w.heap.size, 0, rfl, fun i hi => ?_⟩⟩
  obtain rfl : i = 0 := by omega
  unfold World.cell?
  rw [heap_alloc_new]
  rfl

/-- Where the loop stands: j of the number's bytes are appended. -/
def PutAt (l : List UInt8) (n : Int) (k j : Nat) (w : World) (v : Value) (wr : World) : Prop :=
  OwnB wr w.heap.size 5 v (l ++ (numK n k).take j) ∧ Below w.heap.size w wr
theorem PutAt.next {l : List UInt8} {n : Int} {k j : Nat} {w wr w1 : World} {v v' : Value} {o : Obj} (hj : j < k) (h : PutAt l n k j w v wr)
    (ho : OwnB w1 w.heap.size 5 v' (l ++ ((numK n k).take j ++ [byt8 (numK n k) j]))) (hg : (wr.alloc o).grownBy w1 v.ownBlock) : PutAt l n k (j + 1) w v' w1 := by
  refine ⟨?_, (h.2.alloc h.2.size _).grown hg (by have := h.2.size; simp; omega) (fun q hq => (h.1.lt q hq).1)⟩
  have := take_snoc8 (numK n k) j (by rw [numK_length]; exact hj)
  rw [this]
  exact ho

set_option maxRecDepth 100000 in
set_option maxHeartbeats 3200000 in
theorem rput_1 {w : World} {a : Option Addr} {m cap : Nat} {l : List UInt8} (hb : Bys w a m cap l) (hn : m ≤ 1000000) (n : Int) (h0 : 0 ≤ n) (h1 : n ≤ 4611686018427387903) (hs : sizeS n = 1) (hlow : n.toNat / 256 ^ (1 - 1) < 64) :
    Calls Tryz.prog 62 #[.slice a m cap, .int .i64 n] w (BytesPost (l ++ numB n) w) := by
  obtain ⟨i0, hi, hz0, hz1, hz2⟩ := info_parts Tryz.info5
  have hln : l.length = m := hb.len
  have HLN := Lib.hid hln
  have HB := Lib.hid (numB_some (k := 1) hs)
  have HS := Lib.hid hs
  have HL := Lib.hid hlow
  have hba := hb.below ((Below.refl w.heap.size w).alloc (Nat.le_refl _) (.cells #[] 5))
  have hoe := OwnB.empty w w.heap.size 5 (Nat.le_refl _)
  clear hs hlow hln
  go_enter Tryz.func62, Tryz.ntmps62
  go_wp2_with (first
    | (go_at_call 102; refine (rsize_c n (by omega) (by omega) _).mono ?_; rintro e w' ⟨rfl, rfl⟩; rw [HS.out])
    | (at_builtin; refine wpList_append_bys rfl (.tmp 9) (.tmp 10) 34 rfl Tryz.underlying34 hi hz0 hz1 hz2 rfl rfl hoe rfl hba (by simp; omega) (by simp) ?_; intro v1 w1 ho1 hg1))
  have b1 : Below w.heap.size w w1 := ((Below.refl w.heap.size w).alloc (Nat.le_refl _) (.cells #[] 5)).grown hg1 (by simp) (fun k hk => (hoe.lt k hk).1)
  rw [List.nil_append] at ho1
  clear hg1 hoe hba
  go_loopw [5, 7] (fun v i wr => ∃ j : Nat, j ≤ 1 ∧ i = .int .i64 (0 - (j : Int)) ∧ PutAt l n 1 j w v wr) (fun _ i _ => (intOf i + 1).toNat)
  case atStart => exact ⟨0, by omega, rfl, by simpa using ho1, b1⟩
  case round =>
    obtain ⟨j, hj, rfl, hp⟩ := hrel
    have hpo := hp.1
    have hps := hp.2.size
    have hlen : (l ++ (numK n 1).take j).length ≤ 1000008 := by have := HLN.out; simp [numK_length]; omega
    by_cases hlt : j < 1
    · by_cases hj0 : j = 0
      · subst hj0
        have HA := Lib.hid (and255 n (by omega) (by omega))
        have HF := Lib.hid (show n % 256 + 0 = ((byt8 (numK n 1) 0).toNat : Int) by
          have := first_val n 1 (by omega) h0 HL.out
          rw [show (2 : Int) ^ (8 * (1 - 1)) = 1 by decide, show ((markS 1 : Nat) : Int) = 0 by decide] at this
          first | exact this | (rw [Int.ediv_one] at this; exact this))
        have hf8 := (byt8 (numK n 1) 0).toNat_lt
        go_wp2_with (at_builtin; refine wpList_append_bys rfl (.tmp 43) (.tmp 45) 34 rfl Tryz.underlying34 hi hz0 hz1 hz2 rfl rfl (World.ownsRow.alloc hpo _) rfl (one_bys wr 5 _ (byt8 (numK n 1) 0) ?cv) (by omega) (by simp; omega) ?_)
        case cv => rw [HA.out]; have := HF.out; omega
        intro v2 w2 ho2 hg2
        go_wp2
        have R := Lib.hid (hp.next (by omega) (by simpa using ho2) hg2)
        go_roundw
        case rel => exact ⟨1, by omega, rfl, R.out⟩
        case measure => simp [intOf]
      · omega
    · obtain rfl : j = 1 := by omega
      go_wp2
      go_ret
      refine ⟨_, rfl, ?_, hp.2⟩
      rw [HB.out]
      have h := hp.1
      rw [List.take_of_length_le (by rw [numK_length]; exact Nat.le_refl _)] at h
      exact h

set_option maxRecDepth 100000 in
set_option maxHeartbeats 3200000 in
theorem rput_2 {w : World} {a : Option Addr} {m cap : Nat} {l : List UInt8} (hb : Bys w a m cap l) (hn : m ≤ 1000000) (n : Int) (h0 : 0 ≤ n) (h1 : n ≤ 4611686018427387903) (hs : sizeS n = 2) (hlow : n.toNat / 256 ^ (2 - 1) < 64) :
    Calls Tryz.prog 62 #[.slice a m cap, .int .i64 n] w (BytesPost (l ++ numB n) w) := by
  obtain ⟨i0, hi, hz0, hz1, hz2⟩ := info_parts Tryz.info5
  have hln : l.length = m := hb.len
  have HLN := Lib.hid hln
  have HB := Lib.hid (numB_some (k := 2) hs)
  have HS := Lib.hid hs
  have HL := Lib.hid hlow
  have hba := hb.below ((Below.refl w.heap.size w).alloc (Nat.le_refl _) (.cells #[] 5))
  have hoe := OwnB.empty w w.heap.size 5 (Nat.le_refl _)
  clear hs hlow hln
  go_enter Tryz.func62, Tryz.ntmps62
  go_wp2_with (first
    | (go_at_call 102; refine (rsize_c n (by omega) (by omega) _).mono ?_; rintro e w' ⟨rfl, rfl⟩; rw [HS.out])
    | (at_builtin; refine wpList_append_bys rfl (.tmp 9) (.tmp 10) 34 rfl Tryz.underlying34 hi hz0 hz1 hz2 rfl rfl hoe rfl hba (by simp; omega) (by simp) ?_; intro v1 w1 ho1 hg1))
  have b1 : Below w.heap.size w w1 := ((Below.refl w.heap.size w).alloc (Nat.le_refl _) (.cells #[] 5)).grown hg1 (by simp) (fun k hk => (hoe.lt k hk).1)
  rw [List.nil_append] at ho1
  clear hg1 hoe hba
  go_loopw [5, 7] (fun v i wr => ∃ j : Nat, j ≤ 2 ∧ i = .int .i64 (1 - (j : Int)) ∧ PutAt l n 2 j w v wr) (fun _ i _ => (intOf i + 1).toNat)
  case atStart => exact ⟨0, by omega, rfl, by simpa using ho1, b1⟩
  case round =>
    obtain ⟨j, hj, rfl, hp⟩ := hrel
    have hpo := hp.1
    have hps := hp.2.size
    have hlen : (l ++ (numK n 2).take j).length ≤ 1000008 := by have := HLN.out; simp [numK_length]; omega
    by_cases hlt : j < 2
    · by_cases hj0 : j = 0
      · subst hj0
        have HA := Lib.hid (and255 (n / 256) (by omega) (by omega))
        have HF := Lib.hid (show (n / 256) % 256 + 64 = ((byt8 (numK n 2) 0).toNat : Int) by
          have := first_val n 2 (by omega) h0 HL.out
          rw [show (2 : Int) ^ (8 * (2 - 1)) = 256 by decide, show ((markS 2 : Nat) : Int) = 64 by decide] at this
          first | exact this | (rw [Int.ediv_one] at this; exact this))
        have hf8 := (byt8 (numK n 2) 0).toNat_lt
        go_wp2_with (at_builtin; refine wpList_append_bys rfl (.tmp 43) (.tmp 45) 34 rfl Tryz.underlying34 hi hz0 hz1 hz2 rfl rfl (World.ownsRow.alloc hpo _) rfl (one_bys wr 5 _ (byt8 (numK n 2) 0) ?cv) (by omega) (by simp; omega) ?_)
        case cv => rw [HA.out]; have := HF.out; omega
        intro v2 w2 ho2 hg2
        go_wp2
        have R := Lib.hid (hp.next (by omega) (by simpa using ho2) hg2)
        go_roundw
        case rel => exact ⟨1, by omega, rfl, R.out⟩
        case measure => simp [intOf]
      · have hbd := shr_bd n h0 h1 (8 * (1 - j))
        have HA := Lib.hid (and255 _ hbd.1 hbd.2)
        have HF := Lib.hid (rawAt_val n h0 (1 - j))
        have HN := Lib.hid (show byt8 (numK n 2) j = rawAt n (1 - j) from numK_next n 2 j (by omega) hlt)
        have hf8 := (rawAt n (1 - j)).toNat_lt
        have hb7 : ((1 : Int) - (j : Int) == 1) = false := by rw [beq_eq_false_iff_ne]; omega
        have hj7 : 0 ≤ (1 : Int) - (j : Int) ∧ (1 : Int) - (j : Int) ≤ 1 := by omega
        clear hbd
        go_wp2_with (at_builtin; refine wpList_append_bys rfl (.tmp 43) (.tmp 45) 34 rfl Tryz.underlying34 hi hz0 hz1 hz2 rfl rfl (World.ownsRow.alloc hpo _) rfl (one_bys wr 5 _ (byt8 (numK n 2) j) ?cv) (by omega) (by simp; omega) ?_)
        case cv => rw [HA.out, HN.out]; have := HF.out; omega
        intro v2 w2 ho2 hg2
        go_wp2
        have R := Lib.hid (hp.next hlt ho2 hg2)
        go_roundw
        case rel => exact ⟨j + 1, by omega, by congr 1; omega, R.out⟩
        case measure => simp [intOf]; omega
    · obtain rfl : j = 2 := by omega
      go_wp2
      go_ret
      refine ⟨_, rfl, ?_, hp.2⟩
      rw [HB.out]
      have h := hp.1
      rw [List.take_of_length_le (by rw [numK_length]; exact Nat.le_refl _)] at h
      exact h

set_option maxRecDepth 100000 in
set_option maxHeartbeats 3200000 in
theorem rput_4 {w : World} {a : Option Addr} {m cap : Nat} {l : List UInt8} (hb : Bys w a m cap l) (hn : m ≤ 1000000) (n : Int) (h0 : 0 ≤ n) (h1 : n ≤ 4611686018427387903) (hs : sizeS n = 4) (hlow : n.toNat / 256 ^ (4 - 1) < 64) :
    Calls Tryz.prog 62 #[.slice a m cap, .int .i64 n] w (BytesPost (l ++ numB n) w) := by
  obtain ⟨i0, hi, hz0, hz1, hz2⟩ := info_parts Tryz.info5
  have hln : l.length = m := hb.len
  have HLN := Lib.hid hln
  have HB := Lib.hid (numB_some (k := 4) hs)
  have HS := Lib.hid hs
  have HL := Lib.hid hlow
  have hba := hb.below ((Below.refl w.heap.size w).alloc (Nat.le_refl _) (.cells #[] 5))
  have hoe := OwnB.empty w w.heap.size 5 (Nat.le_refl _)
  clear hs hlow hln
  go_enter Tryz.func62, Tryz.ntmps62
  go_wp2_with (first
    | (go_at_call 102; refine (rsize_c n (by omega) (by omega) _).mono ?_; rintro e w' ⟨rfl, rfl⟩; rw [HS.out])
    | (at_builtin; refine wpList_append_bys rfl (.tmp 9) (.tmp 10) 34 rfl Tryz.underlying34 hi hz0 hz1 hz2 rfl rfl hoe rfl hba (by simp; omega) (by simp) ?_; intro v1 w1 ho1 hg1))
  have b1 : Below w.heap.size w w1 := ((Below.refl w.heap.size w).alloc (Nat.le_refl _) (.cells #[] 5)).grown hg1 (by simp) (fun k hk => (hoe.lt k hk).1)
  rw [List.nil_append] at ho1
  clear hg1 hoe hba
  go_loopw [5, 7] (fun v i wr => ∃ j : Nat, j ≤ 4 ∧ i = .int .i64 (3 - (j : Int)) ∧ PutAt l n 4 j w v wr) (fun _ i _ => (intOf i + 1).toNat)
  case atStart => exact ⟨0, by omega, rfl, by simpa using ho1, b1⟩
  case round =>
    obtain ⟨j, hj, rfl, hp⟩ := hrel
    have hpo := hp.1
    have hps := hp.2.size
    have hlen : (l ++ (numK n 4).take j).length ≤ 1000008 := by have := HLN.out; simp [numK_length]; omega
    by_cases hlt : j < 4
    · by_cases hj0 : j = 0
      · subst hj0
        have HA := Lib.hid (and255 (n / 16777216) (by omega) (by omega))
        have HF := Lib.hid (show (n / 16777216) % 256 + 128 = ((byt8 (numK n 4) 0).toNat : Int) by
          have := first_val n 4 (by omega) h0 HL.out
          rw [show (2 : Int) ^ (8 * (4 - 1)) = 16777216 by decide, show ((markS 4 : Nat) : Int) = 128 by decide] at this
          first | exact this | (rw [Int.ediv_one] at this; exact this))
        have hf8 := (byt8 (numK n 4) 0).toNat_lt
        go_wp2_with (at_builtin; refine wpList_append_bys rfl (.tmp 43) (.tmp 45) 34 rfl Tryz.underlying34 hi hz0 hz1 hz2 rfl rfl (World.ownsRow.alloc hpo _) rfl (one_bys wr 5 _ (byt8 (numK n 4) 0) ?cv) (by omega) (by simp; omega) ?_)
        case cv => rw [HA.out]; have := HF.out; omega
        intro v2 w2 ho2 hg2
        go_wp2
        have R := Lib.hid (hp.next (by omega) (by simpa using ho2) hg2)
        go_roundw
        case rel => exact ⟨1, by omega, rfl, R.out⟩
        case measure => simp [intOf]
      · have hbd := shr_bd n h0 h1 (8 * (3 - j))
        have HA := Lib.hid (and255 _ hbd.1 hbd.2)
        have HF := Lib.hid (rawAt_val n h0 (3 - j))
        have HN := Lib.hid (show byt8 (numK n 4) j = rawAt n (3 - j) from numK_next n 4 j (by omega) hlt)
        have hf8 := (rawAt n (3 - j)).toNat_lt
        have hb7 : ((3 : Int) - (j : Int) == 3) = false := by rw [beq_eq_false_iff_ne]; omega
        have hj7 : 0 ≤ (3 : Int) - (j : Int) ∧ (3 : Int) - (j : Int) ≤ 3 := by omega
        clear hbd
        go_wp2_with (at_builtin; refine wpList_append_bys rfl (.tmp 43) (.tmp 45) 34 rfl Tryz.underlying34 hi hz0 hz1 hz2 rfl rfl (World.ownsRow.alloc hpo _) rfl (one_bys wr 5 _ (byt8 (numK n 4) j) ?cv) (by omega) (by simp; omega) ?_)
        case cv => rw [HA.out, HN.out]; have := HF.out; omega
        intro v2 w2 ho2 hg2
        go_wp2
        have R := Lib.hid (hp.next hlt ho2 hg2)
        go_roundw
        case rel => exact ⟨j + 1, by omega, by congr 1; omega, R.out⟩
        case measure => simp [intOf]; omega
    · obtain rfl : j = 4 := by omega
      go_wp2
      go_ret
      refine ⟨_, rfl, ?_, hp.2⟩
      rw [HB.out]
      have h := hp.1
      rw [List.take_of_length_le (by rw [numK_length]; exact Nat.le_refl _)] at h
      exact h

set_option maxRecDepth 100000 in
set_option maxHeartbeats 3200000 in
theorem rput_8 {w : World} {a : Option Addr} {m cap : Nat} {l : List UInt8} (hb : Bys w a m cap l) (hn : m ≤ 1000000) (n : Int) (h0 : 0 ≤ n) (h1 : n ≤ 4611686018427387903) (hs : sizeS n = 8) (hlow : n.toNat / 256 ^ (8 - 1) < 64) :
    Calls Tryz.prog 62 #[.slice a m cap, .int .i64 n] w (BytesPost (l ++ numB n) w) := by
  obtain ⟨i0, hi, hz0, hz1, hz2⟩ := info_parts Tryz.info5
  have hln : l.length = m := hb.len
  have HLN := Lib.hid hln
  have HB := Lib.hid (numB_some (k := 8) hs)
  have HS := Lib.hid hs
  have HL := Lib.hid hlow
  have hba := hb.below ((Below.refl w.heap.size w).alloc (Nat.le_refl _) (.cells #[] 5))
  have hoe := OwnB.empty w w.heap.size 5 (Nat.le_refl _)
  clear hs hlow hln
  go_enter Tryz.func62, Tryz.ntmps62
  go_wp2_with (first
    | (go_at_call 102; refine (rsize_c n (by omega) (by omega) _).mono ?_; rintro e w' ⟨rfl, rfl⟩; rw [HS.out])
    | (at_builtin; refine wpList_append_bys rfl (.tmp 9) (.tmp 10) 34 rfl Tryz.underlying34 hi hz0 hz1 hz2 rfl rfl hoe rfl hba (by simp; omega) (by simp) ?_; intro v1 w1 ho1 hg1))
  have b1 : Below w.heap.size w w1 := ((Below.refl w.heap.size w).alloc (Nat.le_refl _) (.cells #[] 5)).grown hg1 (by simp) (fun k hk => (hoe.lt k hk).1)
  rw [List.nil_append] at ho1
  clear hg1 hoe hba
  go_loopw [5, 7] (fun v i wr => ∃ j : Nat, j ≤ 8 ∧ i = .int .i64 (7 - (j : Int)) ∧ PutAt l n 8 j w v wr) (fun _ i _ => (intOf i + 1).toNat)
  case atStart => exact ⟨0, by omega, rfl, by simpa using ho1, b1⟩
  case round =>
    obtain ⟨j, hj, rfl, hp⟩ := hrel
    have hpo := hp.1
    have hps := hp.2.size
    have hlen : (l ++ (numK n 8).take j).length ≤ 1000008 := by have := HLN.out; simp [numK_length]; omega
    by_cases hlt : j < 8
    · by_cases hj0 : j = 0
      · subst hj0
        have HA := Lib.hid (and255 (n / 72057594037927936) (by omega) (by omega))
        have HF := Lib.hid (show (n / 72057594037927936) % 256 + 192 = ((byt8 (numK n 8) 0).toNat : Int) by
          have := first_val n 8 (by omega) h0 HL.out
          rw [show (2 : Int) ^ (8 * (8 - 1)) = 72057594037927936 by decide, show ((markS 8 : Nat) : Int) = 192 by decide] at this
          first | exact this | (rw [Int.ediv_one] at this; exact this))
        have hf8 := (byt8 (numK n 8) 0).toNat_lt
        go_wp2_with (at_builtin; refine wpList_append_bys rfl (.tmp 43) (.tmp 45) 34 rfl Tryz.underlying34 hi hz0 hz1 hz2 rfl rfl (World.ownsRow.alloc hpo _) rfl (one_bys wr 5 _ (byt8 (numK n 8) 0) ?cv) (by omega) (by simp; omega) ?_)
        case cv => rw [HA.out]; have := HF.out; omega
        intro v2 w2 ho2 hg2
        go_wp2
        have R := Lib.hid (hp.next (by omega) (by simpa using ho2) hg2)
        go_roundw
        case rel => exact ⟨1, by omega, rfl, R.out⟩
        case measure => simp [intOf]
      · have hbd := shr_bd n h0 h1 (8 * (7 - j))
        have HA := Lib.hid (and255 _ hbd.1 hbd.2)
        have HF := Lib.hid (rawAt_val n h0 (7 - j))
        have HN := Lib.hid (show byt8 (numK n 8) j = rawAt n (7 - j) from numK_next n 8 j (by omega) hlt)
        have hf8 := (rawAt n (7 - j)).toNat_lt
        have hb7 : ((7 : Int) - (j : Int) == 7) = false := by rw [beq_eq_false_iff_ne]; omega
        have hj7 : 0 ≤ (7 : Int) - (j : Int) ∧ (7 : Int) - (j : Int) ≤ 7 := by omega
        clear hbd
        go_wp2_with (at_builtin; refine wpList_append_bys rfl (.tmp 43) (.tmp 45) 34 rfl Tryz.underlying34 hi hz0 hz1 hz2 rfl rfl (World.ownsRow.alloc hpo _) rfl (one_bys wr 5 _ (byt8 (numK n 8) j) ?cv) (by omega) (by simp; omega) ?_)
        case cv => rw [HA.out, HN.out]; have := HF.out; omega
        intro v2 w2 ho2 hg2
        go_wp2
        have R := Lib.hid (hp.next hlt ho2 hg2)
        go_roundw
        case rel => exact ⟨j + 1, by omega, by congr 1; omega, R.out⟩
        case measure => simp [intOf]; omega
    · obtain rfl : j = 8 := by omega
      go_wp2
      go_ret
      refine ⟨_, rfl, ?_, hp.2⟩
      rw [HB.out]
      have h := hp.1
      rw [List.take_of_length_le (by rw [numK_length]; exact Nat.le_refl _)] at h
      exact h

/-- The reference's Put, for every number. -/
theorem rput_some {w : World} {a : Option Addr} {m cap : Nat} {l : List UInt8} (hb : Bys w a m cap l) (hn : m ≤ 1000000) (n : Int) (h0 : 0 ≤ n) (h1 : n ≤ 4611686018427387903) :
    Calls Tryz.prog 62 #[.slice a m cap, .int .i64 n] w (BytesPost (l ++ numB n) w) := by
  obtain ⟨k, hs, hk, hlow⟩ := sizeS_cases h0 h1
  rcases hk with rfl | rfl | rfl | rfl
  · exact rput_1 hb hn n h0 h1 hs hlow
  · exact rput_2 hb hn n h0 h1 hs hlow
  · exact rput_4 hb hn n h0 h1 hs hlow
  · exact rput_8 hb hn n h0 h1 hs hlow

set_option maxHeartbeats 800000 in
theorem rput_none {w : World} {a : Option Addr} {m cap : Nat} {l : List UInt8} (hb : Bys w a m cap l) (hn : m ≤ 1000000) (n : Int) (h0 : -9223372036854775808 ≤ n) (h1 : n ≤ 9223372036854775807) (h : n < 0 ∨ 4611686018427387903 < n) :
    Calls Tryz.prog 62 #[.slice a m cap, .int .i64 n] w (BytesPost (l ++ numB n) w) := by
  obtain ⟨i0, hi, hz0, hz1, hz2⟩ := info_parts Tryz.info5
  have HS := Lib.hid (sizeS_neg h)
  have HB := Lib.hid (numB_none h)
  have hba := hb.below ((Below.refl w.heap.size w).alloc (Nat.le_refl _) (.cells #[] 5))
  have hoe := OwnB.empty w w.heap.size 5 (Nat.le_refl _)
  clear h
  go_enter Tryz.func62, Tryz.ntmps62
  go_wp2_with (first
    | (go_at_call 102; refine (rsize_c n h0 h1 _).mono ?_; rintro e w' ⟨rfl, rfl⟩; rw [HS.out])
    | (at_builtin; refine wpList_append_bys rfl (.tmp 9) (.tmp 10) 34 rfl Tryz.underlying34 hi hz0 hz1 hz2 rfl rfl hoe rfl hba (by simp; omega) (by simp) ?_; intro v1 w1 ho1 hg1))
  have b1 : Below w.heap.size w w1 := ((Below.refl w.heap.size w).alloc (Nat.le_refl _) (.cells #[] 5)).grown hg1 (by simp) (fun k hk => (hoe.lt k hk).1)
  rw [List.nil_append] at ho1
  clear hg1 hoe hba
  go_loop [5, 7] (fun v i => v = v1 ∧ i = .int .i64 (-1)) (fun _ _ => 0)
  case atStart => exact ⟨rfl, rfl⟩
  case round =>
    obtain ⟨rfl, rfl⟩ := hrel
    go_wp2
    go_ret
    exact ⟨_, rfl, by rw [HB.out, List.append_nil]; exact ho1, b1⟩

theorem rput_c {w : World} {a : Option Addr} {m cap : Nat} {l : List UInt8} (hb : Bys w a m cap l) (hn : m ≤ 1000000) (n : Int) (h0 : -9223372036854775808 ≤ n) (h1 : n ≤ 9223372036854775807) :
    Calls Tryz.prog 62 #[.slice a m cap, .int .i64 n] w (BytesPost (l ++ numB n) w) := by
  by_cases h : n < 0 ∨ 4611686018427387903 < n
  · exact rput_none hb hn n h0 h1 h
  · exact rput_some hb hn n (by omega) (by omega)
end Go.Proofs.YtioeimkaljmffaaGreatDoor
end

section
namespace Go.Proofs.YtioeimkaljmffaaGreatDoor
open Go.RowKit
set_option linter.unusedVariables false

set_option maxRecDepth 100000 in
set_option maxHeartbeats 800000 in
theorem wrap_c {w : World} {a : Option Addr} {n cap : Nat} {l : List UInt8} (hb : Bys w a n cap l) (hn : n ≤ 100000) (hT : TabW w) :
    Calls Tryz.prog 52 #[.slice a n cap] w (BytesPost (wrapS l) w) := by
  obtain ⟨i0, hi, hz0, hz1, hz2⟩ := info_parts Tryz.info5
  obtain rfl : l.length = n := hb.len
  have hd : decide ((1048576 : Int) < (l.length : Int)) = false := by simp; omega
  have hb1 : Bys (w.alloc (.cells #[.int .u8 181] 5)) (some ⟨w.heap.size, 0, none⟩) 1 1 [181] := one_bys w 5 181 181 rfl
  have hal : Below w.heap.size w (w.alloc (.cells #[.int .u8 181] 5)) := (Below.refl _ _).alloc (Nat.le_refl _) _
  have hTa := hT.below hal
  have hW := wrapS_short (l := l) (by omega)
  have hsz : w.heap.size ≤ (w.alloc (.cells #[.int .u8 181] 5)).heap.size := by simp
  obtain ⟨k, hkk, hk9⟩ : ∃ k, [181] ++ numB (l.length : Int) = k ∧ k.length ≤ 9 := ⟨_, rfl, by have := numB_length (l.length : Int); simp; omega⟩
  rw [hkk] at hW
  have HW := Lib.hid hW
  have HK := Lib.hid hkk
  have hlk : k.length + l.length ≤ 140737488355328 := by omega
  have hlf : k.length + l.length ≤ 1000000 := by omega
  clear hW hkk
  go_enter Tryz.func52, Tryz.ntmps52
  go_wp2_with (first
    | (go_at_call 97; refine (put_some hb1 (by omega) (l.length : Int) (by omega) (by omega) hTa).mono ?_; rintro e w1 ⟨v1, rfl, ho1, hbv1⟩; rw [HK.out] at ho1; have hbb := hb.below (hal.trans (hbv1.mono hsz)))
    | (at_builtin; refine wpList_append_bys rfl (.tmp 9) (.tmp 10) 34 rfl Tryz.underlying34 hi hz0 hz1 hz2 rfl rfl ho1 rfl hbb hlk hbv1.size ?_; intro v2 w2 ho2 hg2; obtain ⟨av2, c2, hv2, hb2⟩ := ho2.bys; rw [List.length_append] at hv2 hb2; subst hv2)
    | (go_at_call 96; refine (fix_c hb2 hlf).mono ?_; rintro e w3 ⟨v3, rfl, ho3, hbv3⟩))
  go_ret
  have b2 : Below w.heap.size w w2 := (hal.trans (hbv1.mono (by simp))).grown hg2 (by have := hbv1.size; simp at this; omega) (fun k hk => by have := (ho1.lt k hk).1; simp at this; omega)
  exact ⟨v3, rfl, by rw [HW.out]; exact ho3.mono b2.size, b2.trans (hbv3.mono b2.size)⟩

set_option maxRecDepth 100000 in
set_option maxHeartbeats 800000 in
theorem rwrap_c {w : World} {a : Option Addr} {n cap : Nat} {l : List UInt8} (hb : Bys w a n cap l) (hn : n ≤ 100000) :
    Calls Tryz.prog 27 #[.slice a n cap] w (BytesPost (wrapS l) w) := by
  obtain ⟨i0, hi, hz0, hz1, hz2⟩ := info_parts Tryz.info5
  obtain rfl : l.length = n := hb.len
  have hd : decide ((1048576 : Int) < (l.length : Int)) = false := by simp; omega
  have hb1 : Bys (w.alloc (.cells #[.int .u8 181] 5)) (some ⟨w.heap.size, 0, none⟩) 1 1 [181] := one_bys w 5 181 181 rfl
  have hal : Below w.heap.size w (w.alloc (.cells #[.int .u8 181] 5)) := (Below.refl _ _).alloc (Nat.le_refl _) _
  have hW := wrapS_short (l := l) (by omega)
  have hsz : w.heap.size ≤ (w.alloc (.cells #[.int .u8 181] 5)).heap.size := by simp
  obtain ⟨k, hkk, hk9⟩ : ∃ k, [181] ++ numB (l.length : Int) = k ∧ k.length ≤ 9 := ⟨_, rfl, by have := numB_length (l.length : Int); simp; omega⟩
  rw [hkk] at hW
  have HW := Lib.hid hW
  have HK := Lib.hid hkk
  have hlk : k.length + l.length ≤ 140737488355328 := by omega
  have hlf : k.length + l.length ≤ 1000000 := by omega
  clear hW hkk
  go_enter Tryz.func27, Tryz.ntmps27
  go_wp2_with (first
    | (go_at_call 62; refine (rput_c hb1 (by omega) (l.length : Int) (by omega) (by omega)).mono ?_; rintro e w1 ⟨v1, rfl, ho1, hbv1⟩; rw [HK.out] at ho1; have hbb := hb.below (hal.trans (hbv1.mono hsz)))
    | (at_builtin; refine wpList_append_bys rfl (.tmp 9) (.tmp 10) 34 rfl Tryz.underlying34 hi hz0 hz1 hz2 rfl rfl ho1 rfl hbb hlk hbv1.size ?_; intro v2 w2 ho2 hg2; obtain ⟨av2, c2, hv2, hb2⟩ := ho2.bys; rw [List.length_append] at hv2 hb2; subst hv2)
    | (go_at_call 61; refine (rfix_c hb2 hlf).mono ?_; rintro e w3 ⟨v3, rfl, ho3, hbv3⟩))
  go_ret
  have b2 : Below w.heap.size w w2 := (hal.trans (hbv1.mono (by simp))).grown hg2 (by have := hbv1.size; simp at this; omega) (fun k hk => by have := (ho1.lt k hk).1; simp at this; omega)
  exact ⟨v3, rfl, by rw [HW.out]; exact ho3.mono b2.size, b2.trans (hbv3.mono b2.size)⟩

end Go.Proofs.YtioeimkaljmffaaGreatDoor
end

section
namespace Go.Proofs.YtioeimkaljmffaaGreatDoor
open Go.RowKit Go Go.Sort Go.Maps Go.WideMaps
set_option linter.unusedVariables false
set_option maxRecDepth 20000

/-- A log and its disk, apart, laid since w0. -/
def Wg (w0 : World) (q p : Nat) (st : Ds) (g : Lg) (W : World) : Prop := ∃ F G, Dk W q st F ∧ Lk W p q g G ∧ (∀ k, F k → ¬ G k) ∧ (∀ k, F k → w0.heap.size ≤ k) ∧ (∀ k, G k → w0.heap.size ≤ k) ∧ Below w0.heap.size w0 W
section
variable {w0 W W' : World} {q p : Nat} {st st' : Ds} {g g' : Lg}
theorem Wg.b (h : Wg w0 q p st g W) : Below w0.heap.size w0 W := by obtain ⟨F, G, -, -, -, -, -, hb⟩ := h; exact hb
theorem Wg.below (h : Wg w0 q p st g W) (hb : Below W.heap.size W W') : Wg w0 q p st g W' := by
  obtain ⟨F, G, hd, hr, h1, h2, h3, hb0⟩ := h
  exact ⟨F, G, wdk_keep hd (fun k hk => hb.block k (wdk_lt hd hk)), hr.below hb, h1, h2, h3, hb0.trans (hb.mono hb0.size)⟩
theorem wg_of {w1 : World} {F G : Nat → Prop} (h2 : ∀ k, F k → w0.heap.size ≤ k) (h3 : ∀ k, G k → w0.heap.size ≤ k) (hb : Below w0.heap.size w0 w1) (h : Lw w1 F G q p st g W) : Wg w0 q p st g W := by
  obtain ⟨⟨F', G', hd, hr, h1, h4, h5⟩, ht⟩ := h
  exact ⟨F', G', hd, hr, h1, fun k hk => (h4 k hk).elim (h2 k) (fun h => Nat.le_trans hb.size h), fun k hk => (h5 k hk).elim (h3 k) (fun h => Nat.le_trans hb.size h), hb.trans (ht.base hb.size (fun k hk => hk.elim (h2 k) (h3 k)))⟩
theorem Wg.cs (h : Wg w0 q p st g W) : ∃ bv, LogIn W p q bv g := by
  obtain ⟨F, G, hd, ⟨bv, hl, -⟩, -⟩ := h; exact ⟨bv, hl⟩
end
theorem wrapS_len200 (l : List UInt8) (h : l.length ≤ 100000) : (wrapS l).length ≤ 200000 := by
  rw [wrapS_short (by omega), fixS_length]
  have := numB_length (l.length : Int)
  simp only [List.length_append, List.length_cons, List.length_nil]
  omega
/-- What numbers of a log may be. -/
structure GOk (g : Lg) (n : Nat) : Prop where
  ne : 0 < g.B.length
  len : g.B.length ≤ n + 1000
  each : ∀ x ∈ g.B, 0 ≤ x ∧ x ≤ 2000000000000
  nx : 0 ≤ g.next ∧ g.next ≤ 2000000000000
  sz : 0 ≤ g.size ∧ g.size ≤ 2000000 + 1000000 * (n : Int)
  mo : 0 ≤ g.most ∧ g.most ≤ 1048576
theorem GOk.mono {g : Lg} {n m : Nat} (h : GOk g n) (hm : n ≤ m) : GOk g m := by
  obtain ⟨h1, h2, h3, h4, h5, h6⟩ := h
  exact ⟨h1, by omega, h3, h4, by omega, h6⟩
theorem GOk.last {g : Lg} {n : Nat} (h : GOk g n) : 0 ≤ g.lastN ∧ g.lastN ≤ 2000000000000 := by
  have := h.ne
  unfold Lg.lastN
  rw [List.getD_eq_getElem?_getD, List.getElem?_eq_getElem (by omega)]
  exact h.each _ (List.getElem_mem _)
theorem GOk.sync {g : Lg} {n : Nat} (h : GOk g n) (st : Ds) : GOk (syncL st g).2.2 n := by
  unfold syncL
  split
  · exact ⟨h.ne, h.len, h.each, h.nx, h.sz, h.mo⟩
  · exact h
theorem GOk.begin {g : Lg} {n : Nat} (h : GOk g n) (st : Ds) : GOk (beginL st g).2.2 (n + 1) := by
  unfold beginL
  split
  · refine ⟨by simp, by have := h.len; simp; omega, fun x hx => ?_, h.nx, by simp; omega, h.mo⟩
    rcases List.mem_append.1 hx with hx | hx
    · exact h.each x hx
    · rw [List.mem_singleton.1 hx]; have := h.nx; omega
  · exact h.mono (Nat.le_succ n)
theorem GOk.turn {g : Lg} {n : Nat} (h : GOk g n) (st : Ds) : GOk (turnL st g).2.2 (n + 1) := by
  unfold turnL
  split
  · exact (h.sync st).begin _
  · exact (h.sync st).mono (Nat.le_succ n)
theorem turnL_next (st : Ds) (g : Lg) : (turnL st g).2.2.next = g.next := by
  have h1 := (syncL_next st g).1
  unfold turnL
  split
  · unfold beginL
    split
    · exact h1
    · exact h1
  · exact h1
theorem GOk.put {g : Lg} {n : Nat} (h : GOk g n) (st : Ds) {f : List UInt8} (hf : f.length ≤ 1000000) (hn : g.next < 999999999999) : GOk (putL st g f).2.2 (n + 1) := by
  unfold putL
  split
  · exact ⟨h.ne, by have := h.len; simp only; omega, h.each, by have := h.nx; simp only; omega, by have := h.sz; simp only; omega, h.mo⟩
  · exact h.mono (Nat.le_succ n)
/-- Whether a segment is begun first. -/
def appT (st : Ds) (g : Lg) (fl : Nat) : Int × Ds × Lg := if g.lastN < g.next ∧ g.most < g.size + (fl : Int) then turnL st g else (0, st, g)
def errR (e : Int) : Int := if e = 3 then 151 else e
def putR (u : Int × Ds × Lg) : (Int × Int) × Ds × Lg := if u.1 = 0 then ((u.2.2.next - 1, 0), u.2.1, u.2.2) else ((0, errR u.1), u.2.1, u.2.2)
/-- What an append tells, and leaves. -/
def appL (st : Ds) (g : Lg) (l : List UInt8) : (Int × Int) × Ds × Lg :=
  if st.fails ≠ g.fails then ((0, 150), st, g) else if 999999999999 ≤ g.next then ((0, 151), st, g)
  else if (appT st g (wrapS l).length).1 ≠ 0 then ((0, errR (appT st g (wrapS l).length).1), (appT st g (wrapS l).length).2.1, (appT st g (wrapS l).length).2.2)
  else putR (putL (appT st g (wrapS l).length).2.1 (appT st g (wrapS l).length).2.2 (wrapS l))
/-- What Sync tells, and leaves. -/
def snyL (st : Ds) (g : Lg) : Int × Ds × Lg := if st.fails ≠ g.fails then (150, st, g) else syncL st g
theorem GOk.app {g : Lg} {n : Nat} (h : GOk g n) (st : Ds) {l : List UInt8} (hf : (wrapS l).length ≤ 1000000) : GOk (appL st g l).2.2 (n + 2) := by
  unfold appL
  split
  · exact h.mono (by omega)
  · split
    · exact h.mono (by omega)
    · rename_i hnx
      have ht : GOk (appT st g (wrapS l).length).2.2 (n + 1) ∧ (appT st g (wrapS l).length).2.2.next = g.next := by
        unfold appT
        split
        · exact ⟨h.turn st, turnL_next st g⟩
        · exact ⟨h.mono (Nat.le_succ n), rfl⟩
      split
      · exact ht.1.mono (by omega)
      · have hp := ht.1.put (appT st g (wrapS l).length).2.1 hf (by rw [ht.2]; omega)
        unfold putR
        split
        · exact hp
        · exact hp
set_option maxHeartbeats 1600000 in
theorem lready_c {w0 W : World} {q p : Nat} {st : Ds} {g : Lg} (h : Wg w0 q p st g W) : Calls Tryz.prog 51 #[.pointer (some ⟨p, 0, none⟩)] W (Tells (.int .i64 (if st.fails = g.fails then 0 else 150)) W) := by
  have HM := Lib.hid (show Calls Tryz.prog 49 #[.pointer (some ⟨p, 0, none⟩)] W (Tells (.bool true) W) from by obtain ⟨bv, hl⟩ := h.cs; exact lmade_c hl)
  have HO := Lib.hid (fun (W' : World) (hb : Below W.heap.size W W') => (show Calls Tryz.prog 16 #[.pointer (some ⟨p, 0, none⟩)] W' (Tells (.bool (decide (st.fails = g.fails))) W') from by
    obtain ⟨F, G, hd, ⟨bv, hl, -⟩, -⟩ := h.below hb
    exact lon_c hl hd))
  by_cases hf : st.fails = g.fails
  · rw [if_pos hf]
    rw [decide_eq_true hf] at HO
    clear h hf
    go_enter Tryz.func51, Tryz.ntmps51
    go_wp2_with (first
      | (go_at_call 49; (with_reducible refine HM.out.mono ?_); rintro e1 w1 ⟨rfl, hb1⟩; have HB1 := Lib.hid hb1; clear hb1)
      | (go_at_call 16; (with_reducible refine (HO.out _ HB1.out).mono ?_); rintro e2 w2 ⟨rfl, hb2⟩; have HB2 := Lib.hid (HB1.out.trans (hb2.mono HB1.out.size)); clear hb2))
    go_ret
    exact ⟨rfl, HB2.out⟩
  · rw [if_neg hf]
    rw [decide_eq_false hf] at HO
    clear h hf
    go_enter Tryz.func51, Tryz.ntmps51
    go_wp2_with (first
      | (go_at_call 49; (with_reducible refine HM.out.mono ?_); rintro e1 w1 ⟨rfl, hb1⟩; have HB1 := Lib.hid hb1; clear hb1)
      | (go_at_call 16; (with_reducible refine (HO.out _ HB1.out).mono ?_); rintro e2 w2 ⟨rfl, hb2⟩; have HB2 := Lib.hid (HB1.out.trans (hb2.mono HB1.out.size)); clear hb2))
    go_ret
    exact ⟨rfl, HB2.out⟩
set_option maxHeartbeats 1600000 in
theorem lsync_c {w0 W : World} {q p n : Nat} {st : Ds} {g : Lg} (h : Wg w0 q p st g W) (hg : GOk g n) (hT : TabE w0) : Calls Tryz.prog 18 #[.pointer (some ⟨p, 0, none⟩)] W (fun e W' => e = .returned (.int .i64 (snyL st g).1) ∧ Wg w0 q p (snyL st g).2.1 (snyL st g).2.2 W') := by
  have HR := Lib.hid (lready_c h)
  have HG := Lib.hid h
  unfold snyL
  by_cases hf : st.fails = g.fails
  · rw [if_neg (not_not_intro hf)]
    rw [if_pos hf] at HR
    have HS := Lib.hid (fun (W' : World) (hb : Below W.heap.size W W') => (show Calls Tryz.prog 56 #[.pointer (some ⟨p, 0, none⟩)] W' (fun e W'' => e = .returned (.int .i64 (syncL st g).1) ∧ Wg w0 q p (syncL st g).2.1 (syncL st g).2.2 W'') from by
      have hw := h.below hb
      have hbb := hw.b
      obtain ⟨F, G, hd, hr, h1, h2, h3, hb0⟩ := hw
      have hl := hg.last
      exact (lsync_p (Lw.start hd hr h1) hg.ne (hT.i.grown hbb) (by omega) (by omega) hg.nx.1 (by have := hg.nx; omega)).mono fun e W'' ⟨he, hw2⟩ => ⟨he, wg_of h2 h3 hb0 hw2⟩))
    obtain ⟨⟨r1, s1, g1⟩, hr⟩ : ∃ z, syncL st g = z := ⟨_, rfl⟩
    rw [hr] at HS ⊢
    simp only at HS ⊢
    clear h hg hT hf hr
    go_enter Tryz.func18, Tryz.ntmps18
    go_wp2_with (first
      | (go_at_call 51; (with_reducible refine HR.out.mono ?_); rintro e1 w1 ⟨rfl, hb1⟩; have HB1 := Lib.hid hb1; clear hb1)
      | (go_at_call 56; (with_reducible refine (HS.out _ HB1.out).mono ?_); rintro e2 w2 ⟨rfl, hw2⟩; have HW2 := Lib.hid hw2; clear hw2))
    go_ret
    exact ⟨rfl, HW2.out⟩
  · rw [if_pos hf]
    rw [if_neg hf] at HR
    clear h hg hT hf
    go_enter Tryz.func18, Tryz.ntmps18
    go_wp2_with (go_at_call 51; (with_reducible refine HR.out.mono ?_); rintro e1 w1 ⟨rfl, hb1⟩; have HB1 := Lib.hid hb1; clear hb1)
    go_ret
    exact ⟨rfl, HG.out.below HB1.out⟩
set_option maxRecDepth 100000 in
set_option maxHeartbeats 12800000 in
theorem lappend_c {w0 W : World} {q p n : Nat} {st : Ds} {g : Lg} (h : Wg w0 q p st g W) (hg : GOk g n) (hn : n ≤ 90000) (hT : TabE w0) {a : Option Addr} {m cap : Nat} {l : List UInt8} (hb : Bys W a m cap l) (hm : m ≤ 100000) : Calls Tryz.prog 17 #[.pointer (some ⟨p, 0, none⟩), .slice a m cap] W (fun e W' => e = .returned (.tuple #[.int .i64 (appL st g l).1.1, .int .i64 (appL st g l).1.2]) ∧ Wg w0 q p (appL st g l).2.1 (appL st g l).2.2 W') := by
  have HR := Lib.hid (lready_c h)
  have HG := Lib.hid h
  have HK := Lib.hid hg
  have HTE := Lib.hid hT
  have HN := Lib.hid hn
  have HBY := Lib.hid hb
  have HM := Lib.hid hm
  have hml : ¬ (262144 : Int) < (m : Int) := by omega
  unfold appL
  by_cases hf : st.fails = g.fails
  · rw [if_neg (not_not_intro hf)]
    rw [if_pos hf] at HR
    by_cases hnx : 999999999999 ≤ g.next
    · rw [if_pos hnx]
      clear h hg hn hT hb hm hf
      go_enter Tryz.func17, Tryz.ntmps17
      go_wp2_with ((go_at_call 51; (with_reducible refine HR.out.mono ?_); rintro e1 w1 ⟨rfl, hb1⟩; have HB1 := Lib.hid hb1; obtain ⟨bv, hl1⟩ := (HG.out.below hb1).cs; obtain ⟨c0, c1, c2, c3, c4, c5, c6⟩ := hl1.cs; clear hb1 hl1))
      go_ret2
      exact ⟨rfl, HG.out.below HB1.out⟩
    · rw [if_neg hnx]
      have hwl : (wrapS l).length ≤ 200000 := wrapS_len200 l (by rw [hb.len]; exact hm)
      have HNX := Lib.hid (show g.next < 999999999999 by omega)
      have HWR := Lib.hid (fun (W' : World) (hbw : Below W.heap.size W W') => wrap_c (hb.below hbw) hm (hT.i.b.below (h.b.trans (hbw.mono h.b.size))))
      obtain ⟨f, hfd⟩ : ∃ z, wrapS l = z := ⟨_, rfl⟩
      rw [hfd] at HWR hwl ⊢
      obtain ⟨fl, hfl⟩ : ∃ z, f.length = z := ⟨_, rfl⟩
      have HFL := Lib.hid hfl
      rw [hfl] at hwl ⊢
      have HWL := Lib.hid hwl
      have hsz := hg.sz
      have hmo := hg.mo
      have HA := Lib.hid (show appT st g fl = if g.lastN < g.next ∧ g.most < g.size + (fl : Int) then turnL st g else (0, st, g) from rfl)
      obtain ⟨T, hTT⟩ : ∃ z, appT st g fl = z := ⟨_, rfl⟩
      rw [hTT] at HA ⊢
      obtain ⟨R, hRR⟩ : ∃ z, (if T.1 ≠ 0 then ((0, errR T.1), T.2.1, T.2.2) else putR (putL T.2.1 T.2.2 f)) = z := ⟨_, rfl⟩
      rw [hRR]
      have HRR := Lib.hid hRR
      clear hRR
      have HGT := Lib.hid (hg.turn st)
      have HTN := Lib.hid (turnL_next st g)
      obtain ⟨hd9, hhd⟩ : ∃ z, decide (g.lastN < g.next) = z := ⟨_, rfl⟩
      obtain ⟨he9, hhe⟩ : ∃ z, decide (g.most < g.size + (fl : Int)) = z := ⟨_, rfl⟩
      have HDE := Lib.hid (And.intro hhd hhe)
      have hws : IntKind.i64.wrap (g.size + (fl : Int)) = g.size + (fl : Int) := by rw [IntKind.wrap_i64]; omega
      have hnx0 := hg.nx
      have HBZ := Lib.hid (show 0 ≤ g.size ∧ g.size ≤ 1000000000000 from by omega)
      obtain ⟨F, G, hd, hr, hdj, hF, hG, hb0⟩ := h
      have HD0 := Lib.hid hd
      have HR0 := Lib.hid hr
      have HDJ := Lib.hid hdj
      have HFG := Lib.hid (And.intro hF (And.intro hG hb0))
      have HLST := Lib.hid hg.last
      clear hd hr hdj hF hG hb0 hg hn hT hb hm hf hfd hfl hTT hwl hsz hmo hnx0
      go_enter Tryz.func17, Tryz.ntmps17
      go_upto_region 9 with (first
        | (go_at_call 51; (with_reducible refine HR.out.mono ?_); rintro e1 w1 ⟨rfl, hb1⟩; have HB1 := Lib.hid hb1; obtain ⟨bv, hl1⟩ := (HG.out.below hb1).cs; obtain ⟨c0, c1, c2, c3, c4, c5, c6⟩ := hl1.cs; clear hb1 hl1)
        | (go_at_call 52; (with_reducible refine (HWR.out _ HB1.out).mono ?_); rintro e2 w2 ⟨ov, rfl, ho2, hb2⟩; have HO2 := Lib.hid ho2; have HB2 := Lib.hid (HB1.out.trans (hb2.mono HB1.out.size)); obtain ⟨oa, oc, hov, hoy⟩ := ho2.bys; rw [HFL.out] at hov hoy; subst hov; have HOY := Lib.hid hoy; clear ho2 hb2 hoy))
      clear c0 c1 c2 c3 c4 c5 c6
      have HLW := Lib.hid (Lw.start (wdk_keep HD0.out fun k hk => HB2.out.block k (wdk_lt HD0.out hk)) (HR0.out.below HB2.out) HDJ.out)
      have HOA := Lib.hid (show 0 < fl → ∀ b off, oa = some ⟨b, off, none⟩ → b < w2.heap.size ∧ ¬ F b ∧ ¬ G b from fun h0 b off e => by
        have h3 : w1.heap.size ≤ b ∧ b < w2.heap.size := by
          rcases HO2.out.2 with ⟨e9, -⟩ | ⟨g9, c9, cur9, e9, hB9, hg9, -⟩
          · injection e9 with e1
            rw [e1] at e; cases e
          · injection e9 with e1
            rw [e1] at e
            injection e with e
            injection e with e4 e5
            subst e4
            exact ⟨hB9, (Array.getElem?_eq_some_iff.1 hg9).1⟩
        have h4 := HB1.out.size
        exact ⟨h3.2, fun hf => by have := wdk_lt HD0.out hf; omega, fun hf => by have := HR0.out.lt hf; omega⟩)
      have HWGo := Lib.hid (fun (st' : Ds) (g' : Lg) (W' : World) (hw : Lw w2 F G q p st' g' W') => wg_of HFG.out.1 HFG.out.2.1 (HFG.out.2.2.trans (HB2.out.mono HFG.out.2.2.size)) hw)
      have HTW := Lib.hid (fun (W' : World) (ht : Trn (fun k => F k ∨ G k) w2 W') => HTE.out.i.grown ((HFG.out.2.2.trans (HB2.out.mono HFG.out.2.2.size)).trans (ht.base (HFG.out.2.2.trans (HB2.out.mono HFG.out.2.2.size)).size (fun k hk => hk.elim (HFG.out.1 k) (HFG.out.2.1 k)))))
      have HHO := Lib.hid (fun (W' : World) (hbw : Below w2.heap.size w2 W') => (show Calls Tryz.prog 53 #[.pointer (some ⟨p, 0, none⟩)] W' (Tells (.bool hd9) W') from by
        obtain ⟨bv', hl'⟩ := (HLW.out.below hbw).cs
        have := lholds_c hl' HK.out.ne
        rw [show g.B.getD (g.B.length - 1) 0 = g.lastN from rfl, HDE.out.1] at this
        exact this))
      cases hd9
      · refine wp_region_flow [none, none, none, none, none, none, none, none, none, none, none, none, none, none, none, none, none, none, none, none, none, none, none, none, none, none, none, some 0, some 1, some 2, some 3, some 4, some 5, some 6, some 7, some 8, some 9, some 10, some 11, some 12, some 13, some 14, some 15, some 16, some 17, some 18, none, none, none, none, none, none, none, none, none, none, none, none, none, none, none, none, none, none, none, none, none, none, none] (fun i => [undef, undef, undef, undef, undef, undef, undef, undef, undef, undef, undef, undef, undef, undef, undef, undef, undef, undef, undef].getD i undef) [(fun v _ => v = .pointer (some ⟨p, 0, none⟩)), (fun v _ => v = .pointer (some ⟨p, 0, none⟩)), (fun v _ => v = .pointer (some ⟨p, 0, none⟩)), (fun v _ => v = .bool false), (fun v _ => v = .bool false), (fun v _ => v = undef), (fun v _ => v = undef), (fun v _ => v = undef), (fun v _ => v = undef), (fun v _ => v = undef), (fun v _ => v = undef), (fun v _ => v = undef), (fun v _ => v = undef), (fun v _ => v = undef), (fun v _ => v = undef), (fun v _ => v = undef), (fun v _ => v = undef), (fun v _ => v = undef), (fun v _ => v = .bool false)] (by kernel_rfl) (by kernel_rfl) rfl rfl rfl ?_ ?_ ?_
        · intro g hg v X Y hX hY hv
          simp only [List.mem_cons, List.not_mem_nil, or_false] at hg
          rcases hg with rfl | rfl | rfl | rfl | rfl | rfl | rfl | rfl | rfl | rfl | rfl | rfl | rfl | rfl | rfl | rfl | rfl | rfl | rfl
          all_goals first
            | exact hv
            | exact hv.kept hY
        · simp only [flowOps, and_true]
          refine ⟨?_, ?_, ?_, ?_, ?_, ?_, ?_, ?_, ?_, ?_, ?_, ?_, ?_, ?_, ?_, ?_, ?_, ?_, ?_⟩
          · intro xs W9 hW hn9
            simp only [flowAct, List.zipWith_cons_cons, List.zipWith_nil_left]
            go_wp2_with (fail)
            exact ⟨rfl, _, rfl, Below.refl _ _, by first | rfl | simp⟩
          · intro xs W9 hW hn9
            simp [flowNeeds, Region.binds] at hn9
            simp only [flowAct, List.zipWith_cons_cons, List.zipWith_nil_left]
            try simp only [hn9]
            go_wp2_with (fail)
            exact ⟨rfl, _, rfl, Below.refl _ _, by first | rfl | simp⟩
          · intro xs W9 hW hn9
            simp [flowNeeds, Region.binds] at hn9
            simp only [flowAct, List.zipWith_cons_cons, List.zipWith_nil_left]
            try simp only [hn9]
            go_wp2_with (fail)
            exact ⟨rfl, _, rfl, Below.refl _ _, by first | rfl | simp⟩
          · intro xs W9 hW hn9
            simp [flowNeeds, Region.binds] at hn9
            simp only [flowAct, List.zipWith_cons_cons, List.zipWith_nil_left]
            try simp only [hn9]
            go_wp2_with (go_at_call 53; (with_reducible refine (HHO.out _ hW).mono ?_); rintro e9 w9 ⟨rfl, hb9⟩)
            exact ⟨rfl, _, rfl, hb9, rfl⟩
          · intro xs W9 hW hn9
            simp [flowNeeds, Region.binds] at hn9
            simp only [flowAct, List.zipWith_cons_cons, List.zipWith_nil_left]
            try simp only [hn9]
            go_wp2_with (fail)
            exact ⟨rfl, _, rfl, Below.refl _ _, by first | rfl | simp⟩
          · intro xs W9 hW hn9
            simp [flowNeeds, Region.binds] at hn9
            simp only [flowAct, List.zipWith_cons_cons, List.zipWith_nil_left]
            try simp only [hn9]
            go_wp2_with (fail)
            exact ⟨rfl, _, rfl, Below.refl _ _, by first | rfl | simp⟩
          · intro xs W9 hW hn9
            simp [flowNeeds, Region.binds] at hn9
            simp only [flowAct, List.zipWith_cons_cons, List.zipWith_nil_left]
            try simp only [hn9]
            go_wp2_with (fail)
            exact ⟨rfl, _, rfl, Below.refl _ _, by first | rfl | simp⟩
          · intro xs W9 hW hn9
            simp [flowNeeds, Region.binds] at hn9
            simp only [flowAct, List.zipWith_cons_cons, List.zipWith_nil_left]
            try simp only [hn9]
            go_wp2_with (fail)
            exact ⟨rfl, _, rfl, Below.refl _ _, by first | rfl | simp⟩
          · intro xs W9 hW hn9
            simp [flowNeeds, Region.binds] at hn9
            simp only [flowAct, List.zipWith_cons_cons, List.zipWith_nil_left]
            try simp only [hn9]
            go_wp2_with (fail)
            exact ⟨rfl, _, rfl, Below.refl _ _, by first | rfl | simp⟩
          · intro xs W9 hW hn9
            simp [flowNeeds, Region.binds] at hn9
            simp only [flowAct, List.zipWith_cons_cons, List.zipWith_nil_left]
            try simp only [hn9]
            go_wp2_with (fail)
            exact ⟨rfl, _, rfl, Below.refl _ _, by first | rfl | simp⟩
          · intro xs W9 hW hn9
            simp [flowNeeds, Region.binds] at hn9
            simp only [flowAct, List.zipWith_cons_cons, List.zipWith_nil_left]
            try simp only [hn9]
            go_wp2_with (fail)
            exact ⟨rfl, _, rfl, Below.refl _ _, by first | rfl | simp⟩
          · intro xs W9 hW hn9
            simp [flowNeeds, Region.binds] at hn9
            simp only [flowAct, List.zipWith_cons_cons, List.zipWith_nil_left]
            try simp only [hn9]
            go_wp2_with (fail)
            exact ⟨rfl, _, rfl, Below.refl _ _, by first | rfl | simp⟩
          · intro xs W9 hW hn9
            simp [flowNeeds, Region.binds] at hn9
            simp only [flowAct, List.zipWith_cons_cons, List.zipWith_nil_left]
            try simp only [hn9]
            go_wp2_with (fail)
            exact ⟨rfl, _, rfl, Below.refl _ _, by first | rfl | simp⟩
          · intro xs W9 hW hn9
            simp [flowNeeds, Region.binds] at hn9
            simp only [flowAct, List.zipWith_cons_cons, List.zipWith_nil_left]
            try simp only [hn9]
            go_wp2_with (fail)
            exact ⟨rfl, _, rfl, Below.refl _ _, by first | rfl | simp⟩
          · intro xs W9 hW hn9
            simp [flowNeeds, Region.binds] at hn9
            simp only [flowAct, List.zipWith_cons_cons, List.zipWith_nil_left]
            try simp only [hn9]
            go_wp2_with (fail)
            exact ⟨rfl, _, rfl, Below.refl _ _, by first | rfl | simp⟩
          · intro xs W9 hW hn9
            simp [flowNeeds, Region.binds] at hn9
            simp only [flowAct, List.zipWith_cons_cons, List.zipWith_nil_left]
            try simp only [hn9]
            go_wp2_with (fail)
            exact ⟨rfl, _, rfl, Below.refl _ _, by first | rfl | simp⟩
          · intro xs W9 hW hn9
            simp [flowNeeds, Region.binds] at hn9
            simp only [flowAct, List.zipWith_cons_cons, List.zipWith_nil_left]
            try simp only [hn9]
            go_wp2_with (fail)
            exact ⟨rfl, _, rfl, Below.refl _ _, by first | rfl | simp⟩
          · intro xs W9 hW hn9
            simp [flowNeeds, Region.binds] at hn9
            simp only [flowAct, List.zipWith_cons_cons, List.zipWith_nil_left]
            try simp only [hn9]
            go_wp2_with (fail)
            exact ⟨rfl, _, rfl, Below.refl _ _, by first | rfl | simp⟩
          · intro xs W9 hW hn9
            simp [flowNeeds, Region.binds] at hn9
            simp only [flowAct, List.zipWith_cons_cons, List.zipWith_nil_left]
            try simp only [hn9]
            go_wp2_with (fail)
            exact ⟨rfl, _, rfl, Below.refl _ _, by first | rfl | simp⟩
        · intro xs W9 hW hall
          simp only [flowAll, and_true, Nat.zero_add, Nat.reduceAdd] at hall
          obtain ⟨a0, a1, a2, a3, a4, a5, a6, a7, a8, a9, a10, a11, a12, a13, a14, a15, a16, a17, a18⟩ := hall
          simp only [flowAct, List.zipWith_cons_cons, List.zipWith_nil_left]
          simp only [a18]
          clear a0 a1 a2 a3 a4 a5 a6 a7 a8 a9 a10 a11 a12 a13 a14 a15 a16 a17 a18
          have HLW2 := Lib.hid (HLW.out.below hW)
          clear hW
          have HTE0 := Lib.hid (show T = (0, st, g) from by rw [HA.out, if_neg (fun h => by have := HDE.out.1; simp at this; omega)])
          obtain ⟨⟨r2, s2, g2⟩, hpr⟩ : ∃ z, putL st g f = z := ⟨_, rfl⟩
          have HPU := Lib.hid (lput_p HLW2.out HK.out.ne (HTW.out _ HLW2.out.tr) (by have := HLST.out; omega) (by have := HLST.out; omega) (by have := HK.out.nx; omega) (by have := HK.out.nx; omega) (by have := HBZ.out; omega) (by have := HBZ.out; omega) HOY.out (by have := HFL.out; have := HWL.out; omega) HOA.out)
          rw [hpr] at HPU
          simp only at HPU
          have HPN := Lib.hid (show putL st g f = (r2, s2, g2) from hpr)
          have HG2 := Lib.hid (show 0 ≤ g2.next ∧ g2.next ≤ 2000000000000 from by
            have h9 := (HK.out).put st (f := f) (by have := HFL.out; have := HWL.out; omega) (by exact HNX.out)
            rw [hpr] at h9
            exact h9.nx)
          clear hpr
          by_cases hr2 : r2 = 0
          · subst hr2
            have hnx2 := HG2.out
            go_wp2_with (go_at_call 55; (with_reducible refine HPU.out.mono ?_); rintro e7 w7 ⟨rfl, hl7⟩; have HL7 := Lib.hid hl7; obtain ⟨bv7, hl9⟩ := hl7.cs; obtain ⟨c0, c1, c2, c3, c4, c5, c6⟩ := hl9.cs; clear hl7 hl9)
            go_ret2
            rw [← HRR.out, HTE0.out]
            simp only [ne_eq, not_true_eq_false, if_false, HPN.out, putR, if_true]
            exact ⟨by first | rfl | (congr 4; rw [IntKind.wrap_i64]; omega) | go_num, HWGo.out _ _ _ HL7.out⟩
          · have hrb : (r2 == 0) = false := by rw [beq_eq_false_iff_ne]; exact hr2
            by_cases hr3 : r2 = 3
            · subst hr3
              go_wp2_with (go_at_call 55; (with_reducible refine HPU.out.mono ?_); rintro e7 w7 ⟨rfl, hl7⟩; have HL7 := Lib.hid hl7; clear hl7)
              go_ret2
              rw [← HRR.out, HTE0.out]
              simp only [ne_eq, not_true_eq_false, if_false, HPN.out, putR]
              exact ⟨by first | rfl | simp [errR], by simpa [errR] using HWGo.out _ _ _ HL7.out⟩
            · have hrb3 : (r2 == 3) = false := by rw [beq_eq_false_iff_ne]; exact hr3
              have HR2 := Lib.hid (And.intro hr2 hr3)
              go_wp2_with (go_at_call 55; (with_reducible refine HPU.out.mono ?_); rintro e7 w7 ⟨rfl, hl7⟩; have HL7 := Lib.hid hl7; clear hl7)
              go_ret2
              rw [← HRR.out, HTE0.out]
              simp only [ne_eq, not_true_eq_false, if_false, HPN.out, putR, if_neg HR2.out.1]
              exact ⟨by unfold errR; rw [if_neg HR2.out.2]; rfl, HWGo.out _ _ _ HL7.out⟩
  
      · refine wp_region_flow [none, none, none, none, none, none, none, none, none, none, none, none, none, none, none, none, none, none, none, none, none, none, none, none, none, none, none, some 0, some 1, some 2, some 3, some 4, some 5, some 6, some 7, some 8, some 9, some 10, some 11, some 12, some 13, some 14, some 15, some 16, some 17, some 18, none, none, none, none, none, none, none, none, none, none, none, none, none, none, none, none, none, none, none, none, none, none, none] (fun i => [undef, undef, undef, undef, undef, undef, undef, undef, undef, undef, undef, undef, undef, undef, undef, undef, undef, undef, undef].getD i undef) [(fun v _ => v = .pointer (some ⟨p, 0, none⟩)), (fun v _ => v = .pointer (some ⟨p, 0, none⟩)), (fun v _ => v = .pointer (some ⟨p, 0, none⟩)), (fun v _ => v = .bool true), (fun v _ => v = .bool true), (fun v _ => v = .pointer (some ⟨p, 0, none⟩)), (fun v _ => v = .pointer (some ⟨p, 0, none⟩)), (fun v _ => v = .pointer (some ⟨p, 0, none⟩)), (fun v _ => v = .pointer (some ⟨p, 3, none⟩)), (fun v _ => v = .int .i64 g.size), (fun v _ => v = .slice oa fl oc), (fun v _ => v = .int .i64 (fl : Int)), (fun v _ => v = .int .i64 (g.size + (fl : Int))), (fun v _ => v = .pointer (some ⟨p, 0, none⟩)), (fun v _ => v = .pointer (some ⟨p, 0, none⟩)), (fun v _ => v = .pointer (some ⟨p, 6, none⟩)), (fun v _ => v = .int .i64 g.most), (fun v _ => v = .bool he9), (fun v _ => v = .bool he9)] (by kernel_rfl) (by kernel_rfl) rfl rfl rfl ?_ ?_ ?_
        · intro g hg v X Y hX hY hv
          simp only [List.mem_cons, List.not_mem_nil, or_false] at hg
          rcases hg with rfl | rfl | rfl | rfl | rfl | rfl | rfl | rfl | rfl | rfl | rfl | rfl | rfl | rfl | rfl | rfl | rfl | rfl | rfl
          all_goals first
            | exact hv
            | exact hv.kept hY
        · simp only [flowOps, and_true]
          refine ⟨?_, ?_, ?_, ?_, ?_, ?_, ?_, ?_, ?_, ?_, ?_, ?_, ?_, ?_, ?_, ?_, ?_, ?_, ?_⟩
          · intro xs W9 hW hn9
            simp only [flowAct, List.zipWith_cons_cons, List.zipWith_nil_left]
            go_wp2_with (fail)
            exact ⟨rfl, _, rfl, Below.refl _ _, by first | rfl | simp⟩
          · intro xs W9 hW hn9
            simp [flowNeeds, Region.binds] at hn9
            simp only [flowAct, List.zipWith_cons_cons, List.zipWith_nil_left]
            try simp only [hn9]
            go_wp2_with (fail)
            exact ⟨rfl, _, rfl, Below.refl _ _, by first | rfl | simp⟩
          · intro xs W9 hW hn9
            simp [flowNeeds, Region.binds] at hn9
            simp only [flowAct, List.zipWith_cons_cons, List.zipWith_nil_left]
            try simp only [hn9]
            go_wp2_with (fail)
            exact ⟨rfl, _, rfl, Below.refl _ _, by first | rfl | simp⟩
          · intro xs W9 hW hn9
            simp [flowNeeds, Region.binds] at hn9
            simp only [flowAct, List.zipWith_cons_cons, List.zipWith_nil_left]
            try simp only [hn9]
            go_wp2_with (go_at_call 53; (with_reducible refine (HHO.out _ hW).mono ?_); rintro e9 w9 ⟨rfl, hb9⟩)
            exact ⟨rfl, _, rfl, hb9, rfl⟩
          · intro xs W9 hW hn9
            simp [flowNeeds, Region.binds] at hn9
            simp only [flowAct, List.zipWith_cons_cons, List.zipWith_nil_left]
            try simp only [hn9]
            go_wp2_with (fail)
            exact ⟨rfl, _, rfl, Below.refl _ _, by first | rfl | simp⟩
          · intro xs W9 hW hn9
            simp [flowNeeds, Region.binds] at hn9
            simp only [flowAct, List.zipWith_cons_cons, List.zipWith_nil_left]
            try simp only [hn9]
            go_wp2_with (fail)
            exact ⟨rfl, _, rfl, Below.refl _ _, by first | rfl | simp⟩
          · intro xs W9 hW hn9
            simp [flowNeeds, Region.binds] at hn9
            simp only [flowAct, List.zipWith_cons_cons, List.zipWith_nil_left]
            try simp only [hn9]
            go_wp2_with (fail)
            exact ⟨rfl, _, rfl, Below.refl _ _, by first | rfl | simp⟩
          · intro xs W9 hW hn9
            simp [flowNeeds, Region.binds] at hn9
            simp only [flowAct, List.zipWith_cons_cons, List.zipWith_nil_left]
            try simp only [hn9]
            go_wp2_with (fail)
            exact ⟨rfl, _, rfl, Below.refl _ _, by first | rfl | simp⟩
          · intro xs W9 hW hn9
            simp [flowNeeds, Region.binds] at hn9
            simp only [flowAct, List.zipWith_cons_cons, List.zipWith_nil_left]
            try simp only [hn9]
            go_wp2_with (fail)
            exact ⟨rfl, _, rfl, Below.refl _ _, by first | rfl | simp⟩
          · intro xs W9 hW hn9
            simp [flowNeeds, Region.binds] at hn9
            obtain ⟨bv, hl9⟩ := (HLW.out.below hW).cs
            obtain ⟨c0, c1, c2, c3, c4, c5, c6⟩ := hl9.cs
            clear hl9
            simp only [flowAct, List.zipWith_cons_cons, List.zipWith_nil_left]
            try simp only [hn9]
            go_wp2_with (fail)
            exact ⟨rfl, _, rfl, Below.refl _ _, by first | rfl | simp⟩
          · intro xs W9 hW hn9
            simp [flowNeeds, Region.binds] at hn9
            simp only [flowAct, List.zipWith_cons_cons, List.zipWith_nil_left]
            try simp only [hn9]
            go_wp2_with (fail)
            exact ⟨rfl, _, rfl, Below.refl _ _, by first | rfl | simp⟩
          · intro xs W9 hW hn9
            simp [flowNeeds, Region.binds] at hn9
            simp only [flowAct, List.zipWith_cons_cons, List.zipWith_nil_left]
            try simp only [hn9]
            go_wp2_with (fail)
            exact ⟨rfl, _, rfl, Below.refl _ _, by first | rfl | simp⟩
          · intro xs W9 hW hn9
            simp [flowNeeds, Region.binds] at hn9
            simp only [flowAct, List.zipWith_cons_cons, List.zipWith_nil_left]
            try simp only [hn9]
            go_wp2_with (fail)
            exact ⟨rfl, _, rfl, Below.refl _ _, by first | rfl | simp⟩
          · intro xs W9 hW hn9
            simp [flowNeeds, Region.binds] at hn9
            simp only [flowAct, List.zipWith_cons_cons, List.zipWith_nil_left]
            try simp only [hn9]
            go_wp2_with (fail)
            exact ⟨rfl, _, rfl, Below.refl _ _, by first | rfl | simp⟩
          · intro xs W9 hW hn9
            simp [flowNeeds, Region.binds] at hn9
            simp only [flowAct, List.zipWith_cons_cons, List.zipWith_nil_left]
            try simp only [hn9]
            go_wp2_with (fail)
            exact ⟨rfl, _, rfl, Below.refl _ _, by first | rfl | simp⟩
          · intro xs W9 hW hn9
            simp [flowNeeds, Region.binds] at hn9
            simp only [flowAct, List.zipWith_cons_cons, List.zipWith_nil_left]
            try simp only [hn9]
            go_wp2_with (fail)
            exact ⟨rfl, _, rfl, Below.refl _ _, by first | rfl | simp⟩
          · intro xs W9 hW hn9
            simp [flowNeeds, Region.binds] at hn9
            obtain ⟨bv, hl9⟩ := (HLW.out.below hW).cs
            obtain ⟨c0, c1, c2, c3, c4, c5, c6⟩ := hl9.cs
            clear hl9
            simp only [flowAct, List.zipWith_cons_cons, List.zipWith_nil_left]
            try simp only [hn9]
            go_wp2_with (fail)
            exact ⟨rfl, _, rfl, Below.refl _ _, by first | rfl | simp⟩
          · intro xs W9 hW hn9
            simp [flowNeeds, Region.binds] at hn9
            simp only [flowAct, List.zipWith_cons_cons, List.zipWith_nil_left]
            try simp only [hn9]
            go_wp2_with (fail)
            exact ⟨rfl, _, rfl, Below.refl _ _, by first | rfl | simp⟩
          · intro xs W9 hW hn9
            simp [flowNeeds, Region.binds] at hn9
            simp only [flowAct, List.zipWith_cons_cons, List.zipWith_nil_left]
            try simp only [hn9]
            go_wp2_with (fail)
            exact ⟨rfl, _, rfl, Below.refl _ _, by first | rfl | simp⟩
        · intro xs W9 hW hall
          simp only [flowAll, and_true, Nat.zero_add, Nat.reduceAdd] at hall
          obtain ⟨a0, a1, a2, a3, a4, a5, a6, a7, a8, a9, a10, a11, a12, a13, a14, a15, a16, a17, a18⟩ := hall
          simp only [flowAct, List.zipWith_cons_cons, List.zipWith_nil_left]
          simp only [a18]
          clear a0 a1 a2 a3 a4 a5 a6 a7 a8 a9 a10 a11 a12 a13 a14 a15 a16 a17 a18
          have HLW2 := Lib.hid (HLW.out.below hW)
          clear hW
          cases he9
          · have HTE0 := Lib.hid (show T = (0, st, g) from by rw [HA.out, if_neg (fun h => by have := HDE.out.2; simp at this; omega)])
            obtain ⟨⟨r2, s2, g2⟩, hpr⟩ : ∃ z, putL st g f = z := ⟨_, rfl⟩
            have HPU := Lib.hid (lput_p HLW2.out HK.out.ne (HTW.out _ HLW2.out.tr) (by have := HLST.out; omega) (by have := HLST.out; omega) (by have := HK.out.nx; omega) (by have := HK.out.nx; omega) (by have := HBZ.out; omega) (by have := HBZ.out; omega) HOY.out (by have := HFL.out; have := HWL.out; omega) HOA.out)
            rw [hpr] at HPU
            simp only at HPU
            have HPN := Lib.hid (show putL st g f = (r2, s2, g2) from hpr)
            have HG2 := Lib.hid (show 0 ≤ g2.next ∧ g2.next ≤ 2000000000000 from by
              have h9 := (HK.out).put st (f := f) (by have := HFL.out; have := HWL.out; omega) (by exact HNX.out)
              rw [hpr] at h9
              exact h9.nx)
            clear hpr
            by_cases hr2 : r2 = 0
            · subst hr2
              have hnx2 := HG2.out
              go_wp2_with (go_at_call 55; (with_reducible refine HPU.out.mono ?_); rintro e7 w7 ⟨rfl, hl7⟩; have HL7 := Lib.hid hl7; obtain ⟨bv7, hl9⟩ := hl7.cs; obtain ⟨c0, c1, c2, c3, c4, c5, c6⟩ := hl9.cs; clear hl7 hl9)
              go_ret2
              rw [← HRR.out, HTE0.out]
              simp only [ne_eq, not_true_eq_false, if_false, HPN.out, putR, if_true]
              exact ⟨by first | rfl | (congr 4; rw [IntKind.wrap_i64]; omega) | go_num, HWGo.out _ _ _ HL7.out⟩
            · have hrb : (r2 == 0) = false := by rw [beq_eq_false_iff_ne]; exact hr2
              by_cases hr3 : r2 = 3
              · subst hr3
                go_wp2_with (go_at_call 55; (with_reducible refine HPU.out.mono ?_); rintro e7 w7 ⟨rfl, hl7⟩; have HL7 := Lib.hid hl7; clear hl7)
                go_ret2
                rw [← HRR.out, HTE0.out]
                simp only [ne_eq, not_true_eq_false, if_false, HPN.out, putR]
                exact ⟨by first | rfl | simp [errR], by simpa [errR] using HWGo.out _ _ _ HL7.out⟩
              · have hrb3 : (r2 == 3) = false := by rw [beq_eq_false_iff_ne]; exact hr3
                have HR2 := Lib.hid (And.intro hr2 hr3)
                go_wp2_with (go_at_call 55; (with_reducible refine HPU.out.mono ?_); rintro e7 w7 ⟨rfl, hl7⟩; have HL7 := Lib.hid hl7; clear hl7)
                go_ret2
                rw [← HRR.out, HTE0.out]
                simp only [ne_eq, not_true_eq_false, if_false, HPN.out, putR, if_neg HR2.out.1]
                exact ⟨by unfold errR; rw [if_neg HR2.out.2]; rfl, HWGo.out _ _ _ HL7.out⟩
          · have HTT := Lib.hid (show T = turnL st g from by rw [HA.out, if_pos (by have h1 := HDE.out.1; have h2 := HDE.out.2; simp at h1 h2; omega)])
            have HTU := Lib.hid (lturn_p HLW2.out HK.out.ne HTW.out (by have := HLST.out; omega) (by have := HLST.out; omega) HK.out.nx.1 (by have := HK.out.nx; omega) (by have := HK.out.len; have := HN.out; omega))
            obtain ⟨⟨r1, s1, g1⟩, htr⟩ : ∃ z, turnL st g = z := ⟨_, rfl⟩
            rw [htr] at HTT HTU HGT HTN
            simp only at HTU HGT HTN
            clear htr
            by_cases hr1 : r1 = 0
            · subst hr1
              have HTE0 := HTT
              go_upto_region 12 with (go_at_call 54; (with_reducible refine HTU.out.mono ?_); rintro e6 w6 ⟨rfl, hl6⟩; have HL6 := Lib.hid hl6; clear hl6)
              obtain ⟨⟨r2, s2, g2⟩, hpr⟩ : ∃ z, putL s1 g1 f = z := ⟨_, rfl⟩
              have HPU := Lib.hid (lput_p HL6.out HGT.out.ne (HTW.out _ HL6.out.tr) (by have := HGT.out.last; omega) (by have := HGT.out.last; omega) (by have := HGT.out.nx; omega) (by have := HGT.out.nx; omega) (by have := (And.intro HGT.out.sz HN.out); omega) (by have := (And.intro HGT.out.sz HN.out); omega) HOY.out (by have := HFL.out; have := HWL.out; omega) HOA.out)
              rw [hpr] at HPU
              simp only at HPU
              have HPN := Lib.hid (show putL s1 g1 f = (r2, s2, g2) from hpr)
              have HG2 := Lib.hid (show 0 ≤ g2.next ∧ g2.next ≤ 2000000000000 from by
                have h9 := (HGT.out).put s1 (f := f) (by have := HFL.out; have := HWL.out; omega) (by rw [HTN.out]; exact HNX.out)
                rw [hpr] at h9
                exact h9.nx)
              clear hpr
              by_cases hr2 : r2 = 0
              · subst hr2
                have hnx2 := HG2.out
                go_wp2_with (go_at_call 55; (with_reducible refine HPU.out.mono ?_); rintro e7 w7 ⟨rfl, hl7⟩; have HL7 := Lib.hid hl7; obtain ⟨bv7, hl9⟩ := hl7.cs; obtain ⟨c0, c1, c2, c3, c4, c5, c6⟩ := hl9.cs; clear hl7 hl9)
                go_ret2
                rw [← HRR.out, HTE0.out]
                simp only [ne_eq, not_true_eq_false, if_false, HPN.out, putR, if_true]
                exact ⟨by first | rfl | (congr 4; rw [IntKind.wrap_i64]; omega) | go_num, HWGo.out _ _ _ HL7.out⟩
              · have hrb : (r2 == 0) = false := by rw [beq_eq_false_iff_ne]; exact hr2
                by_cases hr3 : r2 = 3
                · subst hr3
                  go_wp2_with (go_at_call 55; (with_reducible refine HPU.out.mono ?_); rintro e7 w7 ⟨rfl, hl7⟩; have HL7 := Lib.hid hl7; clear hl7)
                  go_ret2
                  rw [← HRR.out, HTE0.out]
                  simp only [ne_eq, not_true_eq_false, if_false, HPN.out, putR]
                  exact ⟨by first | rfl | simp [errR], by simpa [errR] using HWGo.out _ _ _ HL7.out⟩
                · have hrb3 : (r2 == 3) = false := by rw [beq_eq_false_iff_ne]; exact hr3
                  have HR2 := Lib.hid (And.intro hr2 hr3)
                  go_wp2_with (go_at_call 55; (with_reducible refine HPU.out.mono ?_); rintro e7 w7 ⟨rfl, hl7⟩; have HL7 := Lib.hid hl7; clear hl7)
                  go_ret2
                  rw [← HRR.out, HTE0.out]
                  simp only [ne_eq, not_true_eq_false, if_false, HPN.out, putR, if_neg HR2.out.1]
                  exact ⟨by unfold errR; rw [if_neg HR2.out.2]; rfl, HWGo.out _ _ _ HL7.out⟩
            · have hrb : (r1 == 0) = false := by rw [beq_eq_false_iff_ne]; exact hr1
              have HR1 := Lib.hid hr1
              by_cases hr3 : r1 = 3
              · subst hr3
                go_wp2_with (go_at_call 54; (with_reducible refine HTU.out.mono ?_); rintro e6 w6 ⟨rfl, hl6⟩; have HL6 := Lib.hid hl6; clear hl6)
                go_ret2
                rw [← HRR.out, HTT.out]
                exact ⟨by first | rfl | simp [errR], by simpa [errR] using HWGo.out _ _ _ HL6.out⟩
              · have hrb3 : (r1 == 3) = false := by rw [beq_eq_false_iff_ne]; exact hr3
                have HR3 := Lib.hid hr3
                go_wp2_with (go_at_call 54; (with_reducible refine HTU.out.mono ?_); rintro e6 w6 ⟨rfl, hl6⟩; have HL6 := Lib.hid hl6; clear hl6)
                go_ret2
                rw [← HRR.out, HTT.out]
                simp only [ne_eq, HR1.out, not_false_eq_true, if_true]
                exact ⟨by unfold errR; rw [if_neg HR3.out]; rfl, HWGo.out _ _ _ HL6.out⟩
  
  · rw [if_pos hf]
    rw [if_neg hf] at HR
    clear h hg hn hT hb hm hf
    go_enter Tryz.func17, Tryz.ntmps17
    go_wp2_with ((go_at_call 51; (with_reducible refine HR.out.mono ?_); rintro e1 w1 ⟨rfl, hb1⟩; have HB1 := Lib.hid hb1; obtain ⟨bv, hl1⟩ := (HG.out.below hb1).cs; obtain ⟨c0, c1, c2, c3, c4, c5, c6⟩ := hl1.cs; clear hb1 hl1))
    go_ret2
    exact ⟨rfl, HG.out.below HB1.out⟩
end Go.Proofs.YtioeimkaljmffaaGreatDoor
end

section
namespace Go.Proofs
open Go.Shelf
def Tryz.lays190_ren : Go.Shelf.Ren := ⟨fun | 190 => 73 | 125 => 115 | 258 => 114 | 128 => 149 | 129 => 150 | 302 => 140 | 303 => 141 | 304 => 142 | 305 => 143 | 306 => 144 | 307 => 145 | 308 => 146 | 309 => 147 | 310 => 148 | 333 => 168 | 329 => 169 | 330 => 170 | 334 => 171 | 335 => 172 | 336 => 173 | 344 => 184 | n => n, fun | 31 => 71 | 9 => 9 | 3 => 3 | 46 => 43 | 0 => 0 | 51 => 127 | 53 => 155 | 4 => 4 | 183 => 161 | 182 => 160 | 131 => 165 | 5 => 5 | 218 => 187 | 222 => 191 | 228 => 206 | 229 => 80 | n => n, fun | n => n⟩
theorem Tryz.lays190 : Go.Proofs.Lays.n190 Tryz.prog Tryz.lays190_ren := {
  mixed := by kernel_rfl
  f125 := Tryz.func115.trans (congrArg some (by kernel_rfl))
  f128 := Tryz.func149.trans (congrArg some (by kernel_rfl))
  f129 := Tryz.func150.trans (congrArg some (by kernel_rfl))
  f190 := Tryz.func73.trans (congrArg some (by kernel_rfl))
  f258 := Tryz.func114.trans (congrArg some (by kernel_rfl))
  f302 := Tryz.func140.trans (congrArg some (by kernel_rfl))
  f303 := Tryz.func141.trans (congrArg some (by kernel_rfl))
  f304 := Tryz.func142.trans (congrArg some (by kernel_rfl))
  f305 := Tryz.func143.trans (congrArg some (by kernel_rfl))
  f306 := Tryz.func144.trans (congrArg some (by kernel_rfl))
  f307 := Tryz.func145.trans (congrArg some (by kernel_rfl))
  f308 := Tryz.func146.trans (congrArg some (by kernel_rfl))
  f309 := Tryz.func147.trans (congrArg some (by kernel_rfl))
  f310 := Tryz.func148.trans (congrArg some (by kernel_rfl))
  f329 := Tryz.func169.trans (congrArg some (by kernel_rfl))
  f330 := Tryz.func170.trans (congrArg some (by kernel_rfl))
  f333 := Tryz.func168.trans (congrArg some (by kernel_rfl))
  f334 := Tryz.func171.trans (congrArg some (by kernel_rfl))
  f335 := Tryz.func172.trans (congrArg some (by kernel_rfl))
  f336 := Tryz.func173.trans (congrArg some (by kernel_rfl))
  f344 := Tryz.func184.trans (congrArg some (by kernel_rfl))
  t0 := Tryz.underlying0
  a0 := Tryz.isAgg0
  z0 := Tryz.sizeOf0
  v0 := Tryz.zeroValue0
  t3 := Tryz.underlying3
  a3 := Tryz.isAgg3
  z3 := Tryz.sizeOf3
  v3 := Tryz.zeroValue3
  t4 := Tryz.underlying4
  a4 := Tryz.isAgg4
  z4 := Tryz.sizeOf4
  v4 := Tryz.zeroValue4
  t5 := Tryz.underlying5
  a5 := Tryz.isAgg5
  z5 := Tryz.sizeOf5
  v5 := Tryz.zeroValue5
  t9 := Tryz.underlying9
  a9 := Tryz.isAgg9
  z9 := Tryz.sizeOf9
  v9 := Tryz.zeroValue9
  t31 := Tryz.underlying71
  a31 := Tryz.isAgg71
  z31 := Tryz.sizeOf71
  v31 := Tryz.zeroValue71
  t46 := Tryz.underlying43
  a46 := Tryz.isAgg43
  z46 := Tryz.sizeOf43
  v46 := Tryz.zeroValue43
  t51 := Tryz.underlying127
  a51 := Tryz.isAgg127
  z51 := Tryz.sizeOf127
  v51 := Tryz.zeroValue127
  t53 := Tryz.underlying155
  a53 := Tryz.isAgg155
  z53 := Tryz.sizeOf155
  v53 := Tryz.zeroValue155
  t131 := Tryz.underlying165
  a131 := Tryz.isAgg165
  z131 := Tryz.sizeOf165
  v131 := Tryz.zeroValue165
  t182 := Tryz.underlying160
  a182 := Tryz.isAgg160
  z182 := Tryz.sizeOf160
  v182 := Tryz.zeroValue160
  t183 := Tryz.underlying161
  a183 := Tryz.isAgg161
  z183 := Tryz.sizeOf161
  v183 := Tryz.zeroValue161
  t218 := Tryz.underlying187
  a218 := Tryz.isAgg187
  z218 := Tryz.sizeOf187
  v218 := Tryz.zeroValue187
  t222 := Tryz.underlying191
  a222 := Tryz.isAgg191
  z222 := Tryz.sizeOf191
  v222 := Tryz.zeroValue191
  t228 := Tryz.underlying206
  a228 := Tryz.isAgg206
  z228 := Tryz.sizeOf206
  v228 := Tryz.zeroValue206
  t229 := Tryz.underlying80
  a229 := Tryz.isAgg80
  z229 := Tryz.sizeOf80
  v229 := Tryz.zeroValue80 }
open Go.Sort Go.RowKit in
theorem Tryz.slices_Sort_string (blk off cap : Nat) (ss : List (List UInt8)) (w : World) (hH : Holds encStr w blk off ss.toArray) (hblk : blk < w.heap.size) (hsz : ss.length < 4611686018427387904) :
    Calls Tryz.prog 73 #[.slice (some ⟨blk, off, none⟩) ss.length cap] w fun e w' =>
      e = .returned (.tuple #[]) ∧ ∃ n os, w' = grow (putRow encStr (Sort.ahead w n) blk off (ss.mergeSort fun x y => decide (x ≤ y)).toArray) os := Any.slices_Sort_string Tryz.lays190 blk off cap ss w hH hblk hsz
open Go.RowKit Go.Sort in
theorem Tryz.slices_Sort_string_none (p : Option Addr) (cap : Nat) (w : World) :
    Calls Tryz.prog 73 #[.slice p 0 cap] w fun e w' => e = .returned (.tuple #[]) ∧ w' = w := Any.slices_Sort_string_none Tryz.lays190 p cap w
end Go.Proofs
end

section
namespace Go.Proofs.YtioeimkaljmffaaGreatDoor
open Go.RowKit Go Go.Sort Go.Maps Go.WideMaps
set_option linter.unusedVariables false
set_option maxRecDepth 20000

theorem infoD9 : (Tryz.prog.info? 9).map (fun i => (i.zero, i.size, i.bytes)) = some (some (.string ⟨#[]⟩), 1, 16) := by kernel_rfl
/-- A slice of texts of the call's own. -/
def OwnT (w : World) (B : Nat) (v : Value) (L : List (List UInt8)) : Prop := w.ownsRow B 9 1 v L.length (L.map encStr)
def NamesPost (L : List (List UInt8)) (w : World) (e : Ending) (w' : World) : Prop := ∃ v, e = .returned v ∧ OwnT w' w.heap.size v L ∧ Below w.heap.size w w'
theorem names_sorted {L ns : List (List UInt8)} (hp : ns.Perm L) (ha : L.Pairwise (fun a b => Op.bytesLess a b = true)) : ns.mergeSort (fun x y => decide (x ≤ y)) = L := by
  refine List.Perm.eq_of_pairwise (le := fun x y => decide (x ≤ y) = true) (fun a b _ _ h1 h2 => ?_) ?_ ?_ ((List.mergeSort_perm _ _).trans hp)
  · simp only [decide_eq_true_eq] at h1 h2
    exact List.le_antisymm h1 h2
  · refine List.pairwise_mergeSort (fun a b c h1 h2 => ?_) (fun a b => ?_) ns
    · simp only [decide_eq_true_eq] at *; exact List.le_trans h1 h2
    · simp only [Bool.or_eq_true, decide_eq_true_eq]; exact List.le_total a b
  · refine ha.imp fun {a b} h => ?_
    rw [bytesLess_eq] at h
    simp only [decide_eq_true_eq] at h ⊢
    exact List.le_of_lt h
set_option maxRecDepth 100000 in
set_option maxHeartbeats 6400000 in
theorem dnames_c {w : World} {q m : Nat} {pv : Value} {FS : List Fl} {st : Ds} (h : DiskIn w q m pv FS st) : Calls Tryz.prog 33 #[.pointer (some ⟨q, 0, none⟩)] w (NamesPost (st.F.map Fi.nm) w) := by
  obtain ⟨i0, hi, hz0, hz1, hz2⟩ := info_parts infoD9
  have c0 := h.cs.1
  have HD := Lib.hid h
  have HM := Lib.hid h.map
  have HN := Lib.hid h.names
  have HL := Lib.hid (show (FS.map (fun x => x.f.nm)) = st.F.map Fi.nm by rw [← h.pr, List.map_map]; rfl)
  have HAS := Lib.hid (show (st.F.map Fi.nm).Pairwise (fun a b => Op.bytesLess a b = true) by rw [List.pairwise_map]; exact h.ok.asc)
  have HLN := Lib.hid (show FS.length ≤ 64 by have := h.ok.len; rw [← h.pr] at this; simpa using this)
  have HBL := Lib.hid h.map.lt
  clear h
  go_enter Tryz.func33, Tryz.ntmps33
  go_wp2_with (first
    | (go_at_call 58; (with_reducible refine (dmade_c HD.out).mono ?_); rintro e9 w9 ⟨rfl, rfl⟩)
    | (at_range; refine wpList_range_own _ rfl _ 64 rfl 9 101 klawD Tryz.underlying64 ptrElem m FS.length (mapD FS) rfl HM.out ?_; intro w0 hrg0 hg0 hs0)
    | go_in)
  go_frame
  go_loopw [3] (fun s wr => ∃ (left : Lit → Bool) (cnt : Nat) (ns : List (List UInt8)), wr.ranges Tryz.prog 9 ptrElem m w.heap.size FS.length (mapD FS) left cnt ∧ OwnT wr w.heap.size s ns ∧ ns.Perm ((doneL left FS).map fun x => x.f.nm) ∧ Below w.heap.size w wr) (fun _ wr => wr.rangeLeft m w.heap.size)
  case atStart => exact ⟨_, _, [], hrg0, World.ownsRow_nil _ _ _ _, by rw [doneL_start]; exact List.Perm.refl _, ⟨hg0.os, hg0.tape, hg0.output, hg0.size, fun k hk => hg0.block k hk (by simp)⟩⟩
  case round =>
    obtain ⟨left, cnt, ns, hrg, hrow, hp, hb⟩ := hrel
    have HRG := Lib.hid hrg
    have HB := Lib.hid hb
    have HROW := Lib.hid hrow
    have HP := Lib.hid hp
    clear hb hrow hp
    go_wp2_with (first
      | (at_next; refine wpList_next_ranges _ rfl _ rfl 9 klawD ptrElem (fun v : Value => v) (fun v : Value => v) (fun key kl _ => ⟨key, rfl⟩) (fun v y _ => ⟨v, rfl⟩) m w.heap.size FS.length _ _ _ rfl hrg ?_ ?_)
      | go_in)
    · intro hc0 hl0
      have hp := HP.out
      rw [doneL_end hl0, HL.out] at hp
      have HSO := Lib.hid (names_sorted hp HAS.out)
      have HLE := Lib.hid (show ns.length = (st.F.map Fi.nm).length from hp.length_eq)
      clear hp hrg
      rcases HROW.out.2 with ⟨rfl, hz⟩ | ⟨g, cap, cur, rfl, hbase, hb9, h1, h2, h3, h4⟩
      · have hs := Tryz.slices_Sort_string_none none 0 wr
        go_wp2_with (go_at_call 73; (with_reducible refine hs.mono ?_); rintro e7 w7 ⟨rfl, rfl⟩)
        go_ret
        have h0 : st.F.map Fi.nm = [] := List.length_eq_zero_iff.1 (by rw [← HLE.out]; exact hz)
        exact ⟨_, rfl, by rw [h0]; exact World.ownsRow_nil _ _ _ _, HB.out⟩
      · have hH : Holds encStr wr g 0 ns.toArray := holds_of_block hb9 (by simpa using h4)
        have hgl : g < wr.heap.size := (Array.getElem?_eq_some_iff.1 hb9).1
        have hs := Tryz.slices_Sort_string g 0 cap ns wr hH hgl (by have h8 := HLE.out; rw [← HL.out, List.length_map] at h8; have := HLN.out; omega)
        have HC := Lib.hid (And.intro hbase (And.intro hb9 (And.intro h1 (And.intro h2 h3))))
        clear hH hgl hbase hb9 h1 h2 h3 h4
        go_wp2_with (go_at_call 73; (with_reducible refine hs.mono ?_); rintro e7 w7 ⟨rfl, nn, os, rfl⟩)
        go_ret
        obtain ⟨hbase, hb9, h1, h2, h3⟩ := HC.out
        refine ⟨_, rfl, ?_, HB.out.grown (grownBy_sorted _) HB.out.size (fun j hj => by cases hj; exact hbase)⟩
        have := ownsRow_sorted (os := os) (n := nn) (ts := ns.mergeSort fun x y => decide (x ≤ y)) (ss := ns) (by simp) hbase hb9 h1 h2 h3
        rw [HSO.out, HLE.out] at this
        unfold OwnT
        rw [HLE.out, HSO.out]
        exact this
    · intro key v kl yd yp w2 cnt2 hkey hlk hv hat hrg2 hlt hg2 hs2 hen
      obtain ⟨A, x, C, e, rfl, rfl, rfl⟩ := entryD (y := (yd, yp)) hkey hv hat
      have hrow2 : w2.ownsRow w.heap.size 9 1 _ ns.length (ns.map encStr) := World.ownsRow.kept HROW.out hg2 (Or.inr (row_ne_iter HROW.out hrg).symm)
      have hB2 := rg_below HB.out hg2 (Nat.le_refl _)
      have hpm := (doneL_step (left := left) (x := x) (A := A) (C := C) (by rw [← e]; exact HN.out) hlk).map fun x => x.f.nm
      rw [← e] at hpm
      have HPM := Lib.hid (show (ns ++ [x.f.nm]).Perm ((doneL (fun z => left z && !z.sameKey (.string x.f.nm)) FS).map fun x => x.f.nm) from
        ((HP.out.append_right [x.f.nm]).trans (List.perm_append_comm)).trans hpm.symm)
      have hnl : ns.length ≤ 64 := by
        have h8 := HP.out.length_eq
        rw [List.length_map] at h8
        have := List.length_filter_le (fun y : Fl => !left (.string y.f.nm)) FS
        have := HLN.out
        unfold doneL at h8
        omega
      obtain ⟨xn, hxn⟩ : ∃ z, x.f.nm = z := ⟨_, rfl⟩
      rw [hxn] at HPM hen ⊢
      have HXN := Lib.hid hxn
      have HR2 := Lib.hid hrg2
      have HLT := Lib.hid hlt
      have HROW2 := Lib.hid hrow2
      have HB2 := Lib.hid hB2
      have hbz := HB2.out.size
      have HXE := Lib.hid (show (Value.string (text xn)) = encStr xn from rfl)
      clear hs2 hpm hrow2 hB2 hrg2 hlt hg2 hat hv hlk hkey hrg e hxn
      go_wp2_with (first
        | (at_builtin; refine wpList_append_own _ rfl _ _ 71 rfl w.heap.size 9 i0 (.string ⟨#[]⟩) 1 16 Tryz.underlying71 hi hz0 hz1 hz2 rfl (by decide) _ _ _ rfl (World.ownsRow.alloc HROW2.out _) ⟨w2.heap.size, 0, none⟩ 1 1 [encStr xn] rfl rfl (cell_one_new _ _ _) (by simp [Value.oneCell', encStr]) (by unfold maxLen at *; omega) (by omega) (by simp; omega) ?_; intro v' w3 hown' hg3 hnil3; have HO3 := Lib.hid hown'; have HG3 := Lib.hid hg3; clear hown' hg3 hnil3)
        | go_in)
      try go_frame
      have hrg3 := (HR2.out.alloc _).kept HG3.out (row_ne_low HROW2.out HBL.out) (row_ne_iter HROW2.out HR2.out)
      have HR3 := Lib.hid hrg3
      clear hrg3 hbz
      go_roundw
      case rel =>
        refine ⟨_, cnt2, ns ++ [xn], HR3.out, by unfold OwnT; simpa using HO3.out, by rw [HXN.out]; exact HPM.out, ?_⟩
        exact (HB2.out.alloc (by have := HB2.out.size; omega) _).grown HG3.out (by have := HB2.out.size; simp; omega) (fun j hj => (HROW2.out.lt j hj).1)
      case measure => rw [HR3.out.left_eq, HRG.out.left_eq]; exact HLT.out
end Go.Proofs.YtioeimkaljmffaaGreatDoor
end

section
namespace Go.Proofs.YtioeimkaljmffaaGreatDoor
open Go.RowKit Go Go.Sort Go.Maps Go.WideMaps
set_option linter.unusedVariables false
set_option maxRecDepth 20000

/-- An act that came in. -/
structure Dc where
  kd : Int
  nm : List UInt8
  v : Value
  l : List UInt8
  n : Int
  kp : Int
def Dc.zero : Dc := ⟨0, [], .slice none 0 0, [], 0, 0⟩
def Dc.arr (a : Dc) : Array Value := #[.int .i64 a.kd, .string (text a.nm), a.v, .int .i64 a.n, .int .i64 a.kp]
end Go.Proofs.YtioeimkaljmffaaGreatDoor
end

section
namespace Go.Proofs.YtioeimkaljmffaaGreatDoor
open Go.RowKit Go Go.Sort Go.Deep
set_option linter.unusedVariables false
set_option maxRecDepth 20000

/-- Acts that lie in memory, each with its bytes. -/
structure Dcs (w : World) (a : Option Addr) (n cap : Nat) (L : List Dc) : Prop where
  len : L.length = n
  le : n ≤ cap
  max : cap ≤ 9223372036854775807
  adr : cap = 0 ∨ ∃ b off, a = some ⟨b, off, none⟩ ∧ ∀ i, i < n → ∀ j u, (L.getD i Dc.zero).arr[j]? = some u → w.cell? ⟨b, off + i * 5 + j, none⟩ = some u
  dat : ∀ i, i < n → ∃ x c, (L.getD i Dc.zero).v = .slice x (L.getD i Dc.zero).l.length c ∧ Bys w x (L.getD i Dc.zero).l.length c (L.getD i Dc.zero).l ∧ (L.getD i Dc.zero).nm.length ≤ 9223372036854775807 ∧ (-9223372036854775808 ≤ (L.getD i Dc.zero).n ∧ (L.getD i Dc.zero).n ≤ 9223372036854775807)
theorem Dcs.below {w w' : World} {a : Option Addr} {n cap : Nat} {L : List Dc} (h : Dcs w a n cap L) (hb : Below w.heap.size w w') : Dcs w' a n cap L := by
  refine ⟨h.len, h.le, h.max, ?_, fun i hi => by obtain ⟨x, c, e, hy, hr⟩ := h.dat i hi; exact ⟨x, c, e, hy.below hb, hr⟩⟩
  rcases h.adr with h4 | ⟨b, off, rfl, hc⟩
  · exact .inl h4
  · exact .inr ⟨b, off, rfl, fun i hi j u hj => (hb.cell (World.block_lt_of_cell? w _ (hc i hi j u hj))).trans (hc i hi j u hj)⟩
end Go.Proofs.YtioeimkaljmffaaGreatDoor
end

section
namespace Go.Proofs.YtioeimkaljmffaaGreatDoor
open Go.RowKit Go Go.Sort Go.Maps Go.WideMaps
set_option linter.unusedVariables false
set_option maxRecDepth 20000

/-- Texts that lie in memory. -/
def Tx (w : World) (v : Value) (L : List (List UInt8)) : Prop := ∃ a cap, v = .slice a L.length cap ∧ L.length ≤ cap ∧ cap ≤ 9223372036854775807 ∧ (cap = 0 ∨ ∃ b, a = some ⟨b, 0, none⟩ ∧ ∀ i, i < L.length → w.cell? ⟨b, i, none⟩ = some (.string (text (L.getD i []))))
theorem OwnT.tx {w : World} {B : Nat} {v : Value} {L : List (List UInt8)} (h : OwnT w B v L) : Tx w v L := by
  rcases h.2 with ⟨rfl, hz⟩ | ⟨g, cap, cur, rfl, hbase, hb, h1, h2, h3, h4⟩
  · exact ⟨none, 0, by rw [hz], by omega, by omega, .inl rfl⟩
  · refine ⟨_, cap, rfl, h1, by unfold maxLen at h2; omega, .inr ⟨g, rfl, fun i hi => ?_⟩⟩
    rw [cell_of_row w g i cur 9 (0, 0) hb]
    have h5 : (cur.toList.take (L.length * 1))[i]? = (L.map encStr)[i]? := by rw [h4]
    rw [Nat.mul_one, List.getElem?_take_of_lt hi] at h5
    rw [← Array.getElem?_toList, h5, List.getElem?_map, List.getElem?_eq_getElem hi, List.getD_eq_getElem?_getD, List.getElem?_eq_getElem hi]
    rfl
theorem Tx.below {w w' : World} {v : Value} {L : List (List UInt8)} (h : Tx w v L) (hb : Below w.heap.size w w') : Tx w' v L := by
  obtain ⟨a, cap, e, h1, h2, h3⟩ := h
  refine ⟨a, cap, e, h1, h2, h3.imp_right ?_⟩
  rintro ⟨b, rfl, hc⟩
  exact ⟨b, rfl, fun i hi => (hb.cell (World.block_lt_of_cell? w _ (hc i hi))).trans (hc i hi)⟩
end Go.Proofs.YtioeimkaljmffaaGreatDoor
end

section
namespace Go.Proofs.YtioeimkaljmffaaGreatDoor
open Go.RowKit Go Go.Sort Go.Maps Go.WideMaps
set_option linter.unusedVariables false
set_option maxRecDepth 20000

/-- The numbers of the names that are segments'. -/
def numsF (L : List (List UInt8)) : List Int := L.flatMap fun l => if 0 < (readW 119 l) then [readW 119 l] else []
theorem numsF_snoc (L : List (List UInt8)) (l : List UInt8) : numsF (L ++ [l]) = numsF L ++ (if 0 < (readW 119 l) then [readW 119 l] else []) := by simp [numsF]
theorem numsF_len (L : List (List UInt8)) : (numsF L).length ≤ L.length := by
  induction L with
  | nil => simp [numsF]
  | cons a L ih =>
    rw [show numsF (a :: L) = (if 0 < (readW 119 a) then [readW 119 a] else []) ++ numsF L from rfl, List.length_append, List.length_cons]
    split
    · simp only [List.length_cons, List.length_nil]; omega
    · simp only [List.length_nil]; omega
/-- What find tells. -/
def FindPost (q : Nat) (fl : Int) (L : List (List UInt8)) (w : World) (e : Ending) (w' : World) : Prop := ∃ v, e = .returned (.agg #[.pointer (some ⟨q, 0, none⟩), .int .i64 fl, v, .int .i64 0, .int .i64 1, .int .i64 0]) ∧ OwnL 1 3 iarr w' w.heap.size v (numsF L) ∧ Below w.heap.size w w'
theorem sizePl (a b c d e f : Value) : (Tryz.prog.info? 84).map (·.size) = some (#[a, b, c, d, e, f] : Array Value).size := by kernel_rfl
theorem run_results_cellW {P : Program} {fn : Func} {p : Tmp} {ty : TypeId} (h : fn.results = #[.cell p ty]) (tmps : Array Value) (w : World) (g : Nat) (t : TypeId) (cs : Array Value) (fr : Nat × Nat) (d : TypeDesc)
    (hp : tmps.getD p undef = .pointer (some ⟨g, 0, none⟩)) (hg : w.heap[g]? = some (.cells cs t fr))
    (hu : P.underlying ty = some d) (hd : (match d with | .struct _ | .array _ _ => true | _ => false) = true) (hi : (P.info? ty).map (·.size) = some cs.size) :
    (results fn tmps).run P w = .ok (.agg cs) w := by
  have hp' : tmps[p]?.getD undef = .pointer (some ⟨g, 0, none⟩) := by simpa using hp
  simp [results, h, hp', asAddr, run_loadVar_row w g t ty cs fr d hg hu hd hi]
/-- Six cells stored, one by one. -/
theorem six_set (w : World) (R : Nat) (a b c d e f : Value) (cs : Array Value) (hcs : cs.size = 6) (h : w.heap[R]? = some (.cells cs 84 (0, 0))) : ((((((w.setCell ⟨R, 0, none⟩ a).setCell ⟨R, 1, none⟩ b).setCell ⟨R, 2, none⟩ c).setCell ⟨R, 3, none⟩ d).setCell ⟨R, 4, none⟩ e).setCell ⟨R, 5, none⟩ f).heap[R]? = some (.cells #[a, b, c, d, e, f] 84 (0, 0)) := by
  rw [heap_setCell_same _ R 5 _ 84 _ (heap_setCell_same _ R 4 _ 84 _ (heap_setCell_same _ R 3 _ 84 _ (heap_setCell_same _ R 2 _ 84 _ (heap_setCell_same _ R 1 _ 84 _ (heap_setCell_same w R 0 _ 84 _ h)))))]
  obtain ⟨l⟩ := cs
  match l, hcs with
  | [x0, x1, x2, x3, x4, x5], _ => rfl
/-- A place in a block of its own while names are read. -/
def PlB (W : World) (P q : Nat) (fl : Int) (v : Value) : Prop := W.heap[P]? = some (.cells #[.pointer (some ⟨q, 0, none⟩), .int .i64 fl, v, .int .i64 0, .int .i64 1, .int .i64 0] 84 (0, 0))
set_option maxRecDepth 100000 in
set_option maxHeartbeats 12800000 in
theorem wfind_c {w : World} {q : Nat} {st : Ds} {F : Nat → Prop} (hk : Dk w q st F) (hT : TabE w) : Calls Tryz.prog 45 #[.pointer (some ⟨q, 0, none⟩)] w (FindPost q st.fails (st.F.map Fi.nm) w) := by
  have HOK := Lib.hid hk.ok
  have HFA := Lib.hid (fun (W : World) (hb : Below w.heap.size w W) => (show Calls Tryz.prog 50 #[.pointer (some ⟨q, 0, none⟩)] W (fun e W' => e = .returned (.int .i64 st.fails) ∧ W = W') from by
    obtain ⟨m, pv, FS, h1, -⟩ := hk.below hb
    exact dfails_c h1))
  have HNA := Lib.hid (fun (W : World) (hb : Below w.heap.size w W) => (show Calls Tryz.prog 33 #[.pointer (some ⟨q, 0, none⟩)] W (NamesPost (st.F.map Fi.nm) W) from by
    obtain ⟨m, pv, FS, h1, -⟩ := hk.below hb
    exact dnames_c h1))
  have HTE := Lib.hid hT
  obtain ⟨fl, hfl⟩ : ∃ z, st.fails = z := ⟨_, rfl⟩
  rw [hfl] at HFA ⊢
  have HLN := Lib.hid (show ∀ i, ((st.F.map Fi.nm).getD i []).length ≤ 24 from fun i => by
    rw [List.getD_eq_getElem?_getD]
    cases h : (st.F.map Fi.nm)[i]? with
    | none => simp
    | some x =>
      obtain ⟨f, hf, rfl⟩ := List.mem_map.1 (List.mem_of_getElem? h)
      have := (HOK.out.each f hf).2.2
      simp
      omega)
  have HL64 := Lib.hid (show (st.F.map Fi.nm).length ≤ 64 from by rw [List.length_map]; exact HOK.out.len)
  obtain ⟨L, hL⟩ : ∃ z, st.F.map Fi.nm = z := ⟨_, rfl⟩
  rw [hL] at HNA HLN HL64 ⊢
  clear hk hT hfl hL
  have hb0 := alloc_below w (.cells #[.pointer none, .int .i64 0, .slice none 0 0, .int .i64 0, .int .i64 0, .int .i64 0] 84)
  have hr0 := heap_alloc_new w (.cells #[.pointer none, .int .i64 0, .slice none 0 0, .int .i64 0, .int .i64 0, .int .i64 0] 84)
  go_enter Tryz.func45, Tryz.ntmps45
  go_upto_region 1 with (fail)
  obtain ⟨R, hR⟩ : ∃ z, w.heap.size = z := ⟨_, rfl⟩
  have HRE := Lib.hid hR
  rw [hR] at hr0 ⊢
  have HB0 := Lib.hid hb0
  have HR0 := Lib.hid hr0
  clear hb0 hr0 hR
  generalize w.alloc (.cells #[.pointer none, .int .i64 0, .slice none 0 0, .int .i64 0, .int .i64 0, .int .i64 0] 84) = w1 at *
  go_upto_region 2 with (go_at_call 50; (with_reducible refine (HFA.out _ HB0.out).mono ?_); rintro e2 w2 ⟨rfl, rfl⟩)
  have hb1 := alloc_below w1 (.cells #[.pointer (some ⟨q, 0, none⟩), .int .i64 fl, .slice none 0 0, .int .i64 0, .int .i64 1, .int .i64 0] 84)
  have HB1 := Lib.hid (HB0.out.trans (hb1.mono HB0.out.size))
  have HR1 := Lib.hid ((hb1.block R (Array.getElem?_eq_some_iff.1 HR0.out).1).trans HR0.out)
  have HP1 := Lib.hid (show PlB (w1.alloc (.cells #[.pointer (some ⟨q, 0, none⟩), .int .i64 fl, .slice none 0 0, .int .i64 0, .int .i64 1, .int .i64 0] 84)) w1.heap.size q fl (.slice none 0 0) from heap_alloc_new w1 _)
  obtain ⟨P, hP⟩ : ∃ z, w1.heap.size = z := ⟨_, rfl⟩
  have HRP := Lib.hid (show R < P from by rw [← hP]; exact (Array.getElem?_eq_some_iff.1 HR0.out).1)
  rw [hP] at HP1 ⊢
  clear hb1 hP
  generalize w1.alloc (.cells #[.pointer (some ⟨q, 0, none⟩), .int .i64 fl, .slice none 0 0, .int .i64 0, .int .i64 1, .int .i64 0] 84) = w2 at *
  go_upto_region 3 with (go_at_call 33; (with_reducible refine (HNA.out _ HB1.out).mono ?_); rintro e3 w3 ⟨v3, rfl, ho3, hb3⟩; have htx := ho3.tx; obtain ⟨na, nc, hv3, hnl, hnm, hnat⟩ := htx; subst hv3; have HB3 := Lib.hid (HB1.out.trans (hb3.mono HB1.out.size)); have HR3 := Lib.hid ((hb3.block R (Array.getElem?_eq_some_iff.1 HR1.out).1).trans HR1.out); have HP3 := Lib.hid (show PlB w3 P q fl (.slice none 0 0) from (hb3.block P (Array.getElem?_eq_some_iff.1 HP1.out).1).trans HP1.out); clear ho3 hb3)
  have HNAT := Lib.hid hnat
  obtain ⟨n, hn⟩ : ∃ z, L.length = z := ⟨_, rfl⟩
  have HNN := Lib.hid hn
  rw [hn] at hnl HNAT HL64 ⊢
  have HN64 := HL64.out
  clear hnat hn
  have HP3L := Lib.hid (show P < w3.heap.size from (Array.getElem?_eq_some_iff.1 HP3.out).1)
  go_loopw [14] (fun i wr => ∃ (j : Nat) (v : Value), j ≤ n ∧ i = .int .i64 (j : Int) ∧ PlB wr P q fl v ∧ OwnL 1 3 iarr wr w3.heap.size v (numsF (L.take j)) ∧ Trn (fun k => k = P) w3 wr) (fun i _ => n - (intOf i).toNat)
  case atStart => exact ⟨0, _, by omega, rfl, HP3.out, World.ownsRow_nil _ _ _ _, Trn.refl⟩
  case round =>
    obtain ⟨j, v, hj, rfl, hp, hrow, htr⟩ := hrel
    have HP := Lib.hid hp
    have HROW := Lib.hid hrow
    have HTR := Lib.hid htr
    have HBW := Lib.hid (HB3.out.trans (htr.base (B := w.heap.size) HB3.out.size (fun k hk => by have h1 := HRP.out; have h2 := HRE.out; omega)))
    clear hp hrow htr
    by_cases hlt : j < n
    · have hji : (j : Int) < (n : Int) := by omega
      have hjc : (j : Int) < (nc : Int) := by omega
      obtain ⟨bn, rfl, hnat⟩ : ∃ b, na = some ⟨b, 0, none⟩ ∧ ∀ i, i < n → w3.cell? ⟨b, i, none⟩ = some (.string (text (L.getD i []))) := by
        rcases HNAT.out with h | ⟨b, h1, h2⟩
        · omega
        · exact ⟨b, h1, fun i hi => h2 i (by have := HNN.out; omega)⟩
      have hbnP : bn ≠ P := fun e => by
        have h1 := hnat j hlt
        rw [e, cell_of_row w3 P j _ _ (0, 0) HP3.out] at h1
        rcases j with _ | _ | _ | _ | _ | _ | j <;> simp at h1
      have d0 : wr.cell? ⟨bn, j, none⟩ = some (.string (text (L.getD j []))) := by
        have h1 := hnat j hlt
        have hbk := HTR.out.block bn (World.block_lt_of_cell? w3 _ h1) (fun e => hbnP e)
        simpa only [World.cell?, hbk] using h1
      have htk : L.take (j + 1) = L.take j ++ [L.getD j []] := by
        have hjl : j < L.length := by have := HNN.out; omega
        rw [List.take_add_one, List.getElem?_eq_getElem hjl, List.getD_eq_getElem?_getD, List.getElem?_eq_getElem hjl]
        rfl
      have HLI := Lib.hid (HLN.out j)
      have HNW := Lib.hid (fun (W : World) (hb : Below w.heap.size w W) => wnumber_c (L.getD j []) (by have := HLI.out; omega) (HTE.out.grown hb))
      have HST := Lib.hid (numsF_snoc (L.take j) (L.getD j []))
      rw [← htk] at HST
      obtain ⟨nm, hnm9⟩ : ∃ z, L.getD j [] = z := ⟨_, rfl⟩
      rw [hnm9] at d0 HNW HST
      obtain ⟨tx, htx⟩ : ∃ z, text nm = z := ⟨_, rfl⟩
      rw [htx] at d0 HNW
      obtain ⟨x, hx⟩ : ∃ z, readW 119 nm = z := ⟨_, rfl⟩
      rw [hx] at HNW HST
      have HJ := Lib.hid hlt
      have HLT2 := Lib.hid (show (numsF (L.take j)).length + 1 ≤ 2000000 from by have := numsF_len (L.take j); rw [List.length_take] at this; omega)
      clear hnat hbnP htk hnm9 htx hx hlt
      go_upto_region 6 with (go_at_call 34; (with_reducible refine (HNW.out _ HBW.out).mono ?_); rintro e6 w6 ⟨rfl, hb6⟩; have HB6 := Lib.hid hb6; clear hb6)
      clear d0
      have HP6 := Lib.hid (show PlB w6 P q fl v from (HB6.out.block P (Array.getElem?_eq_some_iff.1 HP.out).1).trans HP.out)
      have HROW6 := Lib.hid (HROW.out.kept HB6.out)
      have HTR6 := Lib.hid (HTR.out.then (Trn.of HB6.out))
      by_cases hx0 : 0 < x
      · rw [if_pos hx0] at HST
        obtain ⟨va, vc, hvv, -⟩ := OwnL.ls (z := (0 : Int)) iarr_size HROW6.out
        obtain ⟨vm, hvm⟩ : ∃ z, (numsF (L.take j)).length = z := ⟨_, rfl⟩
        rw [hvm] at hvv
        subst hvv
        have p2 : w6.cell? ⟨P, 2, none⟩ = some (.slice va vm vc) := by rw [cell_of_row w6 P 2 _ _ (0, 0) HP6.out]; rfl
        have HAB := Lib.hid (alloc_below w6 (.cells #[.int .i64 x] 3))
        have HOA := Lib.hid (HROW6.out.kept HAB.out)
        have HXK := Lib.hid (heap_alloc_new w6 (.cells #[.int .i64 x] 3))
        have HPA := Lib.hid (show PlB (w6.alloc (.cells #[.int .i64 x] 3)) P q fl (.slice va vm vc) from (HAB.out.block P (Array.getElem?_eq_some_iff.1 HP6.out).1).trans HP6.out)
        have HTA := Lib.hid (HTR6.out.then (Trn.of HAB.out))
        clear hvm
        go_wp2_with (at_builtin; refine wpList_append_int rfl _ _ rfl rfl HOA.out x rfl HXK.out HLT2.out HTA.out.size ?_; intro v9 w9 ho9 hg9 ha9; obtain ⟨wa, wc, hw9, -⟩ := OwnL.ls (z := (0 : Int)) iarr_size ho9; obtain ⟨wm, hwm⟩ : ∃ z, (numsF (L.take j) ++ [x]).length = z := ⟨_, rfl⟩; rw [hwm] at hw9; subst hw9; have hne9 : ∀ k, (Value.slice va vm vc).ownBlock = some k → k ≠ P := (fun k hk e => by have := (HOA.out.lt k hk).1; have := HP3L.out; omega); have HP9 := Lib.hid (show PlB w9 P q fl (.slice va vm vc) from (hg9.block P (Array.getElem?_eq_some_iff.1 HPA.out).1 (fun e => hne9 P e.symm rfl)).trans HPA.out); have HO9 := Lib.hid ho9; have HT9 := Lib.hid (show Trn (fun k => k = P) w3 w9 from HTA.out.trans (Trn.grown (F := fun k => (Value.slice va vm vc).ownBlock = some k) hg9 (fun k hk => hk)) (fun k hk => .inr (HOA.out.lt k hk).1)); have q2 : w9.cell? ⟨P, 2, none⟩ = some (.slice va vm vc) := (by rw [cell_of_row w9 P 2 _ _ (0, 0) HP9.out]; rfl); have f2 := frozen_of_row w9 P 2 _ _ HP9.out; clear ho9 hg9 ha9 hne9 hwm)
        go_roundw
        case rel =>
          refine ⟨j + 1, .slice wa wm wc, HJ.out, by go_num, ?_, ?_, HT9.out.set (.inl rfl)⟩
          · unfold PlB
            rw [heap_setCell_same w9 P 2 _ _ _ HP9.out]
            rfl
          · rw [HST.out]
            refine HO9.out.of_block (fun k hk => heap_setCell_other w9 ⟨P, 2, none⟩ k _ (fun e => ?_))
            have h1 := (HO9.out.lt k hk).1
            have h2 := HP3L.out
            have h3 : k = P := e
            omega
        case measure => simp [intOf]; have := HJ.out; omega
      · rw [if_neg hx0, List.append_nil] at HST
        have hx1 : ¬ (0 : Int) < x := hx0
        go_wp2
        go_roundw
        case rel => exact ⟨j + 1, v, HJ.out, by go_num, HP6.out, by rw [HST.out]; exact HROW6.out, HTR6.out⟩
        case measure => simp [intOf]; have := HJ.out; omega
    · obtain rfl : j = n := by omega
      have hfull : L.take j = L := List.take_of_length_le (by have := HNN.out; omega)
      rw [hfull] at HROW
      obtain ⟨va, vc, hvv, -⟩ := OwnL.ls (z := (0 : Int)) iarr_size HROW.out
      obtain ⟨vm, hvm⟩ : ∃ z, (numsF L).length = z := ⟨_, rfl⟩
      rw [hvm] at hvv
      subst hvv
      have hpp := HP.out
      have d0 : wr.cell? ⟨P, 0, none⟩ = some (.pointer (some ⟨q, 0, none⟩)) := by rw [cell_of_row wr P 0 _ _ (0, 0) hpp]; rfl
      have d1 : wr.cell? ⟨P, 1, none⟩ = some (.int .i64 fl) := by rw [cell_of_row wr P 1 _ _ (0, 0) hpp]; rfl
      have d2 : wr.cell? ⟨P, 2, none⟩ = some (.slice va vm vc) := by rw [cell_of_row wr P 2 _ _ (0, 0) hpp]; rfl
      have d3 : wr.cell? ⟨P, 3, none⟩ = some (.int .i64 0) := by rw [cell_of_row wr P 3 _ _ (0, 0) hpp]; rfl
      have d4 : wr.cell? ⟨P, 4, none⟩ = some (.int .i64 1) := by rw [cell_of_row wr P 4 _ _ (0, 0) hpp]; rfl
      have d5 : wr.cell? ⟨P, 5, none⟩ = some (.int .i64 0) := by rw [cell_of_row wr P 5 _ _ (0, 0) hpp]; rfl
      have hrr := HTR.out.heap HR3.out (fun e => by have h1 := HRP.out; omega)
      have HRR := Lib.hid hrr
      have r0 : wr.cell? ⟨R, 0, none⟩ = some (.pointer none) := by rw [cell_of_row wr R 0 _ _ (0, 0) hrr]; rfl
      have r1 : wr.cell? ⟨R, 1, none⟩ = some (.int .i64 0) := by rw [cell_of_row wr R 1 _ _ (0, 0) hrr]; rfl
      have r2 : wr.cell? ⟨R, 2, none⟩ = some (.slice none 0 0) := by rw [cell_of_row wr R 2 _ _ (0, 0) hrr]; rfl
      have r3 : wr.cell? ⟨R, 3, none⟩ = some (.int .i64 0) := by rw [cell_of_row wr R 3 _ _ (0, 0) hrr]; rfl
      have r4 : wr.cell? ⟨R, 4, none⟩ = some (.int .i64 0) := by rw [cell_of_row wr R 4 _ _ (0, 0) hrr]; rfl
      have r5 : wr.cell? ⟨R, 5, none⟩ = some (.int .i64 0) := by rw [cell_of_row wr R 5 _ _ (0, 0) hrr]; rfl
      have f0 := frozen_of_row wr R 0 _ _ hrr
      have f1 := frozen_of_row wr R 1 _ _ hrr
      have f2 := frozen_of_row wr R 2 _ _ hrr
      have f3 := frozen_of_row wr R 3 _ _ hrr
      have f4 := frozen_of_row wr R 4 _ _ hrr
      have f5 := frozen_of_row wr R 5 _ _ hrr
      clear hpp hrr hfull hvm
      go_wp2
      refine bodyPost_ret (run_results_cellW rfl _ _ R 84 _ (0, 0) _ rfl (six_set wr R _ _ _ _ _ _ _ rfl HRR.out) Tryz.underlying84 rfl (sizePl _ _ _ _ _ _)) rfl ⟨.slice va vm vc, by rfl, ?_, ?_⟩
      · refine (HROW.out.mono (Nat.le_trans HB3.out.size (Nat.le_refl _))).of_block (fun k hk => ?_)
        have hkR : k ≠ R := fun e => by have h1 := (HROW.out.lt k hk).1; have h2 := HRP.out; have h3 := HP3L.out; omega
        rw [heap_setCell_other _ ⟨R, 5, none⟩ k _ hkR, heap_setCell_other _ ⟨R, 4, none⟩ k _ hkR, heap_setCell_other _ ⟨R, 3, none⟩ k _ hkR, heap_setCell_other _ ⟨R, 2, none⟩ k _ hkR, heap_setCell_other _ ⟨R, 1, none⟩ k _ hkR, heap_setCell_other _ ⟨R, 0, none⟩ k _ hkR]
      · exact (((((HBW.out.setCell (p := ⟨R, 0, none⟩) (Nat.le_of_eq HRE.out) _).setCell (p := ⟨R, 1, none⟩) (Nat.le_of_eq HRE.out) _).setCell (p := ⟨R, 2, none⟩) (Nat.le_of_eq HRE.out) _).setCell (p := ⟨R, 3, none⟩) (Nat.le_of_eq HRE.out) _).setCell (p := ⟨R, 4, none⟩) (Nat.le_of_eq HRE.out) _).setCell (p := ⟨R, 5, none⟩) (Nat.le_of_eq HRE.out) _
end Go.Proofs.YtioeimkaljmffaaGreatDoor
end

section
namespace Go.Proofs.YtioeimkaljmffaaGreatDoor
open Go.RowKit Go Go.Sort Go.Maps Go.WideMaps
set_option linter.unusedVariables false
set_option maxRecDepth 20000

set_option maxHeartbeats 1600000 in
theorem lread_none {w : World} {p q : Nat} {bv : Value} {g : Lg} (h : LogIn w p q bv g) (hB : g.B = []) : Calls Tryz.prog 46 #[.pointer (some ⟨p, 0, none⟩)] w (fun e w' => e = .returned (.tuple #[.slice none 0 0, .bool false, .int .i64 0]) ∧ w = w') := by
  obtain ⟨a, cap, hv, -, -, -⟩ := h.place
  rw [hB] at hv
  have c2 := h.cs.2.2.1
  rw [hv] at c2
  simp only [List.length_nil] at c2
  clear h hv hB
  go_enter Tryz.func46, Tryz.ntmps46
  go_wp2
  go_step3
  go_wp2
  go_step3
  go_wp2
  go_loopw [18, 5, 6] (fun i r t wr => i = .int .i64 0 ∧ r = .slice none 0 0 ∧ t = .bool false ∧ wr = w) (fun i _ _ _ => 0)
  case atStart => exact ⟨rfl, rfl, rfl, rfl⟩
  case round =>
    obtain ⟨rfl, rfl, rfl, rfl⟩ := hrel
    go_wp2
    try rw [Exit.noGoto_ret]
    go_ret3
    exact ⟨rfl, rfl⟩
set_option maxHeartbeats 1600000 in
theorem lsettle_none {w1 W : World} {F0 G0 : Nat → Prop} {q p : Nat} {st : Ds} {g : Lg} (h : Lw w1 F0 G0 q p st g W) (hB : g.B = []) (hT : TabI W) (h2 : 0 ≤ g.next) (h3 : g.next ≤ 2000000000000) (torn : Bool) :
    Calls Tryz.prog 47 #[.pointer (some ⟨p, 0, none⟩), .bool torn] W (fun e W' => e = .returned (.int .i64 (beginL st g).1) ∧ Lw w1 F0 G0 q p (beginL st g).2.1 (beginL st g).2.2 W') := by
  have HBG := Lib.hid (lbegin_p h hT h2 h3 (by rw [hB]; simp))
  obtain ⟨bv, hl⟩ := h.cs
  obtain ⟨a, cap, hv, -, -, -⟩ := hl.place
  rw [hB] at hv
  have c2 := hl.cs.2.2.1
  rw [hv] at c2
  simp only [List.length_nil] at c2
  obtain ⟨⟨r1, s1, g1⟩, hr⟩ : ∃ z, beginL st g = z := ⟨_, rfl⟩
  rw [hr] at HBG ⊢
  simp only at HBG ⊢
  clear h hl hv hB hT h2 h3 hr
  go_enter Tryz.func47, Tryz.ntmps47
  go_wp2_with (go_at_call 93; (with_reducible refine HBG.out.mono ?_); rintro e2 w2 ⟨rfl, hl2⟩; have HL2 := Lib.hid hl2; clear hl2)
  go_ret
  exact ⟨rfl, HL2.out⟩
/-- A log that nobody has read yet. -/
def lg0 (st : Ds) (B : List Int) (size : Int) : Lg := ⟨B, 0, 1, 0, size, st.fails⟩
set_option maxRecDepth 100000 in
set_option maxHeartbeats 6400000 in
theorem wopen_none {w0 W : World} {q : Nat} {st : Ds} {F : Nat → Prop} (hd : Dk W q st F) (hF : ∀ k, F k → w0.heap.size ≤ k) (hb0 : Below w0.heap.size w0 W) (hT : TabE w0) (hrd : (st.read []).2 = 152) (hno : numsF (st.F.map Fi.nm) = []) (size : Int) (h1 : 1 ≤ size) (h2 : size ≤ 1048576)
    {s2 : Ds} {g2 : Lg} (hbg : beginL st (lg0 st [] size) = (0, s2, g2)) :
    Calls Tryz.prog 14 #[.pointer (some ⟨q, 0, none⟩), .int .i64 size] W (fun e W' => ∃ p, e = .returned (.tuple #[.pointer (some ⟨p, 0, none⟩), .slice none 0 0, .int .i64 0]) ∧ Wg w0 q p s2 g2 W') := by
  have HD := Lib.hid hd
  have HB0 := Lib.hid hb0
  have HF := Lib.hid hF
  have HTE := Lib.hid hT
  have HRD := Lib.hid (dread_c hd [] (by simp))
  rw [hrd] at HRD
  rw [show text [] = ⟨#[]⟩ from rfl] at HRD
  have HFI := Lib.hid (fun (W' : World) (hb : Below W.heap.size W W') => (show Calls Tryz.prog 45 #[.pointer (some ⟨q, 0, none⟩)] W' (FindPost q st.fails (st.F.map Fi.nm) W') from wfind_c (wdk_keep hd fun k hk => hb.block k (wdk_lt hd hk)) (hT.grown (hb0.trans (hb.mono hb0.size)))))
  have HNO := Lib.hid hno
  have HBG := Lib.hid hbg
  have n1 : ¬ size < 1 := by omega
  have n2 : ¬ 1048576 < size := by omega
  clear hd hF hb0 hT hrd hno hbg h1 h2
  go_enter Tryz.func14, Tryz.ntmps14
  go_upto_region 7 with (first
    | (go_at_call 32; (with_reducible refine HRD.out.mono ?_); rintro e1 w1 ⟨rv, rfl, hb1, -⟩; have HB1 := Lib.hid hb1; clear hb1)
    | (go_at_call 45; (with_reducible refine (HFI.out _ HB1.out).mono ?_); rintro e2 w2 ⟨fv, rfl, ho2, hb2⟩; have HO2 := Lib.hid ho2; have HB12 := Lib.hid hb2; have HB2 := Lib.hid (HB1.out.trans (hb2.mono HB1.out.size)); clear ho2 hb2))
  have hal := alloc_below w2 (.cells #[.pointer (some ⟨q, 0, none⟩), .int .i64 st.fails, fv, .int .i64 0, .int .i64 1, .int .i64 0, .int .i64 size] 87)
  have HB3 := Lib.hid (HB2.out.trans (hal.mono HB2.out.size))
  have HLI := Lib.hid (show LogIn (w2.alloc (.cells #[.pointer (some ⟨q, 0, none⟩), .int .i64 st.fails, fv, .int .i64 0, .int .i64 1, .int .i64 0, .int .i64 size] 87)) w2.heap.size q fv (lg0 st [] size) from ⟨heap_alloc_new w2 _, by
    have := HO2.out.kept hal
    rw [HNO.out] at this
    exact this.mono (Nat.zero_le _)⟩)
  have HGS := Lib.hid (show (∀ k, lgfoot w2.heap.size fv k → W.heap.size ≤ k) from fun k hk => by
    rcases hk with rfl | hk
    · exact HB2.out.size
    · exact Nat.le_trans HB1.out.size (HO2.out.lt k hk).1)
  obtain ⟨p, hp⟩ : ∃ z, w2.heap.size = z := ⟨_, rfl⟩
  rw [hp] at HLI HGS ⊢
  clear hal hp
  generalize w2.alloc (.cells #[.pointer (some ⟨q, 0, none⟩), .int .i64 st.fails, fv, .int .i64 0, .int .i64 1, .int .i64 0, .int .i64 size] 87) = w3 at *
  have HLW := Lib.hid (Lw.start (wdk_keep HD.out fun k hk => HB3.out.block k (wdk_lt HD.out hk)) ⟨fv, HLI.out, rfl⟩ (fun k hk hg => by have h1 := wdk_lt HD.out hk; have h2 := HGS.out k hg; omega))
  have HRE := Lib.hid (lread_none HLI.out rfl)
  have HSE := Lib.hid (lsettle_none HLW.out rfl (HTE.out.i.grown (HB0.out.trans (HB3.out.mono HB0.out.size))) (show (0 : Int) ≤ 1 by decide) (show (1 : Int) ≤ 2000000000000 by decide) false)
  rw [HBG.out] at HSE
  simp only at HSE
  go_wp2_with (first
    | (go_at_call 46; (with_reducible refine HRE.out.mono ?_); rintro e4 w4 ⟨rfl, rfl⟩)
    | (go_at_call 47; (with_reducible refine HSE.out.mono ?_); rintro e5 w5 ⟨rfl, hl5⟩; have HL5 := Lib.hid hl5; clear hl5))
  go_ret3
  refine ⟨p, rfl, wg_of HF.out (fun k hk => Nat.le_trans HB0.out.size (HGS.out k hk)) (HB0.out.trans (HB3.out.mono HB0.out.size)) HL5.out⟩
end Go.Proofs.YtioeimkaljmffaaGreatDoor
end

section
namespace Go.Proofs.YtioeimkaljmffaaGreatDoor
open Go.RowKit Go
set_option linter.unusedVariables false
variable {F : Fence} {n : Nat} {P : Program}

/-- What a round tells the iterator. -/
def TellsL {α : Type} (Kp : World → World → Prop) (G : α → Prop) (J Jx : List α → World → Prop) (pre : List α) (x : α) (W : World) (e : Ending) (W' : World) : Prop :=
  (e = .returned (.bool true) ∧ J (pre ++ [x]) W' ∧ Kp W W' ∧ G x) ∨ (e = .returned (.bool false) ∧ Jx (pre ++ [x]) W' ∧ Kp W W')

/-- The iterator's word. -/
def SeqTells {α : Type} (F : Fence) (n : Nat) (P : Program) (g : Nat) (lb : Array Value) (encs : α → Array Value) (Kp : World → World → Prop) (Qx : List α → α → Prop) (G : α → Prop) (S Sp : List α → World → Prop) (w : World) : Prop :=
  ∀ (l : Nat) (J Jx : List α → World → Prop) (W : World), Below w.heap.size w W → AbidesFrom W.heap.size J →
    (∀ pre x W1, J pre W1 → Qx pre x → YieldAt F (n - 1) P l (encs x) W1 (TellsL Kp G J Jx pre x W1)) → J [] W →
    CallsIn F n P g (#[.func (.yield l) #[] #[]] ++ lb) W fun e W' => (∃ v, e = .returned v) ∧ ((∃ xs, S xs W' ∧ J xs W') ∨ (∃ pre, Sp pre W' ∧ Jx pre W'))

/-- How the body of a round may be left. -/
def RoundPost {α : Type} (B : Nat) (Kp : World → World → Prop) (G : α → Prop) (I : List α → World → Prop) (Ix : Code → List α → World → Prop) (pre : List α) (x : α) (W : World) : Exit → Act → World → Prop
  | .normal, _, W' => KeepsFrom B W W' ∧ Kp W W' ∧ G x ∧ I (pre ++ [x]) W'
  | .ret, _, W' => KeepsFrom B W W' ∧ Kp W W' ∧ Ix .ret (pre ++ [x]) W'
  | .exit id, _, W' => KeepsFrom B W W' ∧ Kp W W' ∧ Ix (.exit id) (pre ++ [x]) W'
  | .goto t, _, W' => KeepsFrom B W W' ∧ Kp W W' ∧ Ix (.goto t) (pre ++ [x]) W'
  | .panic _, _, _ => False
  | .outgrown, _, _ => False

theorem wpIn_range_tells {α : Type} {g : Operand} {ps : Array Tmp} {assign body : Code} {Q : Exit → Act → World → Prop} {a : Act} {w : World}
    (hro : F.round = none) (h1 : 1 ≤ n) {gf : Nat} {lb : Array Value} (hg : a.eval g = .func (.func gf) #[] lb) (hFg : F.fn gf) (eg : ∀ args w, (callFunc gf args).run P w = .ok (.enter gf args) w)
    {encs : α → Array Value} {Kp : World → World → Prop} {Qx : List α → α → Prop} {G : α → Prop} {S Sp : List α → World → Prop} (hseq : SeqTells F (n - 1) P gf lb encs Kp Qx G S Sp w)
    (hKt : ∀ {A B C : World}, Kp A B → Kp B C → Kp A C) (hKb : ∀ (W : World) (l : Nat) (o o' : Obj), w.heap.size ≤ l → W.heap[l]? = some o → o.isCells = false → o.isWalk = false → Kp W (W.putObj l o'))
    (hS : OwnFrom w.heap.size S) (hSp : OwnFrom w.heap.size Sp) (hps : ∀ x, (encs x).size = ps.size)
    (I : List α → World → Prop) (Ix : Code → List α → World → Prop) (hI : OwnFrom w.heap.size I) (hIx : ∀ c, OwnFrom w.heap.size (Ix c)) (h0 : I [] w) (Ax : α → Act → World → Prop) (hAx : ∀ x a', OwnFrom w.heap.size (fun (_ : Unit) W => Ax x a' W))
    (hassign : ∀ (l : Nat) (pre : List α) (x : α) (W : World) (K : Act → World → Prop), I pre W → Qx pre x → (∀ a' W', KeepsFrom w.heap.size W W' → Kp W W' → I pre W' → Ax x a' W' → K a' W') →
      assign.wpIn (F.inRound l) (n - 1 - 1) P (Exit.then K (fun _ _ _ => False)) { tmps := (ps.zip (encs x)).foldl (fun t (p, v) => t.setIfInBounds p v) a.tmps, defers := [] } W)
    (hbody : ∀ (l : Nat) (pre : List α) (x : α) (a' : Act) (W : World), I pre W → Ax x a' W → Qx pre x → body.wpIn (F.inRound l) (n - 1 - 1) P (RoundPost w.heap.size Kp G I Ix pre x W) a' W)
    (hdone : ∀ (D : Nat) (xs : List α) (W : World), w.heap.size ≤ D → S xs W → I xs W → W.heap[D]? = some (.deferred (some [])) → Q .normal { a with defers := { target := .collected D, args := #[] } :: a.defers } W)
    (hstop : ∀ (D : Nat) (c : Code) (pre : List α) (W : World), w.heap.size ≤ D → Sp pre W → Ix c pre W → W.heap[D]? = some (.deferred (some [])) → c.wpIn F n P Q { a with defers := { target := .collected D, args := #[] } :: a.defers } W) :
    (Code.rangeFunc g ps assign body).wpIn F n P Q a w := by
  refine wpIn_rangeFunc fun fn hfn => ?_
  rw [hro]
  obtain ⟨rec, hrec⟩ : ∃ rec : LoopState → Option Code → Loop, rec = fun st pe => { state := st, pending := pe, fn, tmps := a.tmps, params := ps, assign, body, defers := w.heap.size } := ⟨_, rfl⟩
  obtain ⟨W1, hW1⟩ : ∃ W1, (w.alloc (.deferred (some []))).alloc (.loop (rec .ready none)) = W1 := ⟨_, rfl⟩
  have hL1 : W1.heap[w.heap.size + 1]? = some (.loop (rec .ready none)) := by
    rw [← hW1]; have := World.alloc_heap_new (w.alloc (.deferred (some []))) (.loop (rec .ready none)); rwa [World.size_alloc] at this
  have hK1 : W1.heap[w.heap.size]? = some (.deferred (some [])) := by
    rw [← hW1]; exact (Below.heap_alloc _ _ _ (by simp)).trans (World.alloc_heap_new w _)
  have hI1 : I [] W1 := by rw [← hW1]; exact hI.alloc _ (hI.alloc _ h0)
  have hb1 : Below w.heap.size w W1 := by
    rw [← hW1]; exact ((Below.refl _ w).alloc (Nat.le_refl _) _).alloc (by simp) _
  refine ⟨w.heap.size + 1, [{ target := .collected w.heap.size, args := #[] }], W1, { target := .fn (.func gf) lb, args := #[.func (.yield (w.heap.size + 1)) #[] #[]] }, W1, gf,
    #[.func (.yield (w.heap.size + 1)) #[] #[]] ++ lb, W1, ?_, ?_, ?_, ?_, fun _ => h1, ?_⟩
  · rw [← hW1, hrec]; exact run_enterLoop_outer _ _ _ _ _
  · simp only [resolve, hg]
    simp [go_sem]
  · intro f' hf'; simp [Target.leads] at hf'; subst hf'; exact hFg
  · simp [invoke, go_sem, eg]
  have hnw : ∀ {A B : World} {row : Option Nat}, (∀ r, row = some r → W1.heap.size ≤ r ∧ ∃ o : Obj, A.heap[r]? = some o ∧ o.isWalk = true) → (∀ r, row = some r → w.heap.size ≤ r ∧ ∃ o : Obj, A.heap[r]? = some o ∧ o.isCells = false) :=
    fun hr r e => by obtain ⟨hB, o, ho, hw⟩ := hr r e; exact ⟨by have := hb1.size; omega, o, ho, Obj.not_cells_of_walk hw⟩
  refine (hseq (w.heap.size + 1)
    (fun pre W => I pre W ∧ W.heap[w.heap.size + 1]? = some (.loop (rec .ready none)) ∧ W.heap[w.heap.size]? = some (.deferred (some [])))
    (fun pre W => ∃ c, Ix c pre W ∧ W.heap[w.heap.size + 1]? = some (.loop (rec .done (some c))) ∧ W.heap[w.heap.size]? = some (.deferred (some [])))
    W1 hb1
    (fun s A B row hs hg' hr => ⟨hI s A B row hs.1 hg' (hnw (B := B) hr), (grownBy_keeps hg' (fun r e => (hr r e).2) hs.2.1 rfl).trans hs.2.1, (grownBy_keeps hg' (fun r e => (hr r e).2) hs.2.2 rfl).trans hs.2.2⟩)
    ?_ ⟨hI1, hL1, hK1⟩).mono ?_
  · -- one round
    rintro pre x W ⟨hi, hl, hk⟩ hqx
    have hy := run_yield (P := P) (args := encs x) hl (by rw [hrec]; exact hps x)
    rw [hrec] at hy
    refine ⟨fn, _, assign, body, hy, roundIn_of_wpIn hfn (hassign _ pre x W _ hi hqx ?_)⟩
    clear hy
    intro a' Wa hkfa hkpa hia hax
    have hla := hkfa.same _ _ (by omega) hl rfl
    have hka := hkfa.same _ _ (Nat.le_refl _) hk rfl
    have hlt : w.heap.size + 1 < Wa.heap.size := (Array.getElem?_eq_some_iff.1 hla).1
    refine ⟨_, run_beginRound hla (by rw [hrec]), ?_⟩
    obtain ⟨Wb, hWb⟩ : ∃ Wb, Wa.putObj (w.heap.size + 1) (.loop { rec .ready none with state := .busy }) = Wb := ⟨_, rfl⟩
    have hlb : Wb.heap[w.heap.size + 1]? = some (.loop { rec .ready none with state := .busy }) := by rw [← hWb]; exact World.putObj_heap_same hlt
    have hkb : Wb.heap[w.heap.size]? = some (.deferred (some [])) := by rw [← hWb]; exact (World.putObj_heap_other (by omega)).trans hka
    have hwb : Kp W Wb := hKt hkpa (by rw [← hWb]; exact hKb _ _ _ _ (by omega) hla rfl rfl)
    have hib : I pre Wb := by rw [← hWb]; exact hI.putObj _ hia (by omega) hla rfl
    have hab : Ax x a' Wb := by rw [← hWb]; exact (hAx x a').putObj (s := ()) _ hax (by omega) hla rfl
    rw [hWb]
    refine wpIn_mono (hbody _ pre x a' Wb hib hab hqx) ?_
    have fin : ∀ (jump : Option Code) (W3 : World), KeepsFrom w.heap.size Wb W3 → Kp Wb W3 →
        ∃ W4, (Instr.endRound (w.heap.size + 1) jump).run P W3 = .ok (.bool jump.isNone) W4 ∧ W4 = W3.putObj (w.heap.size + 1) (.loop (rec (if jump.isNone then .ready else .done) jump)) ∧
        W3.heap[w.heap.size + 1]? = some (.loop { rec .ready none with state := .busy }) ∧
        W4.heap[w.heap.size + 1]? = some (.loop (rec (if jump.isNone then .ready else .done) jump)) ∧ W4.heap[w.heap.size]? = some (.deferred (some [])) ∧ Kp W W4 := fun jump W3 hk3 hp3 => by
      have hl3 := hk3.same _ _ (by omega) hlb rfl
      have hr := run_endRound (P := P) jump hl3
      rw [hrec] at hr
      refine ⟨_, hr, by rw [hrec], hl3, ?_, ?_, hKt hwb (hKt hp3 (hKb _ _ _ _ (by omega) hl3 rfl rfl))⟩
      · rw [hrec]; exact World.putObj_heap_same (Array.getElem?_eq_some_iff.1 hl3).1
      · exact (World.putObj_heap_other (by omega)).trans (hk3.same _ _ (Nat.le_refl _) hkb rfl)
    have leaves : ∀ (c : Code) (W3 : World), KeepsFrom w.heap.size Wb W3 → Kp Wb W3 → Ix c (pre ++ [x]) W3 → ∃ v W4, (Instr.endRound (w.heap.size + 1) (some c)).run P W3 = .ok v W4 ∧
        TellsL Kp G (fun pre W => I pre W ∧ W.heap[w.heap.size + 1]? = some (.loop (rec .ready none)) ∧ W.heap[w.heap.size]? = some (.deferred (some [])))
          (fun pre W => ∃ c, Ix c pre W ∧ W.heap[w.heap.size + 1]? = some (.loop (rec .done (some c))) ∧ W.heap[w.heap.size]? = some (.deferred (some []))) pre x W (.returned v) W4 := fun c W3 hk3 hp3 hi3 => by
      obtain ⟨W4, hr, rfl, hl3, hl4, hk4, hp4⟩ := fin (some c) W3 hk3 hp3
      exact ⟨_, _, hr, .inr ⟨rfl, ⟨c, (hIx _).putObj _ hi3 (by omega) hl3 rfl, hl4, hk4⟩, hp4⟩⟩
    rintro e a3 W3 hp
    cases e with
    | normal =>
      obtain ⟨hk3, hp3, hgx, hi3⟩ := hp
      obtain ⟨W4, hr, rfl, hl3, hl4, hk4, hp4⟩ := fin none W3 hk3 hp3
      exact ⟨_, _, hr, .inl ⟨rfl, ⟨hI.putObj _ hi3 (by omega) hl3 rfl, hl4, hk4⟩, hp4, hgx⟩⟩
    | ret => exact leaves .ret W3 hp.1 hp.2.1 hp.2.2
    | exit id => exact leaves (.exit id) W3 hp.1 hp.2.1 hp.2.2
    | goto t => exact leaves (.goto t) W3 hp.1 hp.2.1 hp.2.2
    | panic ch => exact hp.elim
    | outgrown => exact hp.elim
  · -- behind the iterator
    rintro e W2 ⟨⟨v, rfl⟩, (⟨xs, hSx, hi, hl, hk⟩ | ⟨pre, hSx, c, hi, hl, hk⟩)⟩
    · exact ⟨none, _, by have := run_endLoop (P := P) hl (by rw [hrec]; simp); rw [hrec] at this; exact this, hdone _ xs _ (Nat.le_refl _) (hS.putObj _ hSx (by omega) hl rfl) (hI.putObj _ hi (by omega) hl rfl) ((World.putObj_heap_other (by omega)).trans hk)⟩
    · exact ⟨some c, _, by have := run_endLoop (P := P) hl (by rw [hrec]; simp); rw [hrec] at this; exact this, hstop _ c pre _ (Nat.le_refl _) (hSp.putObj _ hSx (by omega) hl rfl) ((hIx c).putObj _ hi (by omega) hl rfl) ((World.putObj_heap_other (by omega)).trans hk)⟩
end Go.Proofs.YtioeimkaljmffaaGreatDoor
end

section
namespace Go.Proofs.YtioeimkaljmffaaGreatDoor
open Go.RowKit
set_option linter.unusedVariables false

set_option maxHeartbeats 400000 in
theorem get_nil (a : Option Addr) (cap : Nat) (w : World) :
    Calls Tryz.prog 187 #[.slice a 0 cap] w (Ret3 (0, 0, 10) w) := by
  go_enter Tryz.func187, Tryz.ntmps187
  go_wp2
  go_ret3
  exact Ret3.mk rfl

set_option maxHeartbeats 800000 in
theorem get_at0a (b off n cap : Nat) (c0 : UInt8) (r : List UInt8) (w : World) (hr : 0 ≤ r.length) (hlt : 1 ≤ n) (h1 : n ≤ cap) (h2 : cap ≤ 9223372036854775807)
    (hcp : 1 < cap) (hq : c0.toNat / 64 = 0)
    (hc0 : w.cell? ⟨b, off, none⟩ = some (.int .u8 (c0.toNat : Int)))
    (hc : ∀ i, i < 0 → w.cell? ⟨b, off + 1 + i, none⟩ = some (.int .u8 (by8 r i))) :
    Calls Tryz.prog 187 #[.slice (some ⟨b, off, none⟩) n cap] w (Ret3 (outS 1 (valS ((c0.toNat : Int) % 64) r 0)) w) := by
  have e1 : (c0.toNat : Int) / 64 = 0 := by omega
  have hp : (0 : Int) < (n : Int) := by omega
  have hne : ((n : Int) == 0) = false := by simp; omega
  have hm : 0 ≤ ((c0.toNat : Int) % 64) ∧ ((c0.toNat : Int) % 64) < 64 := by omega
  have hd : decide ((n : Int) < 1) = false := by simp; omega
  clear hq
  go_enter Tryz.func187, Tryz.ntmps187
  go_wp2
  go_loop [6, 30] (fun v i => ∃ k : Nat, k ≤ 0 ∧ i = .int .i64 k ∧ v = .int .i64 (valS ((c0.toNat : Int) % 64) r k)) (fun _ i => 0 - (intOf i).toNat)
  case atStart => exact ⟨0, by omega, rfl, by rw [valS_zero]⟩
  case round =>
    obtain ⟨k, hk, rfl, rfl⟩ := hrel
    by_cases hlt2 : k < 0
    · omega
    · obtain rfl : k = 0 := by omega
      have hb := valS_bd ((c0.toNat : Int) % 64) r 0 hm.1 hm.2 (by omega)
      clear hc hlt2
      generalize valS ((c0.toNat : Int) % 64) r 0 = v at *
      have hv0 : -9223372036854775808 ≤ v ∧ v ≤ 9223372036854775807 := by omega
      by_cases hv : sizeS v = 1
      · have hz : (sizeS v != 1) = false := by rw [hv]; rfl
        have HV := Lib.hid hv
        clear hv
        go_wp2_with (go_at_call 130; refine (size_c v hv0.1 hv0.2 _).mono ?_; rintro e w' ⟨rfl, rfl⟩)
        go_ret3
        exact Ret3.mk (outS_yes HV.out)
      · have hz : (sizeS v != 1) = true := by rw [bne_iff_ne]; exact hv
        have HV := Lib.hid hv
        clear hv
        go_wp2_with (go_at_call 130; refine (size_c v hv0.1 hv0.2 _).mono ?_; rintro e w' ⟨rfl, rfl⟩)
        go_ret3
        exact Ret3.mk (outS_no HV.out)

set_option maxHeartbeats 800000 in
theorem get_at0b (b off n : Nat) (c0 : UInt8) (r : List UInt8) (w : World) (hr : 0 ≤ r.length) (hlt : 1 ≤ n) (h1 : n ≤ 1)
    (hq : c0.toNat / 64 = 0)
    (hc0 : w.cell? ⟨b, off, none⟩ = some (.int .u8 (c0.toNat : Int)))
    (hc : ∀ i, i < 0 → w.cell? ⟨b, off + 1 + i, none⟩ = some (.int .u8 (by8 r i))) :
    Calls Tryz.prog 187 #[.slice (some ⟨b, off, none⟩) n 1] w (Ret3 (outS 1 (valS ((c0.toNat : Int) % 64) r 0)) w) := by
  have e1 : (c0.toNat : Int) / 64 = 0 := by omega
  have hp : (0 : Int) < (n : Int) := by omega
  have hne : ((n : Int) == 0) = false := by simp; omega
  have hm : 0 ≤ ((c0.toNat : Int) % 64) ∧ ((c0.toNat : Int) % 64) < 64 := by omega
  have hd : decide ((n : Int) < 1) = false := by simp; omega
  clear hq
  go_enter Tryz.func187, Tryz.ntmps187
  go_wp2
  go_loop [6, 30] (fun v i => ∃ k : Nat, k ≤ 0 ∧ i = .int .i64 k ∧ v = .int .i64 (valS ((c0.toNat : Int) % 64) r k)) (fun _ i => 0 - (intOf i).toNat)
  case atStart => exact ⟨0, by omega, rfl, by rw [valS_zero]⟩
  case round =>
    obtain ⟨k, hk, rfl, rfl⟩ := hrel
    by_cases hlt2 : k < 0
    · omega
    · obtain rfl : k = 0 := by omega
      have hb := valS_bd ((c0.toNat : Int) % 64) r 0 hm.1 hm.2 (by omega)
      clear hc hlt2
      generalize valS ((c0.toNat : Int) % 64) r 0 = v at *
      have hv0 : -9223372036854775808 ≤ v ∧ v ≤ 9223372036854775807 := by omega
      by_cases hv : sizeS v = 1
      · have hz : (sizeS v != 1) = false := by rw [hv]; rfl
        have HV := Lib.hid hv
        clear hv
        go_wp2_with (go_at_call 130; refine (size_c v hv0.1 hv0.2 _).mono ?_; rintro e w' ⟨rfl, rfl⟩)
        go_ret3
        exact Ret3.mk (outS_yes HV.out)
      · have hz : (sizeS v != 1) = true := by rw [bne_iff_ne]; exact hv
        have HV := Lib.hid hv
        clear hv
        go_wp2_with (go_at_call 130; refine (size_c v hv0.1 hv0.2 _).mono ?_; rintro e w' ⟨rfl, rfl⟩)
        go_ret3
        exact Ret3.mk (outS_no HV.out)

set_option maxHeartbeats 400000 in
theorem get_cut1 (b off n cap : Nat) (c0 : UInt8) (w : World) (hn : 0 < n) (hlt : n < 2) (h1 : n ≤ cap) (h2 : cap ≤ 9223372036854775807)
    (hq : c0.toNat / 64 = 1)
    (hc0 : w.cell? ⟨b, off, none⟩ = some (.int .u8 (c0.toNat : Int))) :
    Calls Tryz.prog 187 #[.slice (some ⟨b, off, none⟩) n cap] w (Ret3 (0, 0, 10) w) := by
  have e1 : (c0.toNat : Int) / 64 = 1 := by omega
  have hp : (0 : Int) < (n : Int) := by omega
  have hne : ((n : Int) == 0) = false := by simp; omega
  clear hq
  go_enter Tryz.func187, Tryz.ntmps187
  go_wp2
  go_ret3
  exact Ret3.mk rfl

set_option maxHeartbeats 800000 in
theorem get_at1 (b off n cap : Nat) (c0 : UInt8) (r : List UInt8) (w : World) (hr : 1 ≤ r.length) (hlt : 2 ≤ n) (h1 : n ≤ cap) (h2 : cap ≤ 9223372036854775807)
    (hq : c0.toNat / 64 = 1)
    (hc0 : w.cell? ⟨b, off, none⟩ = some (.int .u8 (c0.toNat : Int)))
    (hc : ∀ i, i < 1 → w.cell? ⟨b, off + 1 + i, none⟩ = some (.int .u8 (by8 r i))) :
    Calls Tryz.prog 187 #[.slice (some ⟨b, off, none⟩) n cap] w (Ret3 (outS 2 (valS ((c0.toNat : Int) % 64) r 1)) w) := by
  have e1 : (c0.toNat : Int) / 64 = 1 := by omega
  have hp : (0 : Int) < (n : Int) := by omega
  have hne : ((n : Int) == 0) = false := by simp; omega
  have hm : 0 ≤ ((c0.toNat : Int) % 64) ∧ ((c0.toNat : Int) % 64) < 64 := by omega
  have hd : decide ((n : Int) < 2) = false := by simp; omega
  clear hq
  go_enter Tryz.func187, Tryz.ntmps187
  go_wp2
  go_loop [6, 30] (fun v i => ∃ k : Nat, k ≤ 1 ∧ i = .int .i64 k ∧ v = .int .i64 (valS ((c0.toNat : Int) % 64) r k)) (fun _ i => 1 - (intOf i).toNat)
  case atStart => exact ⟨0, by omega, rfl, by rw [valS_zero]⟩
  case round =>
    obtain ⟨k, hk, rfl, rfl⟩ := hrel
    by_cases hlt2 : k < 1
    · have hb := valS_lt54 ((c0.toNat : Int) % 64) r k hm.1 hm.2 (by omega) (by omega)
      have hcell := hc k hlt2
      have hs := Lib.hid (valS_succ ((c0.toNat : Int) % 64) r k (by omega))
      have h8 := by8_bd r k
      have ho := or_i64 (valS ((c0.toNat : Int) % 64) r k) (by8 r k) hb.1 hb.2 h8.1 h8.2
      go_wp2
      go_round
      case rel => exact ⟨k + 1, by omega, by go_num, by rw [hs.out]⟩
      case measure => simp [intOf]; omega
    · obtain rfl : k = 1 := by omega
      have hb := valS_bd ((c0.toNat : Int) % 64) r 1 hm.1 hm.2 (by omega)
      clear hc hlt2
      generalize valS ((c0.toNat : Int) % 64) r 1 = v at *
      have hv0 : -9223372036854775808 ≤ v ∧ v ≤ 9223372036854775807 := by omega
      by_cases hv : sizeS v = 2
      · have hz : (sizeS v != 2) = false := by rw [hv]; rfl
        have HV := Lib.hid hv
        clear hv
        go_wp2_with (go_at_call 130; refine (size_c v hv0.1 hv0.2 _).mono ?_; rintro e w' ⟨rfl, rfl⟩)
        go_ret3
        exact Ret3.mk (outS_yes HV.out)
      · have hz : (sizeS v != 2) = true := by rw [bne_iff_ne]; exact hv
        have HV := Lib.hid hv
        clear hv
        go_wp2_with (go_at_call 130; refine (size_c v hv0.1 hv0.2 _).mono ?_; rintro e w' ⟨rfl, rfl⟩)
        go_ret3
        exact Ret3.mk (outS_no HV.out)

set_option maxHeartbeats 400000 in
theorem get_cut2 (b off n cap : Nat) (c0 : UInt8) (w : World) (hn : 0 < n) (hlt : n < 4) (h1 : n ≤ cap) (h2 : cap ≤ 9223372036854775807)
    (hq : c0.toNat / 64 = 2)
    (hc0 : w.cell? ⟨b, off, none⟩ = some (.int .u8 (c0.toNat : Int))) :
    Calls Tryz.prog 187 #[.slice (some ⟨b, off, none⟩) n cap] w (Ret3 (0, 0, 10) w) := by
  have e1 : (c0.toNat : Int) / 64 = 2 := by omega
  have hp : (0 : Int) < (n : Int) := by omega
  have hne : ((n : Int) == 0) = false := by simp; omega
  clear hq
  go_enter Tryz.func187, Tryz.ntmps187
  go_wp2
  go_ret3
  exact Ret3.mk rfl

set_option maxHeartbeats 800000 in
theorem get_at2 (b off n cap : Nat) (c0 : UInt8) (r : List UInt8) (w : World) (hr : 3 ≤ r.length) (hlt : 4 ≤ n) (h1 : n ≤ cap) (h2 : cap ≤ 9223372036854775807)
    (hq : c0.toNat / 64 = 2)
    (hc0 : w.cell? ⟨b, off, none⟩ = some (.int .u8 (c0.toNat : Int)))
    (hc : ∀ i, i < 3 → w.cell? ⟨b, off + 1 + i, none⟩ = some (.int .u8 (by8 r i))) :
    Calls Tryz.prog 187 #[.slice (some ⟨b, off, none⟩) n cap] w (Ret3 (outS 4 (valS ((c0.toNat : Int) % 64) r 3)) w) := by
  have e1 : (c0.toNat : Int) / 64 = 2 := by omega
  have hp : (0 : Int) < (n : Int) := by omega
  have hne : ((n : Int) == 0) = false := by simp; omega
  have hm : 0 ≤ ((c0.toNat : Int) % 64) ∧ ((c0.toNat : Int) % 64) < 64 := by omega
  have hd : decide ((n : Int) < 4) = false := by simp; omega
  clear hq
  go_enter Tryz.func187, Tryz.ntmps187
  go_wp2
  go_loop [6, 30] (fun v i => ∃ k : Nat, k ≤ 3 ∧ i = .int .i64 k ∧ v = .int .i64 (valS ((c0.toNat : Int) % 64) r k)) (fun _ i => 3 - (intOf i).toNat)
  case atStart => exact ⟨0, by omega, rfl, by rw [valS_zero]⟩
  case round =>
    obtain ⟨k, hk, rfl, rfl⟩ := hrel
    by_cases hlt2 : k < 3
    · have hb := valS_lt54 ((c0.toNat : Int) % 64) r k hm.1 hm.2 (by omega) (by omega)
      have hcell := hc k hlt2
      have hs := Lib.hid (valS_succ ((c0.toNat : Int) % 64) r k (by omega))
      have h8 := by8_bd r k
      have ho := or_i64 (valS ((c0.toNat : Int) % 64) r k) (by8 r k) hb.1 hb.2 h8.1 h8.2
      go_wp2
      go_round
      case rel => exact ⟨k + 1, by omega, by go_num, by rw [hs.out]⟩
      case measure => simp [intOf]; omega
    · obtain rfl : k = 3 := by omega
      have hb := valS_bd ((c0.toNat : Int) % 64) r 3 hm.1 hm.2 (by omega)
      clear hc hlt2
      generalize valS ((c0.toNat : Int) % 64) r 3 = v at *
      have hv0 : -9223372036854775808 ≤ v ∧ v ≤ 9223372036854775807 := by omega
      by_cases hv : sizeS v = 4
      · have hz : (sizeS v != 4) = false := by rw [hv]; rfl
        have HV := Lib.hid hv
        clear hv
        go_wp2_with (go_at_call 130; refine (size_c v hv0.1 hv0.2 _).mono ?_; rintro e w' ⟨rfl, rfl⟩)
        go_ret3
        exact Ret3.mk (outS_yes HV.out)
      · have hz : (sizeS v != 4) = true := by rw [bne_iff_ne]; exact hv
        have HV := Lib.hid hv
        clear hv
        go_wp2_with (go_at_call 130; refine (size_c v hv0.1 hv0.2 _).mono ?_; rintro e w' ⟨rfl, rfl⟩)
        go_ret3
        exact Ret3.mk (outS_no HV.out)

set_option maxHeartbeats 400000 in
theorem get_cut3 (b off n cap : Nat) (c0 : UInt8) (w : World) (hn : 0 < n) (hlt : n < 8) (h1 : n ≤ cap) (h2 : cap ≤ 9223372036854775807)
    (hq : c0.toNat / 64 = 3)
    (hc0 : w.cell? ⟨b, off, none⟩ = some (.int .u8 (c0.toNat : Int))) :
    Calls Tryz.prog 187 #[.slice (some ⟨b, off, none⟩) n cap] w (Ret3 (0, 0, 10) w) := by
  have e1 : (c0.toNat : Int) / 64 = 3 := by omega
  have hp : (0 : Int) < (n : Int) := by omega
  have hne : ((n : Int) == 0) = false := by simp; omega
  clear hq
  go_enter Tryz.func187, Tryz.ntmps187
  go_wp2
  go_ret3
  exact Ret3.mk rfl

set_option maxHeartbeats 800000 in
theorem get_at3 (b off n cap : Nat) (c0 : UInt8) (r : List UInt8) (w : World) (hr : 7 ≤ r.length) (hlt : 8 ≤ n) (h1 : n ≤ cap) (h2 : cap ≤ 9223372036854775807)
    (hq : c0.toNat / 64 = 3)
    (hc0 : w.cell? ⟨b, off, none⟩ = some (.int .u8 (c0.toNat : Int)))
    (hc : ∀ i, i < 7 → w.cell? ⟨b, off + 1 + i, none⟩ = some (.int .u8 (by8 r i))) :
    Calls Tryz.prog 187 #[.slice (some ⟨b, off, none⟩) n cap] w (Ret3 (outS 8 (valS ((c0.toNat : Int) % 64) r 7)) w) := by
  have e1 : (c0.toNat : Int) / 64 = 3 := by omega
  have hp : (0 : Int) < (n : Int) := by omega
  have hne : ((n : Int) == 0) = false := by simp; omega
  have hm : 0 ≤ ((c0.toNat : Int) % 64) ∧ ((c0.toNat : Int) % 64) < 64 := by omega
  have hd : decide ((n : Int) < 8) = false := by simp; omega
  clear hq
  go_enter Tryz.func187, Tryz.ntmps187
  go_wp2
  go_loop [6, 30] (fun v i => ∃ k : Nat, k ≤ 7 ∧ i = .int .i64 k ∧ v = .int .i64 (valS ((c0.toNat : Int) % 64) r k)) (fun _ i => 7 - (intOf i).toNat)
  case atStart => exact ⟨0, by omega, rfl, by rw [valS_zero]⟩
  case round =>
    obtain ⟨k, hk, rfl, rfl⟩ := hrel
    by_cases hlt2 : k < 7
    · have hb := valS_lt54 ((c0.toNat : Int) % 64) r k hm.1 hm.2 (by omega) (by omega)
      have hcell := hc k hlt2
      have hs := Lib.hid (valS_succ ((c0.toNat : Int) % 64) r k (by omega))
      have h8 := by8_bd r k
      have ho := or_i64 (valS ((c0.toNat : Int) % 64) r k) (by8 r k) hb.1 hb.2 h8.1 h8.2
      go_wp2
      go_round
      case rel => exact ⟨k + 1, by omega, by go_num, by rw [hs.out]⟩
      case measure => simp [intOf]; omega
    · obtain rfl : k = 7 := by omega
      have hb := valS_bd ((c0.toNat : Int) % 64) r 7 hm.1 hm.2 (by omega)
      clear hc hlt2
      generalize valS ((c0.toNat : Int) % 64) r 7 = v at *
      have hv0 : -9223372036854775808 ≤ v ∧ v ≤ 9223372036854775807 := by omega
      by_cases hv : sizeS v = 8
      · have hz : (sizeS v != 8) = false := by rw [hv]; rfl
        have HV := Lib.hid hv
        clear hv
        go_wp2_with (go_at_call 130; refine (size_c v hv0.1 hv0.2 _).mono ?_; rintro e w' ⟨rfl, rfl⟩)
        go_ret3
        exact Ret3.mk (outS_yes HV.out)
      · have hz : (sizeS v != 8) = true := by rw [bne_iff_ne]; exact hv
        have HV := Lib.hid hv
        clear hv
        go_wp2_with (go_at_call 130; refine (size_c v hv0.1 hv0.2 _).mono ?_; rintro e w' ⟨rfl, rfl⟩)
        go_ret3
        exact Ret3.mk (outS_no HV.out)

/-- get: what bytes begin with. -/
theorem get_c {w : World} {a : Option Addr} {n cap : Nat} {l : List UInt8} (h : Bys w a n cap l) : Calls Tryz.prog 187 #[.slice a n cap] w (Ret3 (getS l) w) := by
  obtain ⟨hlen, hle, hmax, hadr⟩ := h
  cases l with
  | nil => simp at hlen; subst hlen; exact get_nil a cap w
  | cons c0 r =>
    simp at hlen
    rcases hadr with h0 | ⟨b, off, rfl, hc⟩
    · omega
    have hc0 : w.cell? ⟨b, off, none⟩ = some (.int .u8 (c0.toNat : Int)) := hc 0 (by omega)
    have hcs : ∀ i, i < n - 1 → w.cell? ⟨b, off + 1 + i, none⟩ = some (.int .u8 (by8 r i)) := fun i hi => by
      have := hc (i + 1) (by omega)
      rw [by8_cons] at this
      rw [show off + 1 + i = off + (i + 1) by omega]; exact this
    have hlt := c0.toNat_lt
    rcases (by omega : c0.toNat / 64 = 0 ∨ c0.toNat / 64 = 1 ∨ c0.toNat / 64 = 2 ∨ c0.toNat / 64 = 3) with hq | hq | hq | hq
    · simp only [getS, hq]; rw [if_neg (by omega)]
      by_cases hcp : 1 < cap
      · exact get_at0a b off n cap c0 r w (by omega) (by omega) hle hmax hcp hq hc0 (fun i hi => hcs i (by omega))
      · obtain rfl : cap = 1 := by omega
        exact get_at0b b off n c0 r w (by omega) (by omega) hle hq hc0 (fun i hi => hcs i (by omega))
    · simp only [getS, hq]
      by_cases hs : n < 2
      · rw [if_pos (by omega)]; exact get_cut1 b off n cap c0 w (by omega) hs hle hmax hq hc0
      · rw [if_neg (by omega)]; exact get_at1 b off n cap c0 r w (by omega) (by omega) hle hmax hq hc0 (fun i hi => hcs i (by omega))
    · simp only [getS, hq]
      by_cases hs : n < 4
      · rw [if_pos (by omega)]; exact get_cut2 b off n cap c0 w (by omega) hs hle hmax hq hc0
      · rw [if_neg (by omega)]; exact get_at2 b off n cap c0 r w (by omega) (by omega) hle hmax hq hc0 (fun i hi => hcs i (by omega))
    · simp only [getS, hq]
      by_cases hs : n < 8
      · rw [if_pos (by omega)]; exact get_cut3 b off n cap c0 w (by omega) hs hle hmax hq hc0
      · rw [if_neg (by omega)]; exact get_at3 b off n cap c0 r w (by omega) (by omega) hle hmax hq hc0 (fun i hi => hcs i (by omega))
end Go.Proofs.YtioeimkaljmffaaGreatDoor
end

section
namespace Go.Proofs.YtioeimkaljmffaaGreatDoor
open Go.RowKit
set_option linter.unusedVariables false

set_option maxHeartbeats 400000 in
theorem rget_nil (a : Option Addr) (cap : Nat) (w : World) :
    Calls Tryz.prog 103 #[.slice a 0 cap] w (Ret3 (0, 0, 10) w) := by
  go_enter Tryz.func103, Tryz.ntmps103
  go_wp2
  go_ret3
  exact Ret3.mk rfl

set_option maxHeartbeats 800000 in
theorem rget_at0 (b off n cap : Nat) (c0 : UInt8) (r : List UInt8) (w : World) (hn : 0 < n) (h1 : n ≤ cap) (h2 : cap ≤ 9223372036854775807)
    (hq : c0.toNat / 64 = 0)
    (hc0 : w.cell? ⟨b, off, none⟩ = some (.int .u8 (c0.toNat : Int)))
    (hr : 0 ≤ r.length) (hlt : 1 ≤ n)
    (hc : ∀ i, i < 0 → w.cell? ⟨b, off + (i + 1), none⟩ = some (.int .u8 (by8 r i))) :
    Calls Tryz.prog 103 #[.slice (some ⟨b, off, none⟩) n cap] w (Ret3 (outS 1 (valS ((c0.toNat : Int) % 64) r 0)) w) := by
  have e1 : (c0.toNat : Int) / 64 = 0 := by omega
  have hp : (0 : Int) < (n : Int) := by omega
  have hne : ((n : Int) == 0) = false := by simp; omega
  have hm : 0 ≤ ((c0.toNat : Int) % 64) ∧ ((c0.toNat : Int) % 64) < 64 := by omega
  clear hq
  go_enter Tryz.func103, Tryz.ntmps103
  go_wp2
  go_loop [5, 6] (fun v i => ∃ j : Nat, j ≤ 0 ∧ i = .int .i64 j ∧ v = .int .i64 ((2 ^ j : Nat) : Int)) (fun _ i => 0 - (intOf i).toNat)
  case atStart => exact ⟨0, by omega, rfl, rfl⟩
  case round =>
    obtain ⟨j, hj, rfl, rfl⟩ := hrel
    by_cases hlt1 : j < 0
    · omega
    · obtain rfl : j = 0 := by omega
      clear hlt1 hj
      have hd : decide ((n : Int) < 1) = false := by simp; omega
      go_wp2
      go_loop [7, 8] (fun v i => ∃ k : Nat, k ≤ 0 ∧ i = .int .i64 ((k : Int) + 1) ∧ v = .int .i64 (valS ((c0.toNat : Int) % 64) r k)) (fun _ i => 1 - (intOf i).toNat)
      case atStart => exact ⟨0, by omega, rfl, by rw [valS_zero]⟩
      case round =>
        obtain ⟨k, hk, rfl, rfl⟩ := hrel
        by_cases hlt2 : k < 0
        · omega
        · obtain rfl : k = 0 := by omega
          have hb := valS_bd ((c0.toNat : Int) % 64) r 0 hm.1 hm.2 (by omega)
          clear hc hlt2
          generalize valS ((c0.toNat : Int) % 64) r 0 = v at *
          have hv0 : -9223372036854775808 ≤ v ∧ v ≤ 9223372036854775807 := by omega
          by_cases hv : sizeS v = 1
          · have hz : (sizeS v != 1) = false := by rw [hv]; rfl
            have HV := Lib.hid hv
            clear hv
            go_wp2_with (go_at_call 102; refine (rsize_c v hv0.1 hv0.2 _).mono ?_; rintro e w' ⟨rfl, rfl⟩)
            go_ret3
            exact Ret3.mk (outS_yes HV.out)
          · have hz : (sizeS v != 1) = true := by rw [bne_iff_ne]; exact hv
            have HV := Lib.hid hv
            clear hv
            go_wp2_with (go_at_call 102; refine (rsize_c v hv0.1 hv0.2 _).mono ?_; rintro e w' ⟨rfl, rfl⟩)
            go_ret3
            exact Ret3.mk (outS_no HV.out)

set_option maxHeartbeats 800000 in
theorem rget_cut1 (b off n cap : Nat) (c0 : UInt8) (w : World) (hn : 0 < n) (h1 : n ≤ cap) (h2 : cap ≤ 9223372036854775807)
    (hq : c0.toNat / 64 = 1)
    (hc0 : w.cell? ⟨b, off, none⟩ = some (.int .u8 (c0.toNat : Int)))
    (hlt : n < 2) :
    Calls Tryz.prog 103 #[.slice (some ⟨b, off, none⟩) n cap] w (Ret3 (0, 0, 10) w) := by
  have e1 : (c0.toNat : Int) / 64 = 1 := by omega
  have hp : (0 : Int) < (n : Int) := by omega
  have hne : ((n : Int) == 0) = false := by simp; omega
  have hm : 0 ≤ ((c0.toNat : Int) % 64) ∧ ((c0.toNat : Int) % 64) < 64 := by omega
  clear hq
  go_enter Tryz.func103, Tryz.ntmps103
  go_wp2
  go_loop [5, 6] (fun v i => ∃ j : Nat, j ≤ 1 ∧ i = .int .i64 j ∧ v = .int .i64 ((2 ^ j : Nat) : Int)) (fun _ i => 1 - (intOf i).toNat)
  case atStart => exact ⟨0, by omega, rfl, rfl⟩
  case round =>
    obtain ⟨j, hj, rfl, rfl⟩ := hrel
    by_cases hlt1 : j < 1
    · have hj3 : ((2 ^ j : Nat) : Int) ≤ 8 ∧ 0 ≤ ((2 ^ j : Nat) : Int) := by
        rcases (by omega : j = 0 ∨ j = 1 ∨ j = 2) with rfl | rfl | rfl <;> omega
      have hps := Lib.hid (show 2 * ((2 ^ j : Nat) : Int) = ((2 ^ (j + 1) : Nat) : Int) by rw [Nat.pow_succ]; omega)
      obtain ⟨p, hpp⟩ : ∃ p : Int, p = ((2 ^ j : Nat) : Int) := ⟨_, rfl⟩
      rw [← hpp] at hj3 hps ⊢
      clear hpp
      go_wp2
      go_round
      case rel => exact ⟨j + 1, by omega, by go_num, by rw [← hps.out]⟩
      case measure => simp [intOf]; omega
    · obtain rfl : j = 1 := by omega
      clear hlt1 hj
      have hd : decide ((n : Int) < 2) = true := by simp; omega
      go_wp2
      go_ret3
      exact Ret3.mk rfl

set_option maxHeartbeats 800000 in
theorem rget_at1 (b off n cap : Nat) (c0 : UInt8) (r : List UInt8) (w : World) (hn : 0 < n) (h1 : n ≤ cap) (h2 : cap ≤ 9223372036854775807)
    (hq : c0.toNat / 64 = 1)
    (hc0 : w.cell? ⟨b, off, none⟩ = some (.int .u8 (c0.toNat : Int)))
    (hr : 1 ≤ r.length) (hlt : 2 ≤ n)
    (hc : ∀ i, i < 1 → w.cell? ⟨b, off + (i + 1), none⟩ = some (.int .u8 (by8 r i))) :
    Calls Tryz.prog 103 #[.slice (some ⟨b, off, none⟩) n cap] w (Ret3 (outS 2 (valS ((c0.toNat : Int) % 64) r 1)) w) := by
  have e1 : (c0.toNat : Int) / 64 = 1 := by omega
  have hp : (0 : Int) < (n : Int) := by omega
  have hne : ((n : Int) == 0) = false := by simp; omega
  have hm : 0 ≤ ((c0.toNat : Int) % 64) ∧ ((c0.toNat : Int) % 64) < 64 := by omega
  clear hq
  go_enter Tryz.func103, Tryz.ntmps103
  go_wp2
  go_loop [5, 6] (fun v i => ∃ j : Nat, j ≤ 1 ∧ i = .int .i64 j ∧ v = .int .i64 ((2 ^ j : Nat) : Int)) (fun _ i => 1 - (intOf i).toNat)
  case atStart => exact ⟨0, by omega, rfl, rfl⟩
  case round =>
    obtain ⟨j, hj, rfl, rfl⟩ := hrel
    by_cases hlt1 : j < 1
    · have hj3 : ((2 ^ j : Nat) : Int) ≤ 8 ∧ 0 ≤ ((2 ^ j : Nat) : Int) := by
        rcases (by omega : j = 0 ∨ j = 1 ∨ j = 2) with rfl | rfl | rfl <;> omega
      have hps := Lib.hid (show 2 * ((2 ^ j : Nat) : Int) = ((2 ^ (j + 1) : Nat) : Int) by rw [Nat.pow_succ]; omega)
      obtain ⟨p, hpp⟩ : ∃ p : Int, p = ((2 ^ j : Nat) : Int) := ⟨_, rfl⟩
      rw [← hpp] at hj3 hps ⊢
      clear hpp
      go_wp2
      go_round
      case rel => exact ⟨j + 1, by omega, by go_num, by rw [← hps.out]⟩
      case measure => simp [intOf]; omega
    · obtain rfl : j = 1 := by omega
      clear hlt1 hj
      have hd : decide ((n : Int) < 2) = false := by simp; omega
      go_wp2
      go_loop [7, 8] (fun v i => ∃ k : Nat, k ≤ 1 ∧ i = .int .i64 ((k : Int) + 1) ∧ v = .int .i64 (valS ((c0.toNat : Int) % 64) r k)) (fun _ i => 2 - (intOf i).toNat)
      case atStart => exact ⟨0, by omega, rfl, by rw [valS_zero]⟩
      case round =>
        obtain ⟨k, hk, rfl, rfl⟩ := hrel
        by_cases hlt2 : k < 1
        · have hb := valS_lt54 ((c0.toNat : Int) % 64) r k hm.1 hm.2 (by omega) (by omega)
          have hcell := hc k hlt2
          have hs := Lib.hid (valS_succ ((c0.toNat : Int) % 64) r k (by omega))
          have h8 := by8_bd r k
          have hk2 : (k : Int) + 1 < n := by omega
          go_wp2
          go_round
          case rel => exact ⟨k + 1, by omega, by go_num, by rw [hs.out, Int.mul_comm]⟩
          case measure => simp [intOf]; omega
        · obtain rfl : k = 1 := by omega
          have hb := valS_bd ((c0.toNat : Int) % 64) r 1 hm.1 hm.2 (by omega)
          clear hc hlt2
          generalize valS ((c0.toNat : Int) % 64) r 1 = v at *
          have hv0 : -9223372036854775808 ≤ v ∧ v ≤ 9223372036854775807 := by omega
          by_cases hv : sizeS v = 2
          · have hz : (sizeS v != 2) = false := by rw [hv]; rfl
            have HV := Lib.hid hv
            clear hv
            go_wp2_with (go_at_call 102; refine (rsize_c v hv0.1 hv0.2 _).mono ?_; rintro e w' ⟨rfl, rfl⟩)
            go_ret3
            exact Ret3.mk (outS_yes HV.out)
          · have hz : (sizeS v != 2) = true := by rw [bne_iff_ne]; exact hv
            have HV := Lib.hid hv
            clear hv
            go_wp2_with (go_at_call 102; refine (rsize_c v hv0.1 hv0.2 _).mono ?_; rintro e w' ⟨rfl, rfl⟩)
            go_ret3
            exact Ret3.mk (outS_no HV.out)

set_option maxHeartbeats 800000 in
theorem rget_cut2 (b off n cap : Nat) (c0 : UInt8) (w : World) (hn : 0 < n) (h1 : n ≤ cap) (h2 : cap ≤ 9223372036854775807)
    (hq : c0.toNat / 64 = 2)
    (hc0 : w.cell? ⟨b, off, none⟩ = some (.int .u8 (c0.toNat : Int)))
    (hlt : n < 4) :
    Calls Tryz.prog 103 #[.slice (some ⟨b, off, none⟩) n cap] w (Ret3 (0, 0, 10) w) := by
  have e1 : (c0.toNat : Int) / 64 = 2 := by omega
  have hp : (0 : Int) < (n : Int) := by omega
  have hne : ((n : Int) == 0) = false := by simp; omega
  have hm : 0 ≤ ((c0.toNat : Int) % 64) ∧ ((c0.toNat : Int) % 64) < 64 := by omega
  clear hq
  go_enter Tryz.func103, Tryz.ntmps103
  go_wp2
  go_loop [5, 6] (fun v i => ∃ j : Nat, j ≤ 2 ∧ i = .int .i64 j ∧ v = .int .i64 ((2 ^ j : Nat) : Int)) (fun _ i => 2 - (intOf i).toNat)
  case atStart => exact ⟨0, by omega, rfl, rfl⟩
  case round =>
    obtain ⟨j, hj, rfl, rfl⟩ := hrel
    by_cases hlt1 : j < 2
    · have hj3 : ((2 ^ j : Nat) : Int) ≤ 8 ∧ 0 ≤ ((2 ^ j : Nat) : Int) := by
        rcases (by omega : j = 0 ∨ j = 1 ∨ j = 2) with rfl | rfl | rfl <;> omega
      have hps := Lib.hid (show 2 * ((2 ^ j : Nat) : Int) = ((2 ^ (j + 1) : Nat) : Int) by rw [Nat.pow_succ]; omega)
      obtain ⟨p, hpp⟩ : ∃ p : Int, p = ((2 ^ j : Nat) : Int) := ⟨_, rfl⟩
      rw [← hpp] at hj3 hps ⊢
      clear hpp
      go_wp2
      go_round
      case rel => exact ⟨j + 1, by omega, by go_num, by rw [← hps.out]⟩
      case measure => simp [intOf]; omega
    · obtain rfl : j = 2 := by omega
      clear hlt1 hj
      have hd : decide ((n : Int) < 4) = true := by simp; omega
      go_wp2
      go_ret3
      exact Ret3.mk rfl

set_option maxHeartbeats 800000 in
theorem rget_at2 (b off n cap : Nat) (c0 : UInt8) (r : List UInt8) (w : World) (hn : 0 < n) (h1 : n ≤ cap) (h2 : cap ≤ 9223372036854775807)
    (hq : c0.toNat / 64 = 2)
    (hc0 : w.cell? ⟨b, off, none⟩ = some (.int .u8 (c0.toNat : Int)))
    (hr : 3 ≤ r.length) (hlt : 4 ≤ n)
    (hc : ∀ i, i < 3 → w.cell? ⟨b, off + (i + 1), none⟩ = some (.int .u8 (by8 r i))) :
    Calls Tryz.prog 103 #[.slice (some ⟨b, off, none⟩) n cap] w (Ret3 (outS 4 (valS ((c0.toNat : Int) % 64) r 3)) w) := by
  have e1 : (c0.toNat : Int) / 64 = 2 := by omega
  have hp : (0 : Int) < (n : Int) := by omega
  have hne : ((n : Int) == 0) = false := by simp; omega
  have hm : 0 ≤ ((c0.toNat : Int) % 64) ∧ ((c0.toNat : Int) % 64) < 64 := by omega
  clear hq
  go_enter Tryz.func103, Tryz.ntmps103
  go_wp2
  go_loop [5, 6] (fun v i => ∃ j : Nat, j ≤ 2 ∧ i = .int .i64 j ∧ v = .int .i64 ((2 ^ j : Nat) : Int)) (fun _ i => 2 - (intOf i).toNat)
  case atStart => exact ⟨0, by omega, rfl, rfl⟩
  case round =>
    obtain ⟨j, hj, rfl, rfl⟩ := hrel
    by_cases hlt1 : j < 2
    · have hj3 : ((2 ^ j : Nat) : Int) ≤ 8 ∧ 0 ≤ ((2 ^ j : Nat) : Int) := by
        rcases (by omega : j = 0 ∨ j = 1 ∨ j = 2) with rfl | rfl | rfl <;> omega
      have hps := Lib.hid (show 2 * ((2 ^ j : Nat) : Int) = ((2 ^ (j + 1) : Nat) : Int) by rw [Nat.pow_succ]; omega)
      obtain ⟨p, hpp⟩ : ∃ p : Int, p = ((2 ^ j : Nat) : Int) := ⟨_, rfl⟩
      rw [← hpp] at hj3 hps ⊢
      clear hpp
      go_wp2
      go_round
      case rel => exact ⟨j + 1, by omega, by go_num, by rw [← hps.out]⟩
      case measure => simp [intOf]; omega
    · obtain rfl : j = 2 := by omega
      clear hlt1 hj
      have hd : decide ((n : Int) < 4) = false := by simp; omega
      go_wp2
      go_loop [7, 8] (fun v i => ∃ k : Nat, k ≤ 3 ∧ i = .int .i64 ((k : Int) + 1) ∧ v = .int .i64 (valS ((c0.toNat : Int) % 64) r k)) (fun _ i => 4 - (intOf i).toNat)
      case atStart => exact ⟨0, by omega, rfl, by rw [valS_zero]⟩
      case round =>
        obtain ⟨k, hk, rfl, rfl⟩ := hrel
        by_cases hlt2 : k < 3
        · have hb := valS_lt54 ((c0.toNat : Int) % 64) r k hm.1 hm.2 (by omega) (by omega)
          have hcell := hc k hlt2
          have hs := Lib.hid (valS_succ ((c0.toNat : Int) % 64) r k (by omega))
          have h8 := by8_bd r k
          have hk2 : (k : Int) + 1 < n := by omega
          go_wp2
          go_round
          case rel => exact ⟨k + 1, by omega, by go_num, by rw [hs.out, Int.mul_comm]⟩
          case measure => simp [intOf]; omega
        · obtain rfl : k = 3 := by omega
          have hb := valS_bd ((c0.toNat : Int) % 64) r 3 hm.1 hm.2 (by omega)
          clear hc hlt2
          generalize valS ((c0.toNat : Int) % 64) r 3 = v at *
          have hv0 : -9223372036854775808 ≤ v ∧ v ≤ 9223372036854775807 := by omega
          by_cases hv : sizeS v = 4
          · have hz : (sizeS v != 4) = false := by rw [hv]; rfl
            have HV := Lib.hid hv
            clear hv
            go_wp2_with (go_at_call 102; refine (rsize_c v hv0.1 hv0.2 _).mono ?_; rintro e w' ⟨rfl, rfl⟩)
            go_ret3
            exact Ret3.mk (outS_yes HV.out)
          · have hz : (sizeS v != 4) = true := by rw [bne_iff_ne]; exact hv
            have HV := Lib.hid hv
            clear hv
            go_wp2_with (go_at_call 102; refine (rsize_c v hv0.1 hv0.2 _).mono ?_; rintro e w' ⟨rfl, rfl⟩)
            go_ret3
            exact Ret3.mk (outS_no HV.out)

set_option maxHeartbeats 800000 in
theorem rget_cut3 (b off n cap : Nat) (c0 : UInt8) (w : World) (hn : 0 < n) (h1 : n ≤ cap) (h2 : cap ≤ 9223372036854775807)
    (hq : c0.toNat / 64 = 3)
    (hc0 : w.cell? ⟨b, off, none⟩ = some (.int .u8 (c0.toNat : Int)))
    (hlt : n < 8) :
    Calls Tryz.prog 103 #[.slice (some ⟨b, off, none⟩) n cap] w (Ret3 (0, 0, 10) w) := by
  have e1 : (c0.toNat : Int) / 64 = 3 := by omega
  have hp : (0 : Int) < (n : Int) := by omega
  have hne : ((n : Int) == 0) = false := by simp; omega
  have hm : 0 ≤ ((c0.toNat : Int) % 64) ∧ ((c0.toNat : Int) % 64) < 64 := by omega
  clear hq
  go_enter Tryz.func103, Tryz.ntmps103
  go_wp2
  go_loop [5, 6] (fun v i => ∃ j : Nat, j ≤ 3 ∧ i = .int .i64 j ∧ v = .int .i64 ((2 ^ j : Nat) : Int)) (fun _ i => 3 - (intOf i).toNat)
  case atStart => exact ⟨0, by omega, rfl, rfl⟩
  case round =>
    obtain ⟨j, hj, rfl, rfl⟩ := hrel
    by_cases hlt1 : j < 3
    · have hj3 : ((2 ^ j : Nat) : Int) ≤ 8 ∧ 0 ≤ ((2 ^ j : Nat) : Int) := by
        rcases (by omega : j = 0 ∨ j = 1 ∨ j = 2) with rfl | rfl | rfl <;> omega
      have hps := Lib.hid (show 2 * ((2 ^ j : Nat) : Int) = ((2 ^ (j + 1) : Nat) : Int) by rw [Nat.pow_succ]; omega)
      obtain ⟨p, hpp⟩ : ∃ p : Int, p = ((2 ^ j : Nat) : Int) := ⟨_, rfl⟩
      rw [← hpp] at hj3 hps ⊢
      clear hpp
      go_wp2
      go_round
      case rel => exact ⟨j + 1, by omega, by go_num, by rw [← hps.out]⟩
      case measure => simp [intOf]; omega
    · obtain rfl : j = 3 := by omega
      clear hlt1 hj
      have hd : decide ((n : Int) < 8) = true := by simp; omega
      go_wp2
      go_ret3
      exact Ret3.mk rfl

set_option maxHeartbeats 800000 in
theorem rget_at3 (b off n cap : Nat) (c0 : UInt8) (r : List UInt8) (w : World) (hn : 0 < n) (h1 : n ≤ cap) (h2 : cap ≤ 9223372036854775807)
    (hq : c0.toNat / 64 = 3)
    (hc0 : w.cell? ⟨b, off, none⟩ = some (.int .u8 (c0.toNat : Int)))
    (hr : 7 ≤ r.length) (hlt : 8 ≤ n)
    (hc : ∀ i, i < 7 → w.cell? ⟨b, off + (i + 1), none⟩ = some (.int .u8 (by8 r i))) :
    Calls Tryz.prog 103 #[.slice (some ⟨b, off, none⟩) n cap] w (Ret3 (outS 8 (valS ((c0.toNat : Int) % 64) r 7)) w) := by
  have e1 : (c0.toNat : Int) / 64 = 3 := by omega
  have hp : (0 : Int) < (n : Int) := by omega
  have hne : ((n : Int) == 0) = false := by simp; omega
  have hm : 0 ≤ ((c0.toNat : Int) % 64) ∧ ((c0.toNat : Int) % 64) < 64 := by omega
  clear hq
  go_enter Tryz.func103, Tryz.ntmps103
  go_wp2
  go_loop [5, 6] (fun v i => ∃ j : Nat, j ≤ 3 ∧ i = .int .i64 j ∧ v = .int .i64 ((2 ^ j : Nat) : Int)) (fun _ i => 3 - (intOf i).toNat)
  case atStart => exact ⟨0, by omega, rfl, rfl⟩
  case round =>
    obtain ⟨j, hj, rfl, rfl⟩ := hrel
    by_cases hlt1 : j < 3
    · have hj3 : ((2 ^ j : Nat) : Int) ≤ 8 ∧ 0 ≤ ((2 ^ j : Nat) : Int) := by
        rcases (by omega : j = 0 ∨ j = 1 ∨ j = 2) with rfl | rfl | rfl <;> omega
      have hps := Lib.hid (show 2 * ((2 ^ j : Nat) : Int) = ((2 ^ (j + 1) : Nat) : Int) by rw [Nat.pow_succ]; omega)
      obtain ⟨p, hpp⟩ : ∃ p : Int, p = ((2 ^ j : Nat) : Int) := ⟨_, rfl⟩
      rw [← hpp] at hj3 hps ⊢
      clear hpp
      go_wp2
      go_round
      case rel => exact ⟨j + 1, by omega, by go_num, by rw [← hps.out]⟩
      case measure => simp [intOf]; omega
    · obtain rfl : j = 3 := by omega
      clear hlt1 hj
      have hd : decide ((n : Int) < 8) = false := by simp; omega
      go_wp2
      go_loop [7, 8] (fun v i => ∃ k : Nat, k ≤ 7 ∧ i = .int .i64 ((k : Int) + 1) ∧ v = .int .i64 (valS ((c0.toNat : Int) % 64) r k)) (fun _ i => 8 - (intOf i).toNat)
      case atStart => exact ⟨0, by omega, rfl, by rw [valS_zero]⟩
      case round =>
        obtain ⟨k, hk, rfl, rfl⟩ := hrel
        by_cases hlt2 : k < 7
        · have hb := valS_lt54 ((c0.toNat : Int) % 64) r k hm.1 hm.2 (by omega) (by omega)
          have hcell := hc k hlt2
          have hs := Lib.hid (valS_succ ((c0.toNat : Int) % 64) r k (by omega))
          have h8 := by8_bd r k
          have hk2 : (k : Int) + 1 < n := by omega
          go_wp2
          go_round
          case rel => exact ⟨k + 1, by omega, by go_num, by rw [hs.out, Int.mul_comm]⟩
          case measure => simp [intOf]; omega
        · obtain rfl : k = 7 := by omega
          have hb := valS_bd ((c0.toNat : Int) % 64) r 7 hm.1 hm.2 (by omega)
          clear hc hlt2
          generalize valS ((c0.toNat : Int) % 64) r 7 = v at *
          have hv0 : -9223372036854775808 ≤ v ∧ v ≤ 9223372036854775807 := by omega
          by_cases hv : sizeS v = 8
          · have hz : (sizeS v != 8) = false := by rw [hv]; rfl
            have HV := Lib.hid hv
            clear hv
            go_wp2_with (go_at_call 102; refine (rsize_c v hv0.1 hv0.2 _).mono ?_; rintro e w' ⟨rfl, rfl⟩)
            go_ret3
            exact Ret3.mk (outS_yes HV.out)
          · have hz : (sizeS v != 8) = true := by rw [bne_iff_ne]; exact hv
            have HV := Lib.hid hv
            clear hv
            go_wp2_with (go_at_call 102; refine (rsize_c v hv0.1 hv0.2 _).mono ?_; rintro e w' ⟨rfl, rfl⟩)
            go_ret3
            exact Ret3.mk (outS_no HV.out)

/-- rget: what bytes begin with. -/
theorem rget_c {w : World} {a : Option Addr} {n cap : Nat} {l : List UInt8} (h : Bys w a n cap l) : Calls Tryz.prog 103 #[.slice a n cap] w (Ret3 (getS l) w) := by
  obtain ⟨hlen, hle, hmax, hadr⟩ := h
  cases l with
  | nil => simp at hlen; subst hlen; exact rget_nil a cap w
  | cons c0 r =>
    simp at hlen
    rcases hadr with h0 | ⟨b, off, rfl, hc⟩
    · omega
    have hc0 : w.cell? ⟨b, off, none⟩ = some (.int .u8 (c0.toNat : Int)) := hc 0 (by omega)
    have hcs : ∀ i, i < n - 1 → w.cell? ⟨b, off + (i + 1), none⟩ = some (.int .u8 (by8 r i)) := fun i hi => by
      have := hc (i + 1) (by omega)
      rw [by8_cons] at this
      rw [show off + (i + 1) = off + (i + 1) by omega]; exact this
    have hlt := c0.toNat_lt
    rcases (by omega : c0.toNat / 64 = 0 ∨ c0.toNat / 64 = 1 ∨ c0.toNat / 64 = 2 ∨ c0.toNat / 64 = 3) with hq | hq | hq | hq
    · simp only [getS, hq]; rw [if_neg (by omega)]
      exact rget_at0 b off n cap c0 r w (by omega) hle hmax hq hc0 (by omega) (by omega) (fun i hi => hcs i (by omega))
    · simp only [getS, hq]
      by_cases hs : n < 2
      · rw [if_pos (by omega)]; exact rget_cut1 b off n cap c0 w (by omega) hle hmax hq hc0 hs
      · rw [if_neg (by omega)]; exact rget_at1 b off n cap c0 r w (by omega) hle hmax hq hc0 (by omega) (by omega) (fun i hi => hcs i (by omega))
    · simp only [getS, hq]
      by_cases hs : n < 4
      · rw [if_pos (by omega)]; exact rget_cut2 b off n cap c0 w (by omega) hle hmax hq hc0 hs
      · rw [if_neg (by omega)]; exact rget_at2 b off n cap c0 r w (by omega) hle hmax hq hc0 (by omega) (by omega) (fun i hi => hcs i (by omega))
    · simp only [getS, hq]
      by_cases hs : n < 8
      · rw [if_pos (by omega)]; exact rget_cut3 b off n cap c0 w (by omega) hle hmax hq hc0 hs
      · rw [if_neg (by omega)]; exact rget_at3 b off n cap c0 r w (by omega) hle hmax hq hc0 (by omega) (by omega) (fun i hi => hcs i (by omega))
end Go.Proofs.YtioeimkaljmffaaGreatDoor
end

section
namespace Go.Proofs.YtioeimkaljmffaaGreatDoor
open Go.RowKit
set_option linter.unusedVariables false

/-- The bytes from the second one on, wherever their slice leads. -/
theorem tail_bys {w : World} {b off n cap : Nat} {l : List UInt8} (hb : Bys w (some ⟨b, off, none⟩) n cap l) (hn : 0 < n) :
    (cap = 1 → Bys w (some ⟨b, off, none⟩) (n - 1) (cap - 1) (l.drop 1)) ∧ Bys w (some ⟨b, off + 1, none⟩) (n - 1) (cap - 1) (l.drop 1) :=
  ⟨fun h => hb.dropEnd hn h, by have := hb.drop (q := 1) hn; rwa [Option.map_some, addr_add] at this⟩

set_option maxRecDepth 100000 in
set_option maxHeartbeats 1600000 in
theorem find_c {w : World} {a : Option Addr} {n cap : Nat} {l : List UInt8} (hb : Bys w a n cap l) (hn : n ≤ 100000) :
    Calls Tryz.prog 177 #[.slice a n cap] w (Ret3 (findS l) w) := by
  have hlen := hb.len
  have hle := hb.le
  have hmax := hb.max
  by_cases h0 : n = 0
  · subst h0
    obtain rfl := List.eq_nil_of_length_eq_zero hlen
    go_enter Tryz.func177, Tryz.ntmps177
    go_wp2
    go_ret3
    exact Ret3.mk findS_nil
  have hpos : 0 < n := by omega
  have hne : ((n : Int) == 0) = false := by rw [beq_eq_false_iff_ne]; omega
  obtain ⟨b, off, rfl, hcs⟩ : ∃ b off, a = some ⟨b, off, none⟩ ∧ ∀ i, i < n → w.cell? ⟨b, off + i, none⟩ = some (.int .u8 (by8 l i)) := by
    rcases hb.adr with h | h
    · omega
    · exact h
  have hc0 : w.cell? ⟨b, off, none⟩ = some (.int .u8 (by8 l 0)) := hcs 0 hpos
  have hlp : 0 < l.length := by omega
  have hn1 : (0 : Int) < (n : Int) := by omega
  clear hcs
  by_cases hm : byt8 l 0 = 181
  · have hm1 : by8 l 0 = 181 := by rw [by8_byt8, hm]; rfl
    rw [hm1] at hc0
    have htl := tail_bys hb hpos
    have ht : ∀ q, q ≤ n → Bys w (some ⟨b, off, none⟩) q cap (l.take q) := fun q hq => hb.take hq
    have HLEN := Lib.hid hlen
    have HT := Lib.hid ht
    clear hlen hm1 h0 ht
    rcases getS_cases (l.drop 1) with ⟨ge, hg, he⟩ | ⟨gn, gk, hg, h1, h2, h3⟩
    · have hf := Lib.hid (findS_get hlp hm hg he)
      have hb1 : (ge != 0) = true := by rw [bne_iff_ne]; exact he
      have hg1 : ∀ a c, Bys w a (n - 1) c (l.drop 1) → Calls Tryz.prog 187 #[.slice a (n - 1) c] w (Ret3 (0, 0, ge) w) := fun a c h => hg ▸ get_c h
      have HG := Lib.hid hg1
      clear hg hg1 hm he hb
      by_cases hc1 : cap = 1
      · obtain rfl : n = 1 := by omega
        have hd := htl.1 hc1
        subst hc1
        clear htl
        go_enter Tryz.func177, Tryz.ntmps177
        go_wp2_with (go_at_call 187; refine (HG.out _ _ hd).mono ?_; rintro e w' ⟨rfl, rfl⟩)
        go_ret3
        exact Ret3.mk hf.out
      · have hd := htl.2
        clear htl
        go_enter Tryz.func177, Tryz.ntmps177
        go_wp2_with (go_at_call 187; refine (HG.out _ _ hd).mono ?_; rintro e w' ⟨rfl, rfl⟩)
        go_ret3
        exact Ret3.mk hf.out
    · rw [List.length_drop] at h2
      have hq2 : 1 + gk ≤ n := by have := HLEN.out; omega
      have hc1 : ¬ cap = 1 := by omega
      have hd := htl.2
      have hg1 : ∀ a c, Bys w a (n - 1) c (l.drop 1) → Calls Tryz.prog 187 #[.slice a (n - 1) c] w (Ret3 (gn, gk, 0) w) := fun a c h => hg ▸ get_c h
      have HG := Lib.hid hg1
      clear hg1 htl hb h2
      by_cases hl : 1048576 < gn
      · have hf := Lib.hid (findS_long hlp hm hg (by omega))
        have hb1 : decide ((1048576 : Int) < (gn : Int)) = true := by simp; omega
        clear hg hm
        go_enter Tryz.func177, Tryz.ntmps177
        go_wp2_with (go_at_call 187; refine (HG.out _ _ hd).mono ?_; rintro e w' ⟨rfl, rfl⟩)
        go_ret3
        exact Ret3.mk hf.out
      have hb1 : decide ((1048576 : Int) < (gn : Int)) = false := by simp; omega
      by_cases hc : 1 + gk + gn + 4 ≤ n
      · have hb2 : decide ((n : Int) - (1 + (gk : Int)) < (gn : Int) + 4) = false := by simp; omega
        have hl1 : 1 + gk + gn + 4 ≤ l.length := by rw [HLEN.out]; exact hc
        have htk := HT.out (1 + gk + gn + 4) hc
        have hi : (1 : Int) + (gk : Int) + (gn : Int) + 4 ≤ (cap : Int) ∧ (0 : Int) ≤ 1 + (gk : Int) + (gn : Int) + 4 := by omega
        cases hr : rightS (l.take (1 + gk + gn + 4)) with
        | false =>
          have hf := Lib.hid (findS_sum hlp hm hg hl hl1 hr)
          have hrc := right_c htk
          rw [hr] at hrc
          have HR := Lib.hid hrc
          clear hr hrc hg hm hl htk
          go_enter Tryz.func177, Tryz.ntmps177
          go_wp2_with (first
            | (go_at_call 187; refine (HG.out _ _ hd).mono ?_; rintro e w' ⟨rfl, rfl⟩)
            | (go_at_call 188; refine (HR.out).mono ?_; rintro e w' ⟨rfl, rfl⟩))
          go_ret3
          exact Ret3.mk hf.out
        | true =>
          have hf := Lib.hid (findS_good hlp hm hg hl hl1 hr)
          have hrc := right_c htk
          rw [hr] at hrc
          have HR := Lib.hid hrc
          clear hr hrc hg hm hl htk
          go_enter Tryz.func177, Tryz.ntmps177
          go_wp2_with (first
            | (go_at_call 187; refine (HG.out _ _ hd).mono ?_; rintro e w' ⟨rfl, rfl⟩)
            | (go_at_call 188; refine (HR.out).mono ?_; rintro e w' ⟨rfl, rfl⟩))
          go_ret3
          exact Ret3.mk (by rw [hf.out]; simp)
      · have hf := Lib.hid (findS_cut hlp hm hg (by omega) (by rw [HLEN.out]; omega))
        have hb2 : decide ((n : Int) - (1 + (gk : Int)) < (gn : Int) + 4) = true := by simp; omega
        clear hg hm hl hc
        go_enter Tryz.func177, Tryz.ntmps177
        go_wp2_with (go_at_call 187; refine (HG.out _ _ hd).mono ?_; rintro e w' ⟨rfl, rfl⟩)
        go_ret3
        exact Ret3.mk hf.out
  · have hf := Lib.hid (findS_mark hlp hm)
    have hb1 : (by8 l 0 != 181) = true := by rw [bne_iff_ne, by8_byt8]; intro h; exact hm (UInt8.toNat_inj.1 (by have : ((byt8 l 0).toNat : Int) = 181 := h; show _ = 181; omega))
    have h8 := by8_bd l 0
    clear hm hlen h0
    go_enter Tryz.func177, Tryz.ntmps177
    go_wp2
    go_ret3
    exact Ret3.mk hf.out
end Go.Proofs.YtioeimkaljmffaaGreatDoor
end

section
namespace Go.Proofs.YtioeimkaljmffaaGreatDoor
open Go.RowKit
set_option linter.unusedVariables false

/-- What Open tells. -/
def OpenPost (l : List UInt8) (w : World) (e : Ending) (w' : World) : Prop :=
  ∃ v, e = .returned (.tuple #[v, .int .i64 (openS l).2.1, .int .i64 (openS l).2.2]) ∧ OwnB w' w.heap.size 5 v (openS l).1 ∧ Below w.heap.size w w'
theorem OwnB.nil (w : World) (B : Nat) (e : TypeId) : OwnB w B e (.slice none 0 0) [] := World.ownsRow_nil _ _ _ _
theorem OpenPost.bad {l : List UInt8} {w w' : World} {e : Int} (h : openS l = ([], 0, e)) (hb : Below w.heap.size w w') : OpenPost l w (.returned (.tuple #[.slice none 0 0, .int .i64 0, .int .i64 e])) w' := by
  unfold OpenPost; rw [h]; exact ⟨_, rfl, OwnB.nil _ _ _, hb⟩
theorem OpenPost.good {l m : List UInt8} {w w' : World} {k : Int} {v : Value} (h : openS l = (m, k, 0)) (ho : OwnB w' w.heap.size 5 v m) (hb : Below w.heap.size w w') : OpenPost l w (.returned (.tuple #[v, .int .i64 k, .int .i64 0])) w' := by
  unfold OpenPost; rw [h]; exact ⟨_, rfl, ho, hb⟩

set_option maxRecDepth 100000 in
set_option maxHeartbeats 1600000 in
theorem open_c {w : World} {a : Option Addr} {n cap : Nat} {l : List UInt8} (hb : Bys w a n cap l) (hn : n ≤ 100000) :
    Calls Tryz.prog 158 #[.slice a n cap] w (OpenPost l w) := by
  have hle := hb.le
  have hmax := hb.max
  have hlen := hb.len
  rcases findS_cases l with ⟨e, hf, he⟩ | ⟨s, t, hf, h2, hst, ht4⟩
  · have hO := Lib.hid (openS_bad hf he)
    have hfc := find_c hb hn
    rw [hf] at hfc
    have HF := Lib.hid hfc
    have hb1 : (e != 0) = true := by rw [bne_iff_ne]; exact he
    clear hf hfc he hlen
    go_enter Tryz.func158, Tryz.ntmps158
    go_wp2_with (go_at_call 177; refine (HF.out).mono ?_; rintro e w' ⟨rfl, rfl⟩)
    go_ret3
    exact OpenPost.bad hO.out (Below.refl _ _)
  · obtain ⟨d, rfl⟩ : ∃ d, t = s + d := ⟨t - s, by omega⟩
    have hO := openS_good hf
    rw [Nat.add_sub_cancel_left] at hO
    have HO := Lib.hid hO
    have hfc := find_c hb hn
    rw [hf] at hfc
    have HF := Lib.hid hfc
    obtain ⟨i0, hi, hz0, hz1, hz2⟩ := info_parts Tryz.info5
    have hszi : (Tryz.prog.info? 5).map (·.size) = some 1 := by rw [hi]; simp [hz1]
    obtain ⟨b, off, rfl⟩ : ∃ b off, a = some ⟨b, off, none⟩ := by
      rcases hb.adr with h | ⟨b, off, h, _⟩
      · omega
      · exact ⟨b, off, h⟩
    have hsrc : Bys w (some ⟨b, off + s, none⟩) d (cap - s) ((l.drop s).take d) := by
      have h1 := hb.drop (q := s) (by omega)
      rw [Option.map_some, addr_add] at h1
      exact h1.take (by omega)
    obtain ⟨m, hm⟩ : ∃ m, (l.drop s).take d = m := ⟨_, rfl⟩
    rw [hm] at hsrc HO
    have hml : m.length = d := hsrc.len
    subst hml
    have hi1 : (s : Int) ≤ (s : Int) + (m.length : Int) ∧ (s : Int) + (m.length : Int) ≤ (cap : Int) ∧ ¬ cap = s ∧ s + m.length ≤ cap ∧ m.length ≤ 100000 ∧ s ≤ 100000 := by omega
    clear hf hfc hO hm hlen hb ht4 hst
    go_enter Tryz.func158, Tryz.ntmps158
    go_wp2_with (first
      | (go_at_call 177; refine (HF.out).mono ?_; rintro e w' ⟨rfl, rfl⟩)
      | (at_make; refine wpList_make_full _ rfl _ _ 34 rfl w.heap.size 5 i0 (.int .u8 0) 1 Tryz.underlying34 hi hz0 hz1 .i64 .i64 _ _ m.length rfl rfl ?c1 ?c2 ?c3 ?c4 ?c5 ?_))
    case c1 => first | omega | (simp; done) | (simp; omega)
    case c2 => first | omega | (simp; done) | (simp; omega)
    case c3 => rw [hz2]; omega
    case c4 => unfold maxLen; omega
    case c5 => exact Nat.le_refl _
    intro w1 hown hgr
    have hbel : Below w.heap.size w w1 := (Below.refl _ _).grown hgr (Nat.le_refl _) (fun k hk => by cases hk)
    have HH := Lib.hid (show w1.heap[w.heap.size]? = some (.cells (List.replicate m.length (Value.int .u8 0)).toArray 5 (0, 0)) from heap_of_made hown)
    have hcl : (u8v m).length = m.length := u8v_length m
    have HP := Lib.hid (show 0 < (u8v m).length → ∃ ad, (some ⟨b, off + s, none⟩ : Option Addr) = some ad ∧ ∀ j v, (u8v m)[j]? = some v → w1.cell? (ad.add j) = some v from fun hp => (hsrc.below hbel).cells (by rw [hcl] at hp; exact hp))
    have HM := Lib.hid (show (u8v m).length = Nat.min (s + m.length - s) m.length by rw [hcl, Nat.add_sub_cancel_left]; exact (Nat.min_self _).symm)
    have hfit : 0 + (u8v m).length ≤ (List.replicate m.length (Value.int .u8 0)).length := by rw [hcl]; simp
    clear hown hgr hcl
    go_wp2_with (with_reducible refine wpList_copy_splice rfl (.tmp 22) (.tmp 26) 34 34 rfl 5 Tryz.underlying34 hszi (some ⟨w.heap.size, 0, none⟩) (some ⟨b, off + s, none⟩) m.length m.length (s + m.length - s) (cap - s) rfl rfl w.heap.size 0 (List.replicate m.length (Value.int .u8 0)) 5 HH.out (u8v m) HM.out (fun hp => ⟨rfl, HP.out hp⟩) hfit (u8v_one m) w.heap.size w hbel (Nat.le_refl _) ?_; intro w4 hg4 hb4)
    go_ret3
    have ho := own_copied (k := 0) (Nat.le_refl w.heap.size) (by omega) hg4.out
    exact OpenPost.good (m := m) (by rw [HO.out]; simp) (by simpa [OwnB] using ho) hb4

set_option maxRecDepth 100000 in
set_option maxHeartbeats 1600000 in
theorem ropen_c {w : World} {a : Option Addr} {n cap : Nat} {l : List UInt8} (hb : Bys w a n cap l) (hn : n ≤ 100000) :
    Calls Tryz.prog 63 #[.slice a n cap] w (OpenPost l w) := by
  have hlen := hb.len
  have hle := hb.le
  have hmax := hb.max
  by_cases h0 : n = 0
  · subst h0
    obtain rfl := List.eq_nil_of_length_eq_zero hlen
    go_enter Tryz.func63, Tryz.ntmps63
    go_wp2
    go_ret3
    exact OpenPost.bad rfl (Below.refl _ _)
  have hpos : 0 < n := by omega
  have hne : ((n : Int) == 0) = false := by rw [beq_eq_false_iff_ne]; omega
  obtain ⟨b, off, rfl, hcs⟩ : ∃ b off, a = some ⟨b, off, none⟩ ∧ ∀ i, i < n → w.cell? ⟨b, off + i, none⟩ = some (.int .u8 (by8 l i)) := by
    rcases hb.adr with h | h
    · omega
    · exact h
  have hc0 : w.cell? ⟨b, off, none⟩ = some (.int .u8 (by8 l 0)) := hcs 0 hpos
  have hlp : 0 < l.length := by omega
  have hn1 : (0 : Int) < (n : Int) := by omega
  clear hcs
  by_cases hm : byt8 l 0 = 181
  · have hm1 : by8 l 0 = 181 := by rw [by8_byt8, hm]; rfl
    rw [hm1] at hc0
    have htl := tail_bys hb hpos
    have ht : ∀ q, q ≤ n → Bys w (some ⟨b, off, none⟩) q cap (l.take q) := fun q hq => hb.take hq
    have HLEN := Lib.hid hlen
    have HT := Lib.hid ht
    clear hlen hm1 h0 ht
    rcases getS_cases (l.drop 1) with ⟨ge, hg, he⟩ | ⟨gn, gk, hg, h1, h2, h3⟩
    · have hf := Lib.hid (openS_bad (findS_get hlp hm hg he) he)
      have hb1 : (ge != 0) = true := by rw [bne_iff_ne]; exact he
      have hg1 : ∀ a c, Bys w a (n - 1) c (l.drop 1) → Calls Tryz.prog 103 #[.slice a (n - 1) c] w (Ret3 (0, 0, ge) w) := fun a c h => hg ▸ rget_c h
      have HG := Lib.hid hg1
      clear hg hg1 hm he hb
      by_cases hc1 : cap = 1
      · obtain rfl : n = 1 := by omega
        have hd := htl.1 hc1
        subst hc1
        clear htl
        go_enter Tryz.func63, Tryz.ntmps63
        go_wp2_with (go_at_call 103; refine (HG.out _ _ hd).mono ?_; rintro e w' ⟨rfl, rfl⟩)
        go_ret3
        exact OpenPost.bad hf.out (Below.refl _ _)
      · have hd := htl.2
        clear htl
        go_enter Tryz.func63, Tryz.ntmps63
        go_wp2_with (go_at_call 103; refine (HG.out _ _ hd).mono ?_; rintro e w' ⟨rfl, rfl⟩)
        go_ret3
        exact OpenPost.bad hf.out (Below.refl _ _)
    · rw [List.length_drop] at h2
      have hq2 : 1 + gk ≤ n := by have := HLEN.out; omega
      have hc1 : ¬ cap = 1 := by omega
      have hd := htl.2
      have hg1 : ∀ a c, Bys w a (n - 1) c (l.drop 1) → Calls Tryz.prog 103 #[.slice a (n - 1) c] w (Ret3 (gn, gk, 0) w) := fun a c h => hg ▸ rget_c h
      have HG := Lib.hid hg1
      have hbk := Lib.hid hb
      clear hg1 htl hb h2
      by_cases hl : 1048576 < gn
      · have hf := Lib.hid (openS_bad (findS_long hlp hm hg (by omega)) (by decide))
        have hb1 : decide ((1048576 : Int) < (gn : Int)) = true := by simp; omega
        clear hg hm
        go_enter Tryz.func63, Tryz.ntmps63
        go_wp2_with (go_at_call 103; refine (HG.out _ _ hd).mono ?_; rintro e w' ⟨rfl, rfl⟩)
        go_ret3
        exact OpenPost.bad hf.out (Below.refl _ _)
      have hb1 : decide ((1048576 : Int) < (gn : Int)) = false := by simp; omega
      by_cases hc : 1 + gk + gn + 4 ≤ n
      · have hb2 : decide ((n : Int) < (1 : Int) + (gk : Int) + (gn : Int) + 4) = false := by simp; omega
        have hl1 : 1 + gk + gn + 4 ≤ l.length := by rw [HLEN.out]; exact hc
        have htk := HT.out (1 + gk + gn + 4) hc
        have hi : (1 : Int) + (gk : Int) + (gn : Int) + 4 ≤ (cap : Int) ∧ (0 : Int) ≤ 1 + (gk : Int) + (gn : Int) + 4 := by omega
        cases hr : rightS (l.take (1 + gk + gn + 4)) with
        | false =>
          have hf := Lib.hid (openS_bad (findS_sum hlp hm hg hl hl1 hr) (by decide))
          have hrc := rright_c htk (by omega)
          rw [hr] at hrc
          have HR := Lib.hid hrc
          clear hr hrc hg hm hl htk
          go_enter Tryz.func63, Tryz.ntmps63
          go_wp2_with (first
            | (go_at_call 103; refine (HG.out _ _ hd).mono ?_; rintro e w' ⟨rfl, rfl⟩)
            | (go_at_call 104; refine (HR.out).mono ?_; rintro e w1 ⟨rfl, hbr⟩))
          go_ret3
          exact OpenPost.bad hf.out hbr
        | true =>
          have hf := openS_good (findS_good hlp hm hg hl hl1 hr)
          rw [show 1 + gk + gn - (1 + gk) = gn by omega] at hf
          have hsrc : Bys w (some ⟨b, off + (1 + gk), none⟩) gn (cap - (1 + gk)) ((l.drop (1 + gk)).take gn) := by
            have h1 := hbk.out.drop (q := 1 + gk) hq2
            rw [Option.map_some, addr_add] at h1
            exact h1.take (by omega)
          obtain ⟨m, hmm⟩ : ∃ m, (l.drop (1 + gk)).take gn = m := ⟨_, rfl⟩
          rw [hmm] at hsrc hf
          have HF := Lib.hid hf
          have hrc := rright_c htk (by omega)
          rw [hr] at hrc
          have HR := Lib.hid hrc
          obtain ⟨i0, hi0, hz0, hz1, hz2⟩ := info_parts Tryz.info5
          have hi2 : (1 : Int) + (gk : Int) ≤ 1 + (gk : Int) + (gn : Int) ∧ (1 : Int) + (gk : Int) + (gn : Int) ≤ (cap : Int) ∧ ¬ cap = 1 + gk ∧ 1 + gk + gn ≤ cap ∧ gn ≤ 100000 := by omega
          clear hr hrc hg hm hl htk hf hmm
          go_enter Tryz.func63, Tryz.ntmps63
          go_wp2_with (first
            | (go_at_call 103; refine (HG.out _ _ hd).mono ?_; rintro e w' ⟨rfl, rfl⟩)
            | (go_at_call 104; refine (HR.out).mono ?_; rintro e w1 ⟨rfl, hbr⟩; have hal := (Below.refl w1.heap.size w1).alloc (Nat.le_refl _) (.cells #[] 5); have hoe := OwnB.empty w1 w1.heap.size 5 (Nat.le_refl _); have hs1 : Bys _ _ (1 + gk + gn - (1 + gk)) _ _ := (Nat.add_sub_cancel_left (1 + gk) gn).symm ▸ ((hsrc.below hbr).below hal))
            | (at_builtin; refine wpList_append_bys rfl (.tmp 42) (.tmp 50) 34 rfl Tryz.underlying34 hi0 hz0 hz1 hz2 rfl rfl hoe rfl hs1 (by simp; omega) (by simp) ?_; intro v2 w2 ho2 hg2))
          go_ret3
          have b2 : Below w1.heap.size w1 w2 := hal.grown hg2 (by simp) (fun k hk => (hoe.lt k hk).1)
          exact OpenPost.good (m := m) (by rw [HF.out]; simp) (by rw [List.nil_append] at ho2; exact ho2.mono hbr.size) (hbr.trans (b2.mono hbr.size))
      · have hf := Lib.hid (openS_bad (findS_cut hlp hm hg (by omega) (by rw [HLEN.out]; omega)) (by decide))
        have hb2 : decide ((n : Int) < (1 : Int) + (gk : Int) + (gn : Int) + 4) = true := by simp; omega
        clear hg hm hl hc
        go_enter Tryz.func63, Tryz.ntmps63
        go_wp2_with (go_at_call 103; refine (HG.out _ _ hd).mono ?_; rintro e w' ⟨rfl, rfl⟩)
        go_ret3
        exact OpenPost.bad hf.out (Below.refl _ _)
  · have hf := Lib.hid (openS_bad (findS_mark hlp hm) (by decide))
    have hb1 : (by8 l 0 != 181) = true := by rw [bne_iff_ne, by8_byt8]; intro h; exact hm (UInt8.toNat_inj.1 (by have : ((byt8 l 0).toNat : Int) = 181 := h; show _ = 181; omega))
    have h8 := by8_bd l 0
    clear hm hlen h0
    go_enter Tryz.func63, Tryz.ntmps63
    go_wp2
    go_ret3
    exact OpenPost.bad hf.out (Below.refl _ _)
end Go.Proofs.YtioeimkaljmffaaGreatDoor
end

section
namespace Go.Proofs.YtioeimkaljmffaaGreatDoor
open Go.RowKit Go.Shelf Go
set_option linter.unusedVariables false

/-- What Open can tell of its size. -/
theorem openS_cases (l : List UInt8) : (∃ e, openS l = ([], 0, e) ∧ ¬ e = 0) ∨ (∃ (m : List UInt8) (k : Nat), openS l = (m, (k : Int), 0) ∧ 6 ≤ k ∧ k ≤ l.length ∧ m.length + 6 ≤ k) := by
  rcases findS_cases l with ⟨e, hf, he⟩ | ⟨s, t, hf, h2, hst, ht⟩
  · exact .inl ⟨e, openS_bad hf he, he⟩
  · exact .inr ⟨_, t + 4, openS_good hf, by omega, by omega, by simp; omega⟩

/-- What is handed over: a slice, the bytes that it reads as, how many bytes the frame has, the error. -/
structure Fx where
  v : Value
  m : List UInt8
  size : Int
  e : Int
def Fx.encs (x : Fx) : Array Value := #[.agg #[x.v, .int .i64 x.size], .int .i64 x.e]

/-- What is known of what is handed over, behind so many. -/
def Fx.good (pre : List Fx) (x : Fx) : Prop := pre.length < 100000 ∧ (∃ a n c, x.v = .slice a n c) ∧ 0 ≤ x.size ∧ x.size ≤ 100000

/-- What has been handed over from the beginning on to place a. -/
inductive Walked (l : List UInt8) (B : Nat) (W : World) : List Fx → Nat → Prop
  | nil : Walked l B W [] 0
  | snoc {pre : List Fx} {a : Nat} {x : Fx} (h : Walked l B W pre a) (hok : ∀ y ∈ pre, y.e = 0) (ha : a < l.length) (ho : openS (l.drop a) = (x.m, x.size, x.e)) (hv : OwnB W B 5 x.v x.m) : Walked l B W (pre ++ [x]) (a + x.size.toNat)

theorem Walked.le {l : List UInt8} {B : Nat} {W : World} {xs : List Fx} {a : Nat} (h : Walked l B W xs a) (hok : ∀ y ∈ xs, y.e = 0) : xs.length ≤ a ∧ a ≤ l.length := by
  induction h with
  | nil => exact ⟨Nat.le_refl _, Nat.zero_le _⟩
  | snoc h hok' ha ho hv ih =>
    rename_i pre a x
    have hx := hok x (by simp)
    obtain ⟨h1, h2⟩ := ih hok'
    rcases openS_cases (l.drop a) with ⟨e, he, hne⟩ | ⟨m', k', he, h6, hkl, _⟩
    · rw [ho] at he; injection he with he1 he2; injection he2 with he2 he3; rw [hx] at he3; exact absurd he3.symm hne
    · rw [ho] at he
      injection he with he1 he2
      injection he2 with he2 he3
      rw [List.length_drop] at hkl
      simp; omega

/-- What a round keeps: what lay below, what holds bytes, and the box of the slice. -/
structure KB (n₀ Bn : Nat) (W W' : World) : Prop where
  below : Below n₀ W W'
  bytes : ∀ (k : Nat) cs fr, W.heap[k]? = some (.cells cs 5 fr) → W'.heap[k]? = some (.cells cs 5 fr)
  box : ∀ (o : Obj), W.heap[Bn]? = some o → W'.heap[Bn]? = some o
theorem KB.refl (n₀ Bn : Nat) (W : World) : KB n₀ Bn W W := ⟨Below.refl _ _, fun _ _ _ h => h, fun _ h => h⟩
theorem KB.trans {n₀ Bn : Nat} {A B C : World} (h : KB n₀ Bn A B) (k : KB n₀ Bn B C) : KB n₀ Bn A C :=
  ⟨h.below.trans k.below, fun i cs fr hi => k.bytes i cs fr (h.bytes i cs fr hi), fun o ho => k.box o (h.box o ho)⟩
theorem KB.of_below {n₀ Bn : Nat} {W W' : World} (hn : n₀ ≤ W.heap.size) (h : Below W.heap.size W W') : KB n₀ Bn W W' :=
  ⟨h.mono hn, fun k cs fr hk => (h.block k (Array.getElem?_eq_some_iff.1 hk).1).trans hk, fun o hk => (h.block Bn (Array.getElem?_eq_some_iff.1 hk).1).trans hk⟩
theorem KB.putObj {n₀ Bn : Nat} (W : World) (l : Nat) (o o' : Obj) (hl : n₀ ≤ l) (hb : Bn < l) (h : W.heap[l]? = some o) (ho : o.isCells = false) : KB n₀ Bn W (W.putObj l o') :=
  ⟨(Below.refl n₀ W).grown (grownBy_putObj' W l o') (by have := (Array.getElem?_eq_some_iff.1 h).1; omega) (fun k e => by cases e; omega),
   fun k cs fr hk => (World.putObj_heap_other (by rintro rfl; rw [h] at hk; cases hk; cases ho)).trans hk,
   fun o hk => (World.putObj_heap_other (by omega)).trans hk⟩
/-- What holds bytes is as it was. -/
def SameBytes (W W' : World) : Prop := ∀ (k : Nat) cs fr, W.heap[k]? = some (.cells cs 5 fr) → W'.heap[k]? = some (.cells cs 5 fr)
theorem SameBytes.turn {X Y : World} {row : Option Nat} (hg : X.grownBy Y row) (hr : ∀ r, row = some r → ∃ o : Obj, X.heap[r]? = some o ∧ o.isCells = false) : SameBytes X Y :=
  fun k cs fr hk => (hg.block k (Array.getElem?_eq_some_iff.1 hk).1 (fun e => by obtain ⟨o, ho, hc⟩ := hr k e.symm; rw [hk] at ho; cases ho; cases hc)).trans hk
theorem OwnB.keptBytes {W W' : World} {B : Nat} {v : Value} {m : List UInt8} (h : OwnB W B 5 v m) (k : SameBytes W W') : OwnB W' B 5 v m := by
  refine ⟨h.1, ?_⟩
  rcases h.2 with hn | ⟨g, cap, cur, rfl, hB, hg, rest⟩
  · exact .inl hn
  · exact .inr ⟨g, cap, cur, rfl, hB, k _ _ _ hg, rest⟩
theorem Walked.keptBytes {l : List UInt8} {B : Nat} {W W' : World} {xs : List Fx} {a : Nat} (h : Walked l B W xs a) (k : SameBytes W W') : Walked l B W' xs a := by
  induction h with
  | nil => exact .nil
  | snoc h hok ha ho hv ih => exact .snoc ih hok ha ho (hv.keptBytes k)
theorem OwnB.keptKB {n₀ Bn : Nat} {W W' : World} {B : Nat} {v : Value} {m : List UInt8} (h : OwnB W B 5 v m) (k : KB n₀ Bn W W') : OwnB W' B 5 v m := h.keptBytes k.bytes
theorem Walked.kept {l : List UInt8} {B n₀ Bn : Nat} {W W' : World} {xs : List Fx} {a : Nat} (h : Walked l B W xs a) (k : KB n₀ Bn W W') : Walked l B W' xs a := h.keptBytes k.bytes

theorem grown_of_below {W W' : World} (h : Below W.heap.size W W') : W.grownBy W' none :=
  ⟨h.os, h.tape, h.output, h.size, fun i hi _ => h.block i hi⟩

/-- The value of the place at which each stands. -/
def placeOf : Value → Nat | .int _ n => n.toNat | _ => 0

set_option maxRecDepth 100000 in
set_option maxHeartbeats 400000 in
theorem each_c {w : World} {a : Option Addr} {n cap : Nat} :
    Calls Tryz.prog 125 #[.slice a n cap] w fun e w' => e = .returned (.func (.func 157) #[] #[.pointer (some ⟨w.heap.size, 0, none⟩)]) ∧ w' = w.alloc (.cells #[.slice a n cap] 34) := by
  go_enter Tryz.func125, Tryz.ntmps125
  go_wp2
  go_ret
  exact ⟨rfl, rfl⟩

set_option maxRecDepth 100000 in
set_option maxHeartbeats 1600000 in
theorem each_tells {w0 w : World} {a : Option Addr} {n cap : Nat} {l : List UInt8} (hb : Bys w0 a n cap l) (hn : n ≤ 100000) (hw : Below w0.heap.size w0 w) (N Bn : Nat) (hBn : Bn < w.heap.size)
    (hc : w.heap[Bn]? = some (.cells #[.slice a n cap] 34 (0, 0))) :
    SeqTells Fence.wide N Tryz.prog 157 #[.pointer (some ⟨Bn, 0, none⟩)] Fx.encs (KB w0.heap.size Bn) Fx.good (fun x => x.e = 0)
      (fun xs W => (∀ y ∈ xs, y.e = 0) ∧ Walked l w0.heap.size W xs l.length) (fun xs W => ∃ a, Walked l w0.heap.size W xs a) w := fun q J Jx W hW hJ hY h0 => by
  have hle := hb.le
  have hmax := hb.max
  have hlen := hb.len
  refine callsIn_of_wp Tryz.func157 rfl trivial ?_ rfl
  simp only [Tryz.ntmps157, List.size_toArray, List.length_cons, List.length_nil, Nat.reduceAdd, Nat.reduceSub, Array.replicate_succ, Array.replicate_zero, List.push_toArray, List.append_toArray, List.nil_append, List.cons_append]
  have HLEN := Lib.hid hlen
  clear hlen
  gi_wp2
  gi_loopw [3] (fun p wr => ∃ (pre : List Fx) (k : Nat), p = .int .i64 k ∧ k ≤ n ∧ Walked l w0.heap.size wr pre k ∧ (∀ y ∈ pre, y.e = 0) ∧ J pre wr ∧ Below w0.heap.size w0 wr ∧ w0.heap.size ≤ wr.heap.size ∧ W.heap.size ≤ wr.heap.size ∧ wr.heap[Bn]? = some (.cells #[.slice a n cap] 34 (0, 0)))
    (fun p wr => n - placeOf p)
  case atStart =>
    exact ⟨[], 0, rfl, Nat.zero_le _, .nil, by simp, h0, hw.trans (hW.mono hw.size), Nat.le_trans hw.size hW.size, Nat.le_refl _, (hW.block Bn hBn).trans hc⟩
  case round =>
    obtain ⟨pre, k, rfl, hk, hwk, hok, hJp, hbw, hsz, hsW, hbox⟩ := hrel
    have hcell : wr.cell? ⟨Bn, 0, none⟩ = some (.slice a n cap) := by simp [World.cell?, hbox]
    by_cases hlt : k < n
    · obtain ⟨b, off, rfl⟩ : ∃ b off, a = some ⟨b, off, none⟩ := by
        rcases hb.adr with h | ⟨b, off, h, _⟩
        · omega
        · exact ⟨b, off, h⟩
      have hdr := (hb.below hbw).drop (q := k) hk
      rw [Option.map_some, addr_add] at hdr
      have hcq : ¬ cap = k := by omega
      have hki : (k : Int) ≤ (n : Int) ∧ (k : Int) < (n : Int) := by omega
      obtain ⟨⟨m, sz, er⟩, hO⟩ : ∃ o, openS (l.drop k) = o := ⟨_, rfl⟩
      have hlk : (l.drop k).length = n - k := by rw [List.length_drop, HLEN.out]
      have hszb : 0 ≤ sz ∧ sz ≤ (n : Int) - (k : Int) ∧ (er = 0 → 6 ≤ sz) := by
        rcases openS_cases (l.drop k) with ⟨e, he, hne⟩ | ⟨m', k', he, h6, hkl, _⟩
        · rw [hO] at he
          cases he
          exact ⟨by omega, by omega, fun h => absurd h hne⟩
        · rw [hO] at he
          cases he
          exact ⟨by omega, by omega, fun _ => by omega⟩
      have HC : Hid (Calls Tryz.prog 158 #[.slice (some ⟨b, off + k, none⟩) (n - k) (cap - k)] wr fun e w1 => ∃ v, e = .returned (.tuple #[v, .int .i64 sz, .int .i64 er]) ∧ OwnB w1 wr.heap.size 5 v m ∧ Below wr.heap.size wr w1) :=
        Lib.hid (by have := open_c hdr (by omega); unfold OpenPost at this; rw [hO] at this; exact this)
      have HO := Lib.hid hO
      have hpl := (hwk.le hok).1
      have HWK := Lib.hid hwk
      have HOK := Lib.hid hok
      have HBOX := Lib.hid hbox
      clear hO hwk hok hbox hlk hdr
      gi_wp2_with fail
      refine ⟨trivial, fun h => (by cases h), (callsIn_wide.2 HC.out).mono ?_⟩
      rintro e w1 ⟨v, rfl, hov, hbv⟩
      obtain ⟨av, cv, hve, _⟩ := hov.bys
      obtain ⟨lv, hlv⟩ : ∃ lv, m.length = lv := ⟨_, rfl⟩
      rw [hlv] at hve
      have HLV := Lib.hid hlv
      clear hlv
      subst hve
      obtain ⟨fn, tmps, assign, body, hy, hR⟩ := hY pre ⟨.slice av lv cv, m, sz, er⟩ w1 (hJ pre wr w1 none hJp (grown_of_below hbv) (fun r e => by cases e)) ⟨by omega, ⟨_, _, _, rfl⟩, by show (0 : Int) ≤ sz; omega, by show sz ≤ 100000; omega⟩
      dsimp only [Fx.encs] at hy
      gi_wp2
      refine ⟨fun h => (by cases h), hR.mono ?_⟩
      rintro e W2 (⟨rfl, hJ2, hk2, hg⟩ | ⟨rfl, hJx2, hk2⟩)
      · have hg0 : er = 0 := hg
        have hk02 : KB w0.heap.size Bn wr W2 := (KB.of_below hsz hbv).trans hk2
        have HW := Lib.hid (Walked.snoc (x := ⟨.slice av lv cv, m, sz, er⟩) (HWK.out.kept hk02) HOK.out (by rw [HLEN.out]; exact hlt) HO.out ((hov.mono hsz).keptKB hk2))
        have HOK2 : Hid (∀ y ∈ pre ++ [(⟨.slice av lv cv, m, sz, er⟩ : Fx)], y.e = 0) := Lib.hid (by
          intro y hy; rcases List.mem_append.1 hy with h | h
          · exact HOK.out y h
          · rw [List.mem_singleton.1 h]; exact hg0)
        have hs2 : wr.heap.size ≤ W2.heap.size := Nat.le_trans hbv.size hk2.below.size
        have h6 := hszb.2.2 hg0
        clear hg hg0 hy hR
        gi_wp2
        go_roundw
        case rel => exact ⟨pre ++ [⟨.slice av lv cv, m, sz, er⟩], k + sz.toNat, by congr 1; omega, by omega, HW.out, HOK2.out, hJ2, hbw.trans hk02.below, Nat.le_trans hsz hs2, Nat.le_trans hsW hs2, hk02.box _ HBOX.out⟩
        case measure => simp [placeOf]; omega
      · have hk02 : KB w0.heap.size Bn wr W2 := (KB.of_below hsz hbv).trans hk2
        have HW := Lib.hid (Walked.snoc (x := ⟨.slice av lv cv, m, sz, er⟩) (HWK.out.kept hk02) HOK.out (by rw [HLEN.out]; exact hlt) HO.out ((hov.mono hsz).keptKB hk2))
        clear hy hR
        gi_wp2
        refine bodyPost_ret (results_none rfl _ _ _) rfl ?_
        exact ⟨⟨_, rfl⟩, .inr ⟨pre ++ [⟨.slice av lv cv, m, sz, er⟩], ⟨_, HW.out⟩, hJx2⟩⟩
    · obtain rfl : k = n := by omega
      gi_wp2
      go_end0
      exact ⟨⟨_, rfl⟩, .inl ⟨pre, ⟨hok, by rw [HLEN.out]; exact hwk⟩, hJp⟩⟩
end Go.Proofs.YtioeimkaljmffaaGreatDoor
end

section
namespace Go.Proofs.YtioeimkaljmffaaGreatDoor
set_option maxRecDepth 20000
open Go.RowKit Go.Shelf Go
set_option linter.unusedVariables false

/-- The bodies of the frames from place a on, behind acc; how many bytes they have; the error. -/
def rowsF : Nat → List UInt8 → Nat → List (List UInt8) → List (List UInt8) × Nat × Int
  | 0, _, a, acc => (acc, a, 0)
  | f + 1, l, a, acc => if l.length ≤ a then (acc, a, 0) else if (openS (l.drop a)).2.2 = 0 then rowsF f l (a + (openS (l.drop a)).2.1.toNat) (acc ++ [(openS (l.drop a)).1]) else (acc, a, (openS (l.drop a)).2.2)
def rowsS (l : List UInt8) : List (List UInt8) × Nat × Int := rowsF (l.length + 1) l 0 []

theorem rowsF_end {f : Nat} {l : List UInt8} {a : Nat} {acc : List (List UInt8)} (h : l.length ≤ a) : rowsF f l a acc = (acc, a, 0) := by
  cases f with
  | zero => rfl
  | succ f => rw [rowsF, if_pos h]
theorem rowsF_stop {f : Nat} {l : List UInt8} {a : Nat} {acc : List (List UInt8)} {m : List UInt8} {k e : Int} (h : a < l.length) (ho : openS (l.drop a) = (m, k, e)) (he : ¬ e = 0) : rowsF (f + 1) l a acc = (acc, a, e) := by
  rw [rowsF, if_neg (by omega), ho, if_neg he]
theorem rowsF_next {f : Nat} {l : List UInt8} {a : Nat} {acc : List (List UInt8)} {m : List UInt8} {k : Int} (h : a < l.length) (ho : openS (l.drop a) = (m, k, 0)) : rowsF (f + 1) l a acc = rowsF f l (a + k.toNat) (acc ++ [m]) := by
  rw [rowsF, if_neg (by omega), ho, if_pos rfl]

def sumX (xs : List Fx) : Int := (xs.map Fx.size).sum
theorem sumX_snoc (xs : List Fx) (x : Fx) : sumX (xs ++ [x]) = sumX xs + x.size := by simp [sumX]

theorem Walked.rows {l : List UInt8} {B : Nat} {W : World} {xs : List Fx} {a : Nat} (h : Walked l B W xs a) (hok : ∀ y ∈ xs, y.e = 0) : ∀ f, rowsF (f + xs.length) l 0 [] = rowsF f l a (xs.map Fx.m) := by
  induction h with
  | nil => intro f; rfl
  | snoc h hok' ha ho hv ih =>
    rename_i pre a x
    intro f
    have hx := hok x (by simp)
    have := ih hok' (f + 1)
    rw [List.length_append, List.length_singleton, show f + (pre.length + 1) = f + 1 + pre.length by omega, this]
    rw [hx] at ho
    rw [rowsF_next ha ho]
    simp
theorem Walked.place {l : List UInt8} {B : Nat} {W : World} {xs : List Fx} {a : Nat} (h : Walked l B W xs a) (hok : ∀ y ∈ xs, y.e = 0) : sumX xs = (a : Int) := by
  induction h with
  | nil => rfl
  | snoc h hok' ha ho hv ih =>
    rename_i pre a x
    have hx := hok x (by simp)
    rw [sumX_snoc, ih hok']
    rcases openS_cases (l.drop a) with ⟨e, he, hne⟩ | ⟨m', k', he, h6, hkl, _⟩
    · rw [ho] at he; injection he with he1 he2; injection he2 with he2 he3; rw [hx] at he3; exact absurd he3.symm hne
    · rw [ho] at he
      injection he with he1 he2
      injection he2 with he2 he3
      omega
theorem Walked.own {l : List UInt8} {B : Nat} {W : World} {xs : List Fx} {a : Nat} (h : Walked l B W xs a) : ∀ x ∈ xs, OwnB W B 5 x.v x.m := by
  induction h with
  | nil => intro x hx; simp at hx
  | snoc h hok' ha ho hv ih =>
    intro y hy
    rcases List.mem_append.1 hy with h1 | h1
    · exact ih y h1
    · rw [List.mem_singleton.1 h1]; exact hv

theorem Walked.last {l : List UInt8} {B : Nat} {W : World} {pre : List Fx} {x : Fx} {a : Nat} (h : Walked l B W (pre ++ [x]) a) :
    ∃ a0, Walked l B W pre a0 ∧ (∀ y ∈ pre, y.e = 0) ∧ a0 < l.length ∧ openS (l.drop a0) = (x.m, x.size, x.e) := by
  generalize hys : pre ++ [x] = ys at h
  cases h with
  | nil => simp at hys
  | snoc h hok ha ho hv =>
    obtain ⟨h1, h2⟩ := List.append_inj' hys rfl
    simp at h2
    subst h1; subst h2
    exact ⟨_, h, hok, ha, ho⟩
theorem Walked.rowsDone {l : List UInt8} {B : Nat} {W : World} {xs : List Fx} (h : Walked l B W xs l.length) (hok : ∀ y ∈ xs, y.e = 0) : rowsS l = (xs.map Fx.m, l.length, 0) ∧ sumX xs = (l.length : Int) := by
  have h1 := (h.le hok).1
  have := h.rows hok (l.length + 1 - xs.length)
  rw [show l.length + 1 - xs.length + xs.length = l.length + 1 by omega] at this
  exact ⟨by unfold rowsS; rw [this, rowsF_end (Nat.le_refl _)], h.place hok⟩
theorem Walked.rowsStop {l : List UInt8} {B : Nat} {W : World} {pre : List Fx} {x : Fx} {a : Nat} (h : Walked l B W (pre ++ [x]) a) (he : ¬ x.e = 0) : ∃ a0 : Nat, rowsS l = (pre.map Fx.m, a0, x.e) ∧ sumX pre = (a0 : Int) := by
  obtain ⟨a0, h0, hok, ha, ho⟩ := h.last
  have h1 := (h0.le hok).1
  have := h0.rows hok (l.length - pre.length + 1)
  rw [show l.length - pre.length + 1 + pre.length = l.length + 1 by omega] at this
  exact ⟨a0, by unfold rowsS; rw [this, rowsF_stop ha ho he], h0.place hok⟩

/-- A slice of byte slices of the call's own. -/
def OwnRows (W : World) (B : Nat) (v : Value) (ls : List (List UInt8)) : Prop :=
  ∃ vs : List Value, W.ownsRow B 34 1 v vs.length vs ∧ vs.length = ls.length ∧ ∀ i, i < ls.length → OwnB W B 5 (vs.getD i undef) (ls.getD i [])
theorem OwnRows.of_walked {W : World} {B B' : Nat} {v : Value} {xs : List Fx} (hB : B ≤ B') (h : W.ownsRow B' 34 1 v xs.length (xs.map Fx.v)) (ho : ∀ x ∈ xs, OwnB W B 5 x.v x.m) : OwnRows W B v (xs.map Fx.m) := by
  refine ⟨xs.map Fx.v, ?_, by simp, fun i hi => ?_⟩
  · rw [List.length_map]
    refine ⟨h.1, ?_⟩
    rcases h.2 with hn | ⟨g, cap, cur, rfl, hb, rest⟩
    · exact .inl hn
    · exact .inr ⟨g, cap, cur, rfl, by omega, rest⟩
  · rw [List.length_map] at hi
    have := ho xs[i] (List.getElem_mem hi)
    simpa [List.getD, hi] using this

/-- What Rows tells. -/
def RowsPost (l : List UInt8) (w : World) (e : Ending) (w' : World) : Prop :=
  ∃ v, e = .returned (.tuple #[v, .int .i64 ((rowsS l).2.1 : Int), .int .i64 (rowsS l).2.2]) ∧ OwnRows w' w.heap.size v (rowsS l).1 ∧ Below w.heap.size w w'

/-- What a step leaves as it was that writes the boxes Bs and a row of slices at or beyond base. -/
structure Leaves (Bs : Nat → Prop) (base : Nat) (W W' : World) : Prop where
  size : W.heap.size ≤ W'.heap.size
  same : ∀ (j : Nat) (o : Obj), W.heap[j]? = some o → ¬ Bs j → (j < base ∨ ∀ cs fr, o ≠ .cells cs 34 fr) → W'.heap[j]? = some o
theorem Leaves.trans {Bs : Nat → Prop} {base : Nat} {X Y Z : World} (h : Leaves Bs base X Y) (k : Leaves Bs base Y Z) : Leaves Bs base X Z :=
  ⟨Nat.le_trans h.size k.size, fun j o hj hb ho => k.same j o (h.same j o hj hb ho) hb ho⟩
theorem Leaves.setCell {Bs : Nat → Prop} {base : Nat} (W : World) {B : Nat} (hB : Bs B) (u : Value) : Leaves Bs base W (W.setCell ⟨B, 0, none⟩ u) :=
  ⟨(KeepsWalks.setCell W _ u).size, fun j o hj hb _ => (Below.heap_setCell W ⟨B, 0, none⟩ u j (fun e => by subst e; exact hb hB)).trans hj⟩
theorem Leaves.alloc {Bs : Nat → Prop} {base : Nat} (W : World) (o : Obj) : Leaves Bs base W (W.alloc o) :=
  ⟨by simp, fun j o' hj _ _ => (Below.heap_alloc W o j (Array.getElem?_eq_some_iff.1 hj).1).trans hj⟩
theorem Leaves.append {Bs : Nat → Prop} {base : Nat} {W w1 : World} {v : Value} {k : Nat} {xs : List Value} (hrow : W.ownsRow base 34 1 v k xs) (hgrow : W.grownBy w1 v.ownBlock) : Leaves Bs base W w1 := by
  refine ⟨hgrow.size, fun j o hj hb ho => (hgrow.block j (Array.getElem?_eq_some_iff.1 hj).1 ?_).trans hj⟩
  rcases hrow.2 with ⟨rfl, _⟩ | ⟨g, cap, cur, rfl, hbg, hg, _⟩
  · simp [Value.ownBlock]
  · intro e'
    obtain rfl : j = g := by simpa [Value.ownBlock] using e'
    rcases ho with h | h
    · omega
    · rw [hg] at hj; cases hj; exact h _ _ rfl
theorem Leaves.keeps {Bs : Nat → Prop} {base B : Nat} {W W' : World} (h : Leaves Bs base W W') (hb : ∀ j, Bs j → j < B) : KeepsFrom B W W' :=
  ⟨h.size, fun j o hB hj ho => h.same j o hj (fun hh => by have := hb j hh; omega) (.inr (fun cs fr e => by subst e; cases ho))⟩
end Go.Proofs.YtioeimkaljmffaaGreatDoor
end

section
namespace Go.Proofs.YtioeimkaljmffaaGreatDoor
open Go.RowKit Go.Shelf Go
set_option linter.unusedVariables false
attribute [local go_sem] Oper.semAt_some

theorem wpIn_scope_wide {n : Nat} {P : Program} {Q : Exit → Act → World → Prop} {a : Act} {w : World} {c : Code} (h : c.wpIn Fence.wide n P (Exit.noGoto Q) a w) : (Code.scope c).wpIn Fence.wide n P Q a w :=
  wpIn_wide.2 (wp_scope_straight (wpIn_wide.1 h))

theorem Tryz.info34 : (Tryz.prog.info? 34).map (fun i => (i.zero, i.size, i.bytes)) = some (some (.slice none 0 0), 1, 24) := by kernel_rfl

/-- Rows' own boxes. -/
def BoxOf (n₀ j : Nat) : Prop := j = n₀ ∨ j = n₀ + 1 ∨ j = n₀ + 1 + 1
/-- What they hold when xs have been collected. -/
def Held (n₀ base : Nat) (xs : List Fx) (e : Int) (W : World) : Prop :=
  ((∃ vb, Boxed W n₀ 39 vb ∧ W.ownsRow base 34 1 vb xs.length (xs.map Fx.v) ∧ True) ∧ Boxed W (n₀ + 1) 3 (.int .i64 (sumX xs))) ∧ Boxed W (n₀ + 1 + 1) 40 (.int .i64 e)
theorem Held.own (n₀ base : Nat) (xs : List Fx) (e : Int) : Own (fun (_ : Unit) W => Held n₀ base xs e W) := by
  intro s X Y row hs hg hr
  refine ⟨⟨?_, boxed_own _ _ (fun (_ : Unit) => Value.int .i64 (sumX xs)) () X Y row hs.1.2 hg hr⟩, boxed_own _ _ (fun (_ : Unit) => Value.int .i64 e) () X Y row hs.2 hg hr⟩
  exact holdsRow_own base n₀ 39 34 1 (fun (_ : Unit) => xs.length) (fun _ => xs.map Fx.v) (fun _ _ => True) () X Y row hs.1.1 hg hr
/-- Between two rounds. -/
def RowsI (n₀ base : Nat) (w : World) (xs : List Fx) (W : World) : Prop :=
  ((Held n₀ base xs 0 W ∧ (0 ≤ sumX xs ∧ sumX xs ≤ 100000 * xs.length)) ∧ Below n₀ w W) ∧ base ≤ W.heap.size
/-- A round has left. -/
def RowsX (n₀ base : Nat) (w : World) (c : Code) (xs : List Fx) (W : World) : Prop :=
  ((∃ pre x, xs = pre ++ [x] ∧ c = .exit 0 ∧ ¬ x.e = 0 ∧ Held n₀ base pre x.e W) ∧ Below n₀ w W) ∧ base ≤ W.heap.size
theorem RowsI.own {n₀ base B : Nat} {w : World} (h0 : n₀ ≤ w.heap.size) (h1 : n₀ ≤ B) : OwnFrom B (RowsI n₀ base w) := by
  intro xs X Y row hs hg hr
  refine ⟨⟨⟨Held.own _ _ _ _ () X Y row hs.1.1.1 hg (fun r e => (hr r e).2), hs.1.1.2⟩, ?_⟩, Nat.le_trans hs.2 hg.size⟩
  exact ownFrom_below (β := Unit) h0 h1 () X Y row hs.1.2 hg hr
theorem RowsX.own {n₀ base B : Nat} {w : World} (c : Code) (h0 : n₀ ≤ w.heap.size) (h1 : n₀ ≤ B) : OwnFrom B (RowsX n₀ base w c) := by
  intro xs X Y row hs hg hr
  obtain ⟨⟨⟨pre, x, h, hc, hx, hh⟩, hb⟩, hsz⟩ := hs
  exact ⟨⟨⟨pre, x, h, hc, hx, Held.own _ _ _ _ () X Y row hh hg (fun r e => (hr r e).2)⟩, ownFrom_below (β := Unit) h0 h1 () X Y row hb hg hr⟩, Nat.le_trans hsz hg.size⟩

theorem Leaves.kb {n₀ base Bn : Nat} {W W' : World} (h : Leaves (BoxOf n₀) base W W') {xs : List Fx} {e : Int} (hh : Held n₀ base xs e W) (hb : Below n₀ W W') (hBn : n₀ + 1 + 1 < Bn) (hlt : Bn < base) : KB n₀ Bn W W' := by
  obtain ⟨⟨⟨vb, h1, _⟩, h2⟩, h3⟩ := hh
  refine ⟨hb, fun k cs fr hk => h.same k _ hk ?_ (.inr (fun cs' fr' => by simp)), fun o ho => h.same Bn o ho ?_ (.inl hlt)⟩
  · rintro (rfl | rfl | rfl)
    · rw [show W.heap[k]? = _ from h1] at hk; cases hk
    · rw [show W.heap[n₀ + 1]? = _ from h2] at hk; cases hk
    · rw [show W.heap[n₀ + 1 + 1]? = _ from h3] at hk; cases hk
  · rintro (h | h | h) <;> omega

/-- A round's own variable. -/
def FAt (n₀ : Nat) (tm : Nat → Fx → Array Value) (x : Fx) (a' : Act) (W : World) : Prop :=
  ∃ Bx, n₀ + 1 + 1 < Bx ∧ W.heap[Bx]? = some (.cells #[x.v, .int .i64 x.size] 148 (0, 0)) ∧ a' = { tmps := tm Bx x, defers := [] }
theorem FAt.own {n₀ B : Nat} {tm : Nat → Fx → Array Value} (x : Fx) (a' : Act) : OwnFrom B (fun (_ : Unit) W => FAt n₀ tm x a' W) := by
  intro s X Y row hs hg hr
  obtain ⟨Bx, h1, h2, h3⟩ := hs
  refine ⟨Bx, h1, (hg.block Bx (Array.getElem?_eq_some_iff.1 h2).1 (fun e => ?_)).trans h2, h3⟩
  obtain ⟨_, o, ho, hc⟩ := hr Bx e.symm
  rw [h2] at ho; cases ho; cases hc

set_option maxRecDepth 100000 in
set_option maxHeartbeats 3200000 in
theorem rows_c {w : World} {a : Option Addr} {n cap : Nat} {l : List UInt8} (hb : Bys w a n cap l) (hn : n ≤ 99999) :
    Calls Tryz.prog 92 #[.slice a n cap] w (RowsPost l w) := by
  obtain ⟨i0, hi, hz0, hz1, hz2⟩ := info_parts Tryz.info34
  refine (callsIn_wide (n := 3)).1 ?_
  refine callsIn_of_wp_marks Tryz.func92 rfl trivial ?_ rfl
  simp only [Tryz.ntmps92, List.size_toArray, List.length_cons, List.length_nil, Nat.reduceAdd, Nat.reduceSub, Array.replicate_succ, Array.replicate_zero, List.push_toArray, List.append_toArray, List.nil_append, List.cons_append]
  gi_wp2_with fail
  refine wpIn_scope_wide ?_
  gi_wp2_with fail
  refine wpIn_label ?_
  gi_wp2_with fail
  refine ⟨trivial, (callsIn_wide.2 each_c).mono ?_⟩
  rintro e w1 ⟨rfl, rfl⟩
  gi_wp2_with fail
  have bA := ((Boxed.new w 39 (.slice none 0 0)).alloc (.cells #[.int .i64 0] 3)).alloc (.cells #[.int .i64 0] 40)
  have bS := (Boxed.new (w.alloc (.cells #[.slice none 0 0] 39)) 3 (.int .i64 0)).alloc (.cells #[.int .i64 0] 40)
  have bF := Boxed.new ((w.alloc (.cells #[.slice none 0 0] 39)).alloc (.cells #[.int .i64 0] 3)) 40 (.int .i64 0)
  have bB := Boxed.new (((w.alloc (.cells #[.slice none 0 0] 39)).alloc (.cells #[.int .i64 0] 3)).alloc (.cells #[.int .i64 0] 40)) 34 (.slice a n cap)
  replace bA := bA.alloc (.cells #[.slice a n cap] 34)
  replace bS := bS.alloc (.cells #[.slice a n cap] 34)
  replace bF := bF.alloc (.cells #[.slice a n cap] 34)
  simp only [World.size_alloc] at bS bF bB
  have hB0 : Below w.heap.size w ((((w.alloc (.cells #[.slice none 0 0] 39)).alloc (.cells #[.int .i64 0] 3)).alloc (.cells #[.int .i64 0] 40)).alloc (.cells #[.slice a n cap] 34)) :=
    ((((Below.refl _ w).alloc (Nat.le_refl _) _).alloc (by simp) _).alloc (by simp; omega) _).alloc (by simp; omega) _
  have hsz : ((((w.alloc (.cells #[.slice none 0 0] 39)).alloc (.cells #[.int .i64 0] 3)).alloc (.cells #[.int .i64 0] 40)).alloc (.cells #[.slice a n cap] 34)).heap.size = w.heap.size + 1 + 1 + 1 + 1 := by simp
  obtain ⟨W0, hW0⟩ : ∃ W0, (((w.alloc (.cells #[.slice none 0 0] 39)).alloc (.cells #[.int .i64 0] 3)).alloc (.cells #[.int .i64 0] 40)).alloc (.cells #[.slice a n cap] 34) = W0 := ⟨_, rfl⟩
  rw [hW0] at bA bS bF bB hB0 hsz ⊢
  clear hW0
  have HSZ := Lib.hid hsz
  have hB0' := hB0
  refine wpIn_range_tells (F := Fence.wide) rfl (by omega) (gf := 157) (lb := #[.pointer (some ⟨w.heap.size + 1 + 1 + 1, 0, none⟩)]) rfl trivial (enters_of Tryz.func157 (by kernel_rfl) rfl)
    (each_tells hb (by omega) hB0 2 (w.heap.size + 1 + 1 + 1) (by omega) bB) KB.trans (fun W l o o' hl h ho _ => KB.putObj W l o o' (by omega) (by omega) h ho)
    (fun xs X Y row hs hg hr => ⟨hs.1, hs.2.keptBytes (SameBytes.turn hg (fun r e => (hr r e).2))⟩)
    (fun xs X Y row hs hg hr => by obtain ⟨a, ha⟩ := hs; exact ⟨a, ha.keptBytes (SameBytes.turn hg (fun r e => (hr r e).2))⟩)
    (fun _ => rfl)
    (RowsI w.heap.size W0.heap.size w) (RowsX w.heap.size W0.heap.size w) (RowsI.own (Nat.le_refl _) (by omega)) (fun c => RowsX.own c (Nat.le_refl _) (by omega))
    ⟨⟨⟨⟨⟨⟨_, bA, World.ownsRow_nil _ _ _ _, trivial⟩, bS⟩, bF⟩, by simp [sumX]⟩, hB0⟩, Nat.le_refl _⟩
    (FAt w.heap.size (fun Bx x => #[.slice a n cap, undef, .slice none 0 0, .int .i64 0, .int .i64 0, .pointer (some ⟨w.heap.size, 0, none⟩), .pointer (some ⟨w.heap.size + 1, 0, none⟩), .pointer (some ⟨w.heap.size + 1 + 1, 0, none⟩), .pointer (some ⟨Bx, 0, none⟩), .int .i64 x.e, .slice a n cap, .func (.func 157) #[] #[.pointer (some ⟨w.heap.size + 1 + 1 + 1, 0, none⟩)], .agg #[x.v, .int .i64 x.size], .int .i64 x.e, undef, undef, undef, undef, undef, undef, undef, undef, undef, undef, undef, undef, undef, undef, undef, undef]))
    (fun x a' => FAt.own x a') ?assign ?body ?done ?stop
  case assign =>
    rintro q pre ⟨vx, mx, sx, ex⟩ W K hI ⟨hq1, ⟨av, nv, cv, rfl⟩, hq2⟩ hK
    dsimp only [Fx.encs]
    gi_wp2
    have h2 := hI.2
    have h3 := HSZ.out
    exact hK _ _ ((KeepsOthers.alloc _ _).from _) (KB.of_below (by omega) ((Below.refl _ W).alloc (Nat.le_refl _) _)) ((RowsI.own (B := w.heap.size) (Nat.le_refl _) (Nat.le_refl _)).alloc _ hI) ⟨W.heap.size, by omega, World.alloc_heap_new W _, rfl⟩
  case body =>
    rintro q pre ⟨vx, mx, sx, ex⟩ a' W ⟨⟨⟨⟨⟨⟨vb, hbx, hrow, _⟩, hbs⟩, hbf⟩, hsum⟩, hbel⟩, hszW⟩ ⟨Bx, hBx, hF, rfl⟩ ⟨hq1, ⟨av, nv, cv, hvx⟩, hq2, hq3⟩
    dsimp only at hvx hq2 hq3 hF
    subst hvx
    dsimp only
    have cx := hbx.cell
    have fx := hbx.frozen
    have cs := hbs.cell
    have fs := hbs.frozen
    have cf := hbf.cell
    have ff := hbf.frozen
    have cF0 : W.cell? ⟨Bx, 0, none⟩ = some (.slice av nv cv) := by simp [World.cell?, hF]
    have cF1 : W.cell? ⟨Bx, 1, none⟩ = some (.int .i64 sx) := by simp [World.cell?, hF]
    have hn0 : ¬ Bx = w.heap.size ∧ ¬ w.heap.size = Bx ∧ ¬ Bx = w.heap.size + 1 ∧ ¬ Bx = w.heap.size + 1 + 1 := by omega
    have hsb : 0 ≤ sumX pre ∧ sumX pre ≤ 10000000000 := by omega
    have hszW2 : w.heap.size + 1 + 1 + 1 + 1 ≤ W.heap.size := by omega
    by_cases he : ex = 0
    · subst he
      have hnx : pre.length + 1 ≤ maxLen := by unfold maxLen; omega
      have hny : (pre.length + 1) * 24 ≤ 140737488355328 := by omega
      have HSUM := Lib.hid hsum
      clear hsum
      gi_wp2_with (gi_at_builtin; refine wpListIn_append_own _ rfl _ _ 39 rfl W0.heap.size 34 i0 (.slice none 0 0) 1 24 Tryz.underlying39 hi hz0 hz1 hz2 rfl (by decide) _ _ _ rfl (hrow.alloc _) ⟨W.heap.size, 0, none⟩ 1 1 [.slice av nv cv] rfl rfl (cell_one_new _ _ _) (by simp [Value.oneCell']) hnx hny (by simp; omega) ?_; intro v' w1 hown' hgrow _; obtain ⟨g', cap', rfl⟩ := ownsRow_succ hown'; have hx1 : Boxed w1 w.heap.size 39 vb := (hbx.alloc _).kept hgrow (hbx.not_row (by decide) hrow); have hs1 : Boxed w1 (w.heap.size + 1) 3 _ := (hbs.alloc _).kept hgrow (hbs.not_row (by decide) hrow); have hf1 : Boxed w1 (w.heap.size + 1 + 1) 40 _ := (hbf.alloc _).kept hgrow (hbf.not_row (by decide) hrow); have hL1 : Leaves (BoxOf w.heap.size) W0.heap.size W w1 := (Leaves.alloc W _).trans (Leaves.append (hrow.alloc _) hgrow); have cx1 := hx1.cell; have fx1 := hx1.frozen; have cs1 := hs1.cell; have fs1 := hs1.frozen; have hF1 := hL1.same Bx _ hF (by rintro (h | h | h) <;> omega) (.inr (fun cs' fr' => by simp)); have cF1' : w1.cell? ⟨Bx, 1, none⟩ = some (.int .i64 sx) := by simp [World.cell?, hF1])
      have hL := (hL1.trans (Leaves.setCell w1 (B := w.heap.size) (.inl rfl) (.slice (some ⟨g', 0, none⟩) (pre.length + 1) cap'))).trans (Leaves.setCell _ (B := w.heap.size + 1) (.inr (.inl rfl)) (.int .i64 (sumX pre + sx)))
      have hb3 := ((((Below.refl w.heap.size W).alloc (by omega) _).grown hgrow (by simp; omega) (fun k e => by have := (World.ownsRow.lt hrow k e).1; omega)).setCell (p := ⟨w.heap.size, 0, none⟩) (Nat.le_refl _) (.slice (some ⟨g', 0, none⟩) (pre.length + 1) cap')).setCell (p := ⟨w.heap.size + 1, 0, none⟩) (by simp) (.int .i64 (sumX pre + sx))
      have hx2 := hx1.set (.slice (some ⟨g', 0, none⟩) (pre.length + 1) cap')
      have hs2 := hs1.other (B' := w.heap.size) (by omega) (.slice (some ⟨g', 0, none⟩) (pre.length + 1) cap')
      have hf2 := hf1.other (B' := w.heap.size) (by omega) (.slice (some ⟨g', 0, none⟩) (pre.length + 1) cap')
      have ho2 := hown'.kept (grownBy_setCell' w1 w.heap.size (.slice (some ⟨g', 0, none⟩) (pre.length + 1) cap')) (.inr (hx1.not_row (by decide) hown').symm)
      have ho3 := ho2.kept (grownBy_setCell' _ (w.heap.size + 1) (.int .i64 (sumX pre + sx))) (.inr (hs2.not_row (by decide) ho2).symm)
      have hq := HSUM.out
      refine ⟨hL.keeps (by rintro j (h | h | h) <;> omega), hL.kb ⟨⟨⟨vb, hbx, hrow, trivial⟩, hbs⟩, hbf⟩ hb3 (by omega) (by omega), rfl, ⟨⟨⟨⟨⟨⟨_, hx2.other (by omega) _, ?_, trivial⟩, ?_⟩, hf2.other (by omega) _⟩, ?_⟩, hbel.trans hb3⟩, Nat.le_trans hszW hL.size⟩⟩
      · rw [List.length_append, List.map_append]; exact ho3
      · rw [sumX_snoc]; exact hs2.set _
      · rw [sumX_snoc, List.length_append, List.length_singleton]; exact ⟨by show 0 ≤ sumX pre + sx; omega, by show sumX pre + sx ≤ _; omega⟩
    · have heb : (ex == 0) = false := by rw [beq_eq_false_iff_ne]; exact he
      have HE := Lib.hid he
      clear he
      gi_wp2
      have hL : Leaves (BoxOf w.heap.size) W0.heap.size W (W.setCell ⟨w.heap.size + 1 + 1, 0, none⟩ (.int .i64 ex)) := Leaves.setCell _ (B := w.heap.size + 1 + 1) (.inr (.inr rfl)) _
      have hb3 : Below w.heap.size W (W.setCell ⟨w.heap.size + 1 + 1, 0, none⟩ (.int .i64 ex)) := (Below.refl w.heap.size W).setCell (p := ⟨w.heap.size + 1 + 1, 0, none⟩) (by simp; omega) _
      have ho3 := hrow.kept (grownBy_setCell' W (w.heap.size + 1 + 1) (.int .i64 ex)) (.inr (hbf.not_row (by decide) hrow).symm)
      exact ⟨hL.keeps (by rintro j (h | h | h) <;> omega), hL.kb ⟨⟨⟨vb, hbx, hrow, trivial⟩, hbs⟩, hbf⟩ hb3 (by omega) (by omega), ⟨⟨⟨pre, ⟨_, mx, sx, ex⟩, rfl, rfl, HE.out, ⟨⟨⟨vb, hbx.other (by omega) _, ho3, trivial⟩, hbs.other (by omega) _⟩, hbf.set _⟩⟩, hbel.trans hb3⟩, Nat.le_trans hszW hL.size⟩⟩
  case done =>
    rintro D xs W hD ⟨hok, hwk⟩ ⟨⟨⟨⟨⟨⟨vb, hbx, hrow, _⟩, hbs⟩, hbf⟩, hsum⟩, hbel⟩, hszW⟩ hK
    have cx := hbx.cell
    have cs := hbs.cell
    have cf := hbf.cell
    obtain ⟨hr1, hr2⟩ := hwk.rowsDone hok
    have HR := Lib.hid hr1
    have HS := Lib.hid hr2
    have HD := Lib.hid hD
    have HOK := Lib.hid hok
    clear hr1 hr2 hD hok
    gi_wp2_with fail
    refine wpIn_wide.2 ?_
    go_quiet (fail)
    gi_wp2
    rw [Exit.noGoto_ret]
    have hKn : (W.drewN nq).heap[D]? = some (.deferred (some [])) := hK
    refine ⟨by simp, .inl ⟨_, _, rfl, run_takeDeferred hKn, ?_⟩⟩
    refine ⟨_, results_tmp3 rfl _ _ _, vb, ?_, ?_, ?_⟩
    · rw [HR.out, HS.out]; rfl
    · rw [HR.out]
      exact OwnRows.of_walked (by have := HSZ.out; omega) (ownsRow_putObj (show (W.drewN nq).ownsRow _ _ _ _ _ _ from hrow) (.deferred none) hKn rfl)
        (hwk.keptBytes (show SameBytes (W.drewN nq) _ from SameBytes.turn (grownBy_putObj' _ D (.deferred none)) (fun r e => by cases e; exact ⟨_, hKn, rfl⟩))).own
    · exact (below_drewN hbel nq).trans (belowK_b (w := w) (Nat.le_refl _) (W.drewN nq) D _ _ (by have := HD.out; have := HSZ.out; omega) hKn rfl rfl)
  case stop =>
    rintro D c pre W hD ⟨a', hwk⟩ ⟨⟨⟨pre', x, rfl, rfl, hx, ⟨⟨⟨vb, hbx, hrow, _⟩, hbs⟩, hbf⟩⟩, hbel⟩, hszW⟩ hK
    have cx := hbx.cell
    have cs := hbs.cell
    have cf := hbf.cell
    obtain ⟨a0, hr1, hr2⟩ := hwk.rowsStop hx
    have HR := Lib.hid hr1
    have HS := Lib.hid hr2
    have HD := Lib.hid hD
    clear hr1 hr2 hD hx
    gi_wp2_with fail
    refine wpIn_wide.2 ?_
    go_quiet (fail)
    gi_wp2
    rw [Exit.noGoto_ret]
    have hKn : (W.drewN nq).heap[D]? = some (.deferred (some [])) := hK
    refine ⟨by simp, .inl ⟨_, _, rfl, run_takeDeferred hKn, ?_⟩⟩
    refine ⟨_, results_tmp3 rfl _ _ _, vb, ?_, ?_, ?_⟩
    · rw [HR.out, HS.out]; rfl
    · rw [HR.out]
      exact OwnRows.of_walked (by have := HSZ.out; omega) (ownsRow_putObj (show (W.drewN nq).ownsRow _ _ _ _ _ _ from hrow) (.deferred none) hKn rfl)
        (fun y hy => (hwk.keptBytes (show SameBytes (W.drewN nq) _ from SameBytes.turn (grownBy_putObj' _ D (.deferred none)) (fun r e => by cases e; exact ⟨_, hKn, rfl⟩))).own y (List.mem_append_left _ hy))
    · exact (below_drewN hbel nq).trans (belowK_b (w := w) (Nat.le_refl _) (W.drewN nq) D _ _ (by have := HD.out; have := HSZ.out; omega) hKn rfl rfl)
end Go.Proofs.YtioeimkaljmffaaGreatDoor
end

section
namespace Go.Proofs.YtioeimkaljmffaaGreatDoor
open Go.RowKit Go Go.Sort Go.Maps Go.WideMaps
set_option linter.unusedVariables false
set_option maxRecDepth 20000

theorem OwnRows.nil0 (W : World) (B : Nat) : OwnRows W B (.slice none 0 0) [] := ⟨[], World.ownsRow_nil _ _ _ _, rfl, fun i hi => absurd hi (by simp)⟩
/-- Rows stay where neither their own block nor blocks of bytes turn. -/
theorem OwnRows.keep {W W' : World} {B : Nat} {v : Value} {l : List (List UInt8)} (h : OwnRows W B v l) (h1 : ∀ (k : Nat) cs fr, W.heap[k]? = some (Obj.cells cs 34 fr) → W'.heap[k]? = W.heap[k]?) (h2 : ∀ (k : Nat) cs fr, W.heap[k]? = some (Obj.cells cs 5 fr) → W'.heap[k]? = W.heap[k]?) : OwnRows W' B v l := by
  obtain ⟨vs, hr, hl, he⟩ := h
  refine ⟨vs, ⟨hr.1, ?_⟩, hl, fun i hi => (he i hi).of_blk fun k hk => by obtain ⟨cur, hc⟩ := (he i hi).blkD hk; exact h2 k _ _ hc⟩
  rcases hr.2 with h | ⟨g, cap, cur, hv, hb, hg, hrest⟩
  · exact .inl h
  · exact .inr ⟨g, cap, cur, hv, hb, (h1 g _ _ hg).trans hg, hrest⟩
theorem OwnRows.kept {W W' : World} {B : Nat} {v : Value} {l : List (List UInt8)} (h : OwnRows W B v l) (hb : Below W.heap.size W W') : OwnRows W' B v l :=
  h.keep (fun k _ _ hk => hb.block k (Array.getElem?_eq_some_iff.1 hk).1) (fun k _ _ hk => hb.block k (Array.getElem?_eq_some_iff.1 hk).1)
theorem OwnRows.len {W : World} {B : Nat} {v : Value} {l : List (List UInt8)} (h : OwnRows W B v l) : ∃ a c, v = .slice a l.length c := by
  obtain ⟨vs, hr, hl, -⟩ := h
  rw [hl] at hr
  rcases hr.2 with ⟨rfl, h⟩ | ⟨g, cap, cur, rfl, -⟩
  · exact ⟨_, _, by rw [h]⟩
  · exact ⟨_, _, rfl⟩
theorem OwnRows.own {W : World} {B : Nat} {v : Value} {l : List (List UInt8)} (h : OwnRows W B v l) {k : Nat} (hk : v.ownBlock = some k) : B ≤ k ∧ k < W.heap.size := by
  obtain ⟨vs, hr, -, -⟩ := h
  exact World.ownsRow.lt hr k hk
theorem run_append_zero {P : Program} (w : World) (t tx ty e : TypeId) (i : TypeInfo) (ht : P.underlying t = some (.slice e)) (hi : P.info? e = some i) (x : Value) (hs : Src P i.size tx x 0 [] w) :
    (Builtin.append_ #[t, tx] ty #[.slice none 0 0, x]).run P w = .ok (.slice none 0 0) w := by
  rcases hs.kind with ⟨e', hk⟩ | hk <;> simp [Builtin.append_, run_underlying ht, run_underlying hk, sizeOf, typeInfo, hi, hs.len, hs.cells]
/-- append(nil, cs...), cells onto none. -/
theorem wpList_append_rows {w : World} {ops : Array Oper} {rest : List Oper} {o : Oper} {ac : Act} {Q : Exit → Act → World → Prop} (hgd : o.guard = none) (os ox : Operand)
    (ho : o.op = .call { callee := .builtin .append, args := #[os, ox], argTypes := #[39, 39] })
    {base B2 : Nat} {u vx : Value} {l M : List (List UInt8)} (hs : ac.eval os = u) (hown : OwnRows w base u l) (hx : ac.eval ox = vx) (hm : OwnRows w B2 vx M) (hB2 : base ≤ B2) (h63 : l.length + M.length ≤ 1000000000) (hbase : base ≤ w.heap.size)
    (h : ∀ v' w', OwnRows w' base v' (l ++ M) → w.grownBy w' u.ownBlock → wpList Tryz.prog ops Q rest (ac.put o.dst v') w') :
    wpList Tryz.prog ops Q (o :: rest) ac w := by
  obtain ⟨i0, hi, hz0, hz1, hz2⟩ := info_parts Tryz.info34
  have hO := hown
  obtain ⟨vs, h1, hl1, he1⟩ := hown
  obtain ⟨ms, h2, hl2, he2⟩ := hm
  have hfin : ∀ v' w', w'.ownsRow base 34 1 v' (vs.length + ms.length) (vs ++ ms) → w.grownBy w' u.ownBlock → OwnRows w' base v' (l ++ M) := by
    intro v' w' hr hg
    have hk : ∀ {B' : Nat} {v0 : Value} {l0 : List UInt8}, base ≤ B' → OwnB w B' 5 v0 l0 → OwnB w' base 5 v0 l0 := fun hB h0 => (h0.of_blk fun k hk => by
      obtain ⟨cur, hc⟩ := h0.blkD hk
      refine hg.block k (Array.getElem?_eq_some_iff.1 hc).1 fun e => ?_
      rcases h1.2 with ⟨rfl, _⟩ | ⟨g, cap, cu, rfl, hb, hgg, _⟩
      · simp [Value.ownBlock] at e
      · have : k = g := by simpa [Value.ownBlock] using e
        subst this
        rw [hgg] at hc
        cases hc).mono hB
    refine ⟨vs ++ ms, by rw [List.length_append]; exact hr, by simp [hl1, hl2], fun i hi => ?_⟩
    rw [List.length_append] at hi
    by_cases hlt : i < l.length
    · rw [List.getD_eq_getElem?_getD, List.getD_eq_getElem?_getD, List.getElem?_append_left (by omega), List.getElem?_append_left hlt, ← List.getD_eq_getElem?_getD, ← List.getD_eq_getElem?_getD]
      exact hk (Nat.le_refl _) (he1 i hlt)
    · rw [List.getD_eq_getElem?_getD, List.getD_eq_getElem?_getD, List.getElem?_append_right (by omega), List.getElem?_append_right (by omega), ← List.getD_eq_getElem?_getD, ← List.getD_eq_getElem?_getD, hl1]
      exact hk hB2 (he2 (i - l.length) (by omega))
  rcases h2.2 with ⟨rfl, hz⟩ | ⟨g2, cap2, cur2, rfl, hb2, hg2, hnc2, hcm2, hcs2, htk2⟩
  · have hM : ms = [] := List.eq_nil_of_length_eq_zero hz
    subst hM
    have hM2 : M = [] := List.eq_nil_of_length_eq_zero hl2.symm
    subst hM2
    refine wpList_plain hgd fun K hK => ?_
    have hsr : Src Tryz.prog i0.size 39 (.slice none 0 0) 0 [] w := Src.ofNil w Tryz.underlying39 0
    rcases h1.2 with ⟨rfl, hn0⟩ | ⟨g, cp, cur, rfl, hB, hgg, hnc, hcm, hcs, htk⟩
    · have hr := run_append_zero (P := Tryz.prog) w 39 39 o.type 34 i0 Tryz.underlying39 hi (.slice none 0 0) hsr
      unfold Oper.wp execOp
      simp only [ho, resolve, invoke, builtin, Sem.run_bind, Sem.run_pure, Result.andThen_ok, List.map_toArray, List.map_cons, List.map_nil, hs, hx, hr]
      exact hK _ _ (h _ _ (by rw [List.append_nil]; exact hO) (World.grownBy.refl _ _))
    · have hr := run_append_room_src (P := Tryz.prog) (w := w) 39 39 o.type 34 i0 Tryz.underlying39 hi g 0 vs.length cp (.slice none 0 0) 0 [] hsr (by omega) (fun j hj => absurd hj (by simp)) (fun j hj => absurd hj (by simp))
      have hw : w.setCells g (0 + vs.length * i0.size) [] = w := by simp [World.setCells]
      rw [hw] at hr
      unfold Oper.wp execOp
      simp only [ho, resolve, invoke, builtin, Sem.run_bind, Sem.run_pure, Result.andThen_ok, List.map_toArray, List.map_cons, List.map_nil, hs, hx, hr]
      exact hK _ _ (h _ _ (by rw [List.append_nil]; exact hO) (World.grownBy.refl _ _))
  · refine wpList_append_own_wide (P := Tryz.prog) w hgd os ox 39 ho base 34 i0 _ 1 24 Tryz.underlying39 hi hz0 hz1 hz2 rfl (by decide) u vs.length vs hs h1
      ⟨g2, 0, none⟩ ms.length cap2 ms hx (by simp) (fun j x hj => ?_) ?_ (by unfold maxLen; omega) (by omega) hbase ?_
    · have hlt : j < ms.length := by
        rcases Nat.lt_or_ge j ms.length with h | h
        · exact h
        · rw [List.getElem?_eq_none h] at hj; cases hj
      rw [← htk2, List.getElem?_take, if_pos (by omega)] at hj
      rw [show (⟨g2, 0, none⟩ : Addr).add j = ⟨g2, j, none⟩ from by unfold Addr.add; split <;> simp_all]
      unfold World.cell?
      rw [hg2]
      simpa using hj
    · intro x hx9
      obtain ⟨j, hj, rfl⟩ := List.getElem_of_mem hx9
      obtain ⟨a9, n9, c9, hv9, -⟩ := (show ∃ a n c, ms.getD j undef = .slice a n c ∧ True from by
        obtain ⟨a9, c9, hv9, -⟩ := (he2 j (by omega)).bys
        exact ⟨_, _, _, hv9, trivial⟩)
      rw [List.getD_eq_getElem?_getD, List.getElem?_eq_getElem hj] at hv9
      simp only [Option.getD_some] at hv9
      rw [hv9]
      rfl
    · intro v' w' h5 h6 _
      exact h v' w' (hfin v' w' h5 h6) h6
end Go.Proofs.YtioeimkaljmffaaGreatDoor
end

section
namespace Go.Proofs.YtioeimkaljmffaaGreatDoor
open Go.RowKit Go Go.Sort Go.Maps Go.WideMaps
set_option linter.unusedVariables false
set_option maxRecDepth 20000

/-- What the segments tell that begin with these numbers: the records, whether the last one is torn, the error; and the log behind that. -/
def readF (st : Ds) : List Int → List (List UInt8) → Lg → (List (List UInt8) × Bool × Int) × Lg
  | [], acc, g => ((acc, false, 0), g)
  | b :: r, acc, g =>
    if (st.read (nameW 119 b)).2 = 0 then
      match r with
      | [] => ((acc ++ (rowsS ((st.read (nameW 119 b)).1.getD [])).1, (if (rowsS ((st.read (nameW 119 b)).1.getD [])).2.2 = 0 then false else true), 0), { g with size := ((rowsS ((st.read (nameW 119 b)).1.getD [])).2.1 : Int), next := b + ((rowsS ((st.read (nameW 119 b)).1.getD [])).1.length : Int) })
      | b2 :: r2 => if (rowsS ((st.read (nameW 119 b)).1.getD [])).2.2 = 0 ∧ b + ((rowsS ((st.read (nameW 119 b)).1.getD [])).1.length : Int) = b2 then readF st (b2 :: r2) (acc ++ (rowsS ((st.read (nameW 119 b)).1.getD [])).1) { g with size := ((rowsS ((st.read (nameW 119 b)).1.getD [])).2.1 : Int), next := b + ((rowsS ((st.read (nameW 119 b)).1.getD [])).1.length : Int) }
        else (([], false, 160), { g with size := ((rowsS ((st.read (nameW 119 b)).1.getD [])).2.1 : Int), next := b + ((rowsS ((st.read (nameW 119 b)).1.getD [])).1.length : Int) })
    else (([], false, (st.read (nameW 119 b)).2), g)
section
variable {st : Ds} {b b2 : Int} {r : List Int} {acc : List (List UInt8)} {g : Lg} {lb : List UInt8} {bs : List (List UInt8)} {sz : Nat} {er : Int}
theorem readF_err (h : ¬ (st.read (nameW 119 b)).2 = 0) : readF st (b :: r) acc g = (([], false, (st.read (nameW 119 b)).2), g) := by
  cases r <;> rw [readF, if_neg h]
theorem readF_last (h : (st.read (nameW 119 b)).2 = 0) (hl : (st.read (nameW 119 b)).1.getD [] = lb) (hr : rowsS lb = (bs, sz, er)) : readF st [b] acc g = ((acc ++ bs, (if er = 0 then false else true), 0), { g with size := (sz : Int), next := b + (bs.length : Int) }) := by
  rw [readF, if_pos h, hl, hr]
theorem readF_go (h : (st.read (nameW 119 b)).2 = 0) (hl : (st.read (nameW 119 b)).1.getD [] = lb) (hr : rowsS lb = (bs, sz, 0)) (h2 : b + (bs.length : Int) = b2) : readF st (b :: b2 :: r) acc g = readF st (b2 :: r) (acc ++ bs) { g with size := (sz : Int), next := b + (bs.length : Int) } := by
  rw [readF, if_pos h, hl, hr]
  simp only
  rw [if_pos ⟨trivial, h2⟩]
theorem readF_bad (h : (st.read (nameW 119 b)).2 = 0) (hl : (st.read (nameW 119 b)).1.getD [] = lb) (hr : rowsS lb = (bs, sz, er)) (h2 : ¬ (er = 0 ∧ b + (bs.length : Int) = b2)) : readF st (b :: b2 :: r) acc g = (([], false, 160), { g with size := (sz : Int), next := b + (bs.length : Int) }) := by
  rw [readF, if_pos h, hl, hr]
  simp only
  rw [if_neg h2]
end
theorem rowsF_count : ∀ (f : Nat) (l : List UInt8) (a : Nat) (acc : List (List UInt8)), (rowsF f l a acc).1.length ≤ acc.length + f
  | 0, _, _, _ => by simp [rowsF]
  | f + 1, l, a, acc => by
    rw [rowsF]
    split
    · simp <;> omega
    · split
      · have := rowsF_count f l (a + (openS (l.drop a)).2.1.toNat) (acc ++ [(openS (l.drop a)).1])
        rw [List.length_append, List.length_singleton] at this
        omega
      · simp <;> omega
theorem rowsS_count (l : List UInt8) : (rowsS l).1.length ≤ l.length + 1 := by
  have := rowsF_count (l.length + 1) l 0 []
  simpa [rowsS] using this
theorem llist_at {w : World} {p q m cap : Nat} {a : Option Addr} {g : Lg} (h : LogIn w p q (.slice a m cap) g) {k : Nat} (hk : k < g.B.length) : ∃ b o, a = some ⟨b, o, none⟩ ∧ w.cell? ⟨b, o + k, none⟩ = some (.int .i64 (g.B.getD k 0)) := by
  obtain ⟨a', cap', hv, -, -, h3⟩ := h.place
  injection hv with h1 h2 h4
  subst h1
  obtain ⟨b, o, e, hc⟩ := h3 k hk
  exact ⟨b, o, e, hc w (Below.refl _ _)⟩
/-- A file's bytes, as Read hands them out. -/
theorem lread_file {W : World} {q : Nat} {st : Ds} {F : Nat → Prop} (hd : Dk W q st F) (nm : List UInt8) (hn : nm.length ≤ 9223372036854775807) : Calls Tryz.prog 32 #[.pointer (some ⟨q, 0, none⟩), .string (text nm)] W (fun e W' => ∃ a c, e = .returned (.tuple #[.slice a ((st.read nm).1.getD []).length c, .int .i64 (st.read nm).2]) ∧ Bys W' a ((st.read nm).1.getD []).length c ((st.read nm).1.getD []) ∧ Below W.heap.size W W') := by
  refine (dread_c hd nm hn).mono fun e W' ⟨v, he, hb, hv⟩ => ?_
  cases h : (st.read nm).1 with
  | none =>
    rw [h] at hv
    have hv2 : v = .slice none 0 0 := hv
    subst hv2
    exact ⟨none, 0, he, (show Bys W' none 0 0 [] from ⟨rfl, Nat.le_refl _, by omega, .inl rfl⟩), hb⟩
  | some l =>
    rw [h] at hv
    have hv2 : OwnB W' W.heap.size 5 v l := hv
    obtain ⟨a, c, rfl, hy⟩ := hv2.bys
    exact ⟨a, c, he, hy, hb⟩
end Go.Proofs.YtioeimkaljmffaaGreatDoor
end

section
namespace Go.Proofs.YtioeimkaljmffaaGreatDoor
open Go.RowKit Go Go.Sort Go.Maps Go.WideMaps
set_option linter.unusedVariables false
set_option maxRecDepth 20000

/-- What read leaves. -/
def LreadPost (W : World) (p q : Nat) (bv : Value) (R : (List (List UInt8) × Bool × Int) × Lg) (e : Ending) (W' : World) : Prop :=
  ∃ v, e = .returned (.tuple #[v, .bool R.1.2.1, .int .i64 R.1.2.2]) ∧ LogIn W' p q bv R.2 ∧ Trn (fun k => k = p) W W' ∧ OwnRows W' W.heap.size v R.1.1
/-- Where a round of read stands. -/
structure LrdI (W : World) (p q n cap : Nat) (a : Option Addr) (st : Ds) (B : List Int) (R : (List (List UInt8) × Bool × Int) × Lg) (j : Nat) (rv : Value) (acc : List (List UInt8)) (g : Lg) (wr : World) : Prop where
  log : LogIn wr p q (.slice a n cap) g
  same : g.B = B
  trn : Trn (fun k => k = p) W wr
  own : OwnRows wr W.heap.size rv acc
  few : acc.length ≤ j * 100001
  goes : readF st (B.drop j) acc g = R
theorem LrdI.below {W : World} {p q n cap : Nat} {a : Option Addr} {st : Ds} {B : List Int} {R : (List (List UInt8) × Bool × Int) × Lg} {j : Nat} {rv : Value} {acc : List (List UInt8)} {g : Lg} {wr w2 : World} (h : LrdI W p q n cap a st B R j rv acc g wr) (hb : Below wr.heap.size wr w2) : LrdI W p q n cap a st B R j rv acc g w2 :=
  ⟨h.log.below hb, h.same, h.trn.then (Trn.of hb), h.own.kept hb, h.few, h.goes⟩
set_option maxRecDepth 100000 in
set_option maxHeartbeats 12800000 in
theorem lread_p {W : World} {p q : Nat} {bv : Value} {st : Ds} {F : Nat → Prop} {g : Lg} (hd : Dk W q st F) (hl : LogIn W p q bv g) (hn : ∀ k, F k → ¬ lgfoot p bv k) (hT : TabI W) (hTp : ∀ W', Trn (fun k => k = p) W W' → TabI W') (hB : ∀ x ∈ g.B, 0 ≤ x ∧ x ≤ 1000000000000) (hlen : g.B.length ≤ 5000) (hsz : ∀ f ∈ st.F, f.b.length ≤ 99999) :
    Calls Tryz.prog 46 #[.pointer (some ⟨p, 0, none⟩)] W (LreadPost W p q bv (readF st g.B [] g)) := by
  have HDK := Lib.hid (fun (W' : World) (ht : Trn (fun k => k = p) W W') => wdk_keep hd fun k hk => ht.block k (wdk_lt hd hk) fun e => hn k hk (.inl e))
  have HTP := Lib.hid hTp
  have HRL := Lib.hid (show ∀ x, (((st.read (nameW 119 x)).1).getD []).length ≤ 99999 from fun x => by
    unfold Ds.read
    split
    · simp
    · split
      · simp
      · rename_i f hf
        exact hsz f (List.mem_of_find?_eq_some hf))
  have HFT := Lib.hid (fun k (hk : lgfoot p bv k) => hl.lt hk)
  obtain ⟨a, cap, hv, hle, hmx, -⟩ := hl.place
  subst hv
  have c2 := hl.cs.2.2.1
  obtain ⟨B, hBq⟩ : ∃ z, g.B = z := ⟨_, rfl⟩
  obtain ⟨R, hR⟩ : ∃ z, readF st g.B [] g = z := ⟨_, rfl⟩
  have HST := Lib.hid (show LrdI W p q B.length cap a st B R 0 (.slice none 0 0) [] g W from ⟨by rw [← hBq]; exact hl, hBq, Trn.refl, OwnRows.nil0 _ _, by simp, by rw [List.drop_zero, ← hBq]; exact hR⟩)
  rw [hR]
  rw [hBq] at hB hlen c2 hle ⊢
  obtain ⟨n, hnn⟩ : ∃ z, B.length = z := ⟨_, rfl⟩
  rw [hnn] at hlen c2 hle HST ⊢
  have HNN := Lib.hid hnn
  have HB := Lib.hid (show ∀ j, 0 ≤ B.getD j 0 ∧ B.getD j 0 ≤ 1000000000000 from fun j => by
    rw [List.getD_eq_getElem?_getD]
    cases h : B[j]? with
    | none => simp
    | some x => exact hB x (List.mem_of_getElem? h))
  have HLEN := Lib.hid (And.intro hlen (And.intro hle hmx))
  clear hd hl hn hT hTp hB hsz hBq hR hnn hlen hle hmx
  go_enter Tryz.func46, Tryz.ntmps46
  go_wp2
  go_step3
  go_wp2
  go_step3
  go_wp2
  go_loopw [18, 5, 6] (fun i r t wr => ∃ (j : Nat) (acc : List (List UInt8)) (g' : Lg) (rv : Value), j ≤ n ∧ (j < n ∨ n = 0) ∧ i = .int .i64 (j : Int) ∧ rv = r ∧ t = .bool false ∧ LrdI W p q n cap a st B R j rv acc g' wr) (fun i _ _ _ => n - (intOf i).toNat)
  case atStart => exact ⟨0, [], g, _, by omega, by omega, rfl, rfl, rfl, HST.out⟩
  case round =>
    obtain ⟨j, acc, g', rv, hj, hj2, rfl, rfl, rfl, hI⟩ := hrel
    have HI := Lib.hid hI
    clear hI
    by_cases hlt : j < n
    · have hji : (j : Int) < (n : Int) := by omega
      have hjc : (j : Int) < (cap : Int) := by have := HLEN.out; omega
      have hj9 : (j : Int) ≤ 5000 := by have := HLEN.out; omega
      have HLT := Lib.hid hlt
      obtain ⟨bb, oo, rfl, d0⟩ := llist_at HI.out.log (k := j) (by rw [HI.out.same, HNN.out]; exact hlt)
      rw [HI.out.same] at d0
      obtain ⟨x, hx⟩ : ∃ z, B.getD j 0 = z := ⟨_, rfl⟩
      have HX := Lib.hid (hx ▸ HB.out j)
      have HDR := Lib.hid (show B.drop j = x :: B.drop (j + 1) from by
        have hjl : j < B.length := by have := HNN.out; omega
        rw [List.drop_eq_getElem_cons hjl, ← hx, List.getD_eq_getElem?_getD, List.getElem?_eq_getElem hjl]
        rfl)
      rw [hx] at d0
      obtain ⟨nm, hnm⟩ : ∃ z, nameW 119 x = z := ⟨_, rfl⟩
      have hnl : nm.length ≤ 9223372036854775807 := by rw [← hnm]; have := nameW_len 119 x; omega
      obtain ⟨lb, hlb⟩ : ∃ z, (st.read nm).1.getD [] = z := ⟨_, rfl⟩
      have HLB := Lib.hid (show lb.length ≤ 99999 from by rw [← hlb, ← hnm]; exact HRL.out x)
      obtain ⟨r1, hr1⟩ : ∃ z, (st.read nm).2 = z := ⟨_, rfl⟩
      have HNA := Lib.hid (fun (W' : World) (hb : Below wr.heap.size wr W') => (show Calls Tryz.prog 29 #[.int .i64 x] W' (Tells (.string (text nm)) W') from by
        have := wname_c x (by have := HX.out; omega) (by have := HX.out; omega) (HTP.out W' (HI.out.below hb).trn)
        rw [hnm] at this
        exact this))
      have HRD := Lib.hid (fun (W' : World) (hb : Below wr.heap.size wr W') => by
        have := lread_file (HDK.out W' (HI.out.below hb).trn) nm hnl
        rw [hlb, hr1] at this
        exact this)
      have HM := Lib.hid (And.intro hnm (And.intro hlb hr1))
      obtain ⟨nb, hnb⟩ : ∃ z, lb.length = z := ⟨_, rfl⟩
      rw [hnb] at HRD HLB
      clear hx hnm hlb hr1 hnl hj2 hlt hnb
      go_upto_region 6 with (fail)
      clear d0
      refine wp_region_flow [none, none, none, none, none, none, none, none, none, some 10, some 11, none, none, none, none, none, none, none, none, none, none, none, none, some 7, some 0, some 1, some 2, some 3, some 4, some 5, some 6, some 8, some 9, none, none, none, none, none, none, none, none, none, none, none, none, none, none, none, none, none, none, none, none, none, none, none, none, none, none, none, none, none, none, none, none, none, none, none, none, none, none, none, none, none, none, none, none, none, none, none, none, none, none, none, none, none, none, none] (fun i => [u24, u25, u26, u27, u28, u29, u30, u23, u31, u32, u9, u10].getD i undef) [(fun v _ => v = .pointer (some ⟨p, 0, none⟩)), (fun v _ => v = .pointer (some ⟨p, 0, none⟩)), (fun v _ => v = .pointer (some ⟨p, 0, none⟩)), (fun v _ => v = .pointer (some ⟨q, 0, none⟩)), (fun v _ => v = .int .i64 x), (fun v _ => v = .string (text nm)), (fun v W => ∃ a c, v = .tuple #[.slice a nb c, .int .i64 r1] ∧ Bys W a nb c lb), (fun v W => ∃ a c, v = .tuple #[.slice a nb c, .int .i64 r1] ∧ Bys W a nb c lb), (fun v W => ∃ a c, v = .slice a nb c ∧ Bys W a nb c lb), (fun v _ => v = .int .i64 r1), (fun v W => ∃ a c, v = .slice a nb c ∧ Bys W a nb c lb), (fun v _ => v = .int .i64 r1)] (by kernel_rfl) (by kernel_rfl) rfl rfl rfl ?_ ?_ ?_
      · intro g hg v X Y hX hY hv
        simp only [List.mem_cons, List.not_mem_nil, or_false] at hg
        rcases hg with rfl | rfl | rfl | rfl | rfl | rfl | rfl | rfl | rfl | rfl | rfl | rfl
        all_goals first
          | exact hv
          | (obtain ⟨a8, c8, h1, h2⟩ := hv; exact ⟨a8, c8, h1, h2.below hY⟩)
      · simp only [flowOps, and_true]
        refine ⟨?_, ?_, ?_, ?_, ?_, ?_, ?_, ?_, ?_, ?_, ?_, ?_⟩
        · intro xs W9 hW hn9
          simp only [flowAct, List.zipWith_cons_cons, List.zipWith_nil_left]
          go_wp2_with (fail)
          exact ⟨rfl, _, rfl, Below.refl _ _, rfl⟩
        · intro xs W9 hW hn9
          simp [flowNeeds, Region.binds] at hn9
          simp only [flowAct, List.zipWith_cons_cons, List.zipWith_nil_left]
          try simp only [hn9]
          go_wp2_with (fail)
          exact ⟨rfl, _, rfl, Below.refl _ _, rfl⟩
        · intro xs W9 hW hn9
          simp [flowNeeds, Region.binds] at hn9
          simp only [flowAct, List.zipWith_cons_cons, List.zipWith_nil_left]
          try simp only [hn9]
          go_wp2_with (fail)
          exact ⟨rfl, _, rfl, Below.refl _ _, rfl⟩
        · intro xs W9 hW hn9
          simp [flowNeeds, Region.binds] at hn9
          have hl9 := (HI.out.below hW).log
          obtain ⟨c0, c1, c2, c3, c4, c5, c6⟩ := hl9.cs
          clear hl9
          simp only [flowAct, List.zipWith_cons_cons, List.zipWith_nil_left]
          try simp only [hn9]
          go_wp2_with (fail)
          exact ⟨rfl, _, rfl, Below.refl _ _, rfl⟩
        · intro xs W9 hW hn9
          simp only [flowAct, List.zipWith_cons_cons, List.zipWith_nil_left]
          go_wp2_with (fail)
          exact ⟨rfl, _, rfl, Below.refl _ _, rfl⟩
        · intro xs W9 hW hn9
          simp [flowNeeds, Region.binds] at hn9
          simp only [flowAct, List.zipWith_cons_cons, List.zipWith_nil_left]
          try simp only [hn9]
          go_wp2_with (go_at_call 29; (with_reducible refine (HNA.out _ hW).mono ?_); rintro e9 w9 ⟨rfl, hb9⟩)
          exact ⟨rfl, _, rfl, hb9, rfl⟩
        · intro xs W9 hW hn9
          simp [flowNeeds, Region.binds] at hn9
          simp only [flowAct, List.zipWith_cons_cons, List.zipWith_nil_left]
          try simp only [hn9]
          go_wp2_with (go_at_call 32; (with_reducible refine (HRD.out _ hW).mono ?_); rintro e9 w9 ⟨a9, c9, rfl, hy9, hb9⟩)
          exact ⟨rfl, _, rfl, hb9, a9, c9, rfl, hy9⟩
        · intro xs W9 hW hn9
          simp [flowNeeds, Region.binds] at hn9
          obtain ⟨a8, c8, e8, hy8⟩ := hn9
          simp only [flowAct, List.zipWith_cons_cons, List.zipWith_nil_left]
          simp only [e8]
          go_wp2_with (fail)
          exact ⟨rfl, _, rfl, Below.refl _ _, a8, c8, rfl, hy8⟩
        · intro xs W9 hW hn9
          simp [flowNeeds, Region.binds] at hn9
          obtain ⟨a8, c8, e8, hy8⟩ := hn9
          simp only [flowAct, List.zipWith_cons_cons, List.zipWith_nil_left]
          simp only [e8]
          go_wp2_with (fail)
          exact ⟨rfl, _, rfl, Below.refl _ _, a8, c8, rfl, hy8⟩
        · intro xs W9 hW hn9
          simp [flowNeeds, Region.binds] at hn9
          obtain ⟨a8, c8, e8, hy8⟩ := hn9
          simp only [flowAct, List.zipWith_cons_cons, List.zipWith_nil_left]
          simp only [e8]
          go_wp2_with (fail)
          exact ⟨rfl, _, rfl, Below.refl _ _, rfl⟩
        · intro xs W9 hW hn9
          simp [flowNeeds, Region.binds] at hn9
          obtain ⟨⟨a8, c8, e8, hy8⟩, -⟩ := hn9
          simp only [flowAct, List.zipWith_cons_cons, List.zipWith_nil_left]
          simp only [e8]
          go_wp2_with (fail)
          exact ⟨rfl, _, rfl, Below.refl _ _, a8, c8, rfl, hy8⟩
        · intro xs W9 hW hn9
          simp [flowNeeds, Region.binds] at hn9
          simp only [flowAct, List.zipWith_cons_cons, List.zipWith_nil_left]
          try simp only [hn9]
          go_wp2_with (fail)
          exact ⟨rfl, _, rfl, Below.refl _ _, rfl⟩
      · intro xs W9 hW hall
        simp only [flowAll, and_true, Nat.zero_add, Nat.reduceAdd] at hall
        obtain ⟨-, -, -, -, -, -, -, -, -, -, ⟨a8, c8, e8, hy8⟩, e9⟩ := hall
        simp only [flowAct, List.zipWith_cons_cons, List.zipWith_nil_left]
        simp only [e8, e9]
        clear e8 e9
        have HI2 := Lib.hid (HI.out.below hW)
        have HY := Lib.hid hy8
        clear hW hy8 HI
        by_cases hr0 : r1 = 0
        · subst hr0
          have HRW := Lib.hid (rows_c HY.out HLB.out)
          obtain ⟨⟨bs, sz, er⟩, hrs⟩ : ∃ z, rowsS lb = z := ⟨_, rfl⟩
          have HBS := Lib.hid (show bs.length ≤ 100000 from by have := rowsS_count lb; rw [hrs] at this; simp only at this; have h2 := HY.out.len; have h3 := HLB.out; omega)
          have HRS := Lib.hid hrs
          unfold RowsPost at HRW
          rw [hrs] at HRW
          simp only at HRW
          obtain ⟨mb, hmb⟩ : ∃ z, bs.length = z := ⟨_, rfl⟩
          have HMB := Lib.hid hmb
          clear hrs hmb
          go_upto_region 11 with (first
            | (go_at_call 92; (with_reducible refine HRW.out.mono ?_); rintro e3 w3 ⟨v3, rfl, ho3, hb3⟩; obtain ⟨a3, c3, hv3⟩ := ho3.len; rw [HMB.out] at hv3; subst hv3; have HO3 := Lib.hid ho3; have HI3 := Lib.hid (HI2.out.below hb3); have HS3 := Lib.hid (HI2.out.trn.size); clear ho3 hb3)
            | (at_builtin; go_loud (refine wpList_append_rows rfl _ _ rfl (u := rv) rfl HI3.out.own rfl HO3.out HS3.out (by have h1 := HI3.out.few; have h2 := HBS.out; have h3 := HLEN.out; have h4 := HLT.out; have h5 : j * 100001 ≤ 5000 * 100001 := Nat.mul_le_mul_right _ (by omega); omega) HI3.out.trn.size ?_; intro v4 w4 ho4 hg4; have HO4 := Lib.hid ho4; have HG4 := Lib.hid hg4; clear ho4 hg4)))
          have HL4 := Lib.hid (HI3.out.log.keep (W' := w4) fun k hk => HG4.out.block k (HI3.out.log.lt hk) fun e => by
            have h1 := (HI3.out.own.own e.symm).1
            have h2 := HFT.out k hk
            omega)
          have HT4 := Lib.hid (HI3.out.trn.trans (Trn.grown HG4.out (F := fun k => rv.ownBlock = some k) (fun k h => h)) (fun k hk => .inr (HI3.out.own.own hk).1))
          obtain ⟨c0, c1, c2, c3, c4, c5, c6⟩ := HL4.out.cs
          have f3 := HL4.out.fz 3
          have f4 := HL4.out.fz 4
          have hx0 := HX.out.1
          have hx1 := HX.out.2
          have hb9 : (mb : Int) ≤ 100000 := by have h1 := HBS.out; have h2 := HMB.out; omega
          clear c0 c1 c5 c6
          go_upto_region 12 with (fail)
          have HL5 := Lib.hid (HL4.out.turn (g' := { g' with size := (sz : Int), next := x + (mb : Int) }) (W' := (w4.setCell ⟨p, 3, none⟩ (.int .i64 (sz : Int))).setCell ⟨p, 4, none⟩ (.int .i64 (x + (mb : Int)))) (fun k hk _ => (heap_setCell_other _ _ _ _ hk).trans (heap_setCell_other _ _ _ _ hk)) (by rw [heap_setCell_same _ p 4 _ 87 _ (by rw [heap_setCell_same _ p 3 _ 87 _ HL4.out.head])]; rfl) rfl)
          have HT5 := Lib.hid ((HT4.out.set (p := ⟨p, 3, none⟩) (v := .int .i64 (sz : Int)) (.inl rfl)).set (p := ⟨p, 4, none⟩) (v := .int .i64 (x + (mb : Int))) (.inl rfl))
          have HPW := Lib.hid (show ∀ (k : Nat) (t : TypeId) cs fr, w4.heap[k]? = some (Obj.cells cs t fr) → t ≠ 87 → k ≠ p from fun k t cs fr hk ht e => by
            subst e
            rw [HL4.out.head] at hk
            injection hk with hk
            injection hk with h1 h2
            exact ht h2.symm)
          have HO5 := Lib.hid (HO4.out.keep (W' := (w4.setCell ⟨p, 3, none⟩ (.int .i64 (sz : Int))).setCell ⟨p, 4, none⟩ (.int .i64 (x + (mb : Int)))) (fun k cs fr hk => have hne := HPW.out k _ cs fr hk (by decide); (heap_setCell_other _ _ _ _ hne).trans (heap_setCell_other _ _ _ _ hne)) (fun k cs fr hk => have hne := HPW.out k _ cs fr hk (by decide); (heap_setCell_other _ _ _ _ hne).trans (heap_setCell_other _ _ _ _ hne)))
          have HSB := Lib.hid (show ({ g' with size := (sz : Int), next := x + (mb : Int) } : Lg).B = B from HI3.out.same)
          have HG := Lib.hid HI3.out.goes
          have HFW := Lib.hid HI3.out.few
          clear c2 c3 c4 f3 f4 hx0 hx1 hb9 HL4 HT4 HPW HO4 HG4 HI3 HO3 HS3 HI2 HRW HY
          generalize (w4.setCell ⟨p, 3, none⟩ (.int .i64 (sz : Int))).setCell ⟨p, 4, none⟩ (.int .i64 (x + (mb : Int))) = w5 at *
          obtain ⟨c0, c1, c2, c3, c4, c5, c6⟩ := HL5.out.cs
          clear c0 c1 c3 c5 c6
          have hn1 : (1 : Int) ≤ (n : Int) := by omega
          have hn2 : (n : Int) ≤ 5000 := by have := HLEN.out; omega
          by_cases hlast : j + 1 = n
          · have HDZ := Lib.hid (show B.drop j = [x] from by
              have h1 := HNN.out
              rw [HDR.out, List.drop_eq_nil_of_le (by omega)])
            have hjl : (j : Int) = (n : Int) - 1 := by omega
            clear c4
            by_cases her : er = 0
            · subst her
              have HRR := Lib.hid (show R = ((acc ++ bs, false, 0), { g' with size := (sz : Int), next := x + (mb : Int) }) from by
                obtain ⟨h1, h2, h3⟩ := HM.out
                have h4 := HG.out
                rw [HDZ.out, readF_last (by rw [h1]; exact h3) (by rw [h1]; exact h2) HRS.out, if_pos rfl, HMB.out] at h4
                exact h4.symm)
              go_wp2
              try rw [Exit.noGoto_ret]
              go_ret3
              rw [HRR.out]
              exact ⟨_, rfl, HL5.out, HT5.out, HO5.out⟩
            · have hrb : (er == 0) = false := by rw [beq_eq_false_iff_ne]; exact her
              have hrt : (er != 0) = true := by rw [bne, hrb]; rfl
              have HRR := Lib.hid (show R = ((acc ++ bs, true, 0), { g' with size := (sz : Int), next := x + (mb : Int) }) from by
                obtain ⟨h1, h2, h3⟩ := HM.out
                have h4 := HG.out
                rw [HDZ.out, readF_last (by rw [h1]; exact h3) (by rw [h1]; exact h2) HRS.out, if_neg her, HMB.out] at h4
                exact h4.symm)
              go_wp2
              try rw [Exit.noGoto_ret]
              go_ret3
              rw [HRR.out]
              exact ⟨_, by rw [← hrt]; rfl, HL5.out, HT5.out, HO5.out⟩
          · have hjl : ¬ (j : Int) = (n : Int) - 1 := by omega
            have hjb : ((j : Int) == (n : Int) - 1) = false := by rw [beq_eq_false_iff_ne]; exact hjl
            have hjn : (j : Int) + 1 < (n : Int) := by omega
            obtain ⟨y, hy⟩ : ∃ z, B.getD (j + 1) 0 = z := ⟨_, rfl⟩
            have HDZ := Lib.hid (show B.drop j = x :: y :: B.drop (j + 1 + 1) from by
              have hjl : j + 1 < B.length := by have := HNN.out; have := HLT.out; omega
              rw [HDR.out, List.drop_eq_getElem_cons hjl, ← hy, List.getD_eq_getElem?_getD, List.getElem?_eq_getElem hjl]
              rfl)
            have HDY := Lib.hid (show B.drop (j + 1) = y :: B.drop (j + 1 + 1) from by
              have := HDZ.out
              rw [HDR.out] at this
              exact (List.cons.inj this).2)
            obtain ⟨b7, o7, e7, d1⟩ := llist_at HL5.out (k := j + 1) (by rw [HSB.out, HNN.out]; have := HLT.out; omega)
            injection e7 with e7
            injection e7 with e7 e8
            subst e7 e8
            rw [HSB.out, hy] at d1
            clear hy
            have HNL := Lib.hid hlast
            clear hlast
            by_cases her : er = 0
            · subst her
              by_cases hnx : x + (mb : Int) = y
              · have HRR := Lib.hid (show readF st (B.drop (j + 1)) (acc ++ bs) { g' with size := (sz : Int), next := x + (mb : Int) } = R from by
                  obtain ⟨h1, h2, h3⟩ := HM.out
                  have h4 := HG.out
                  rw [HDZ.out, readF_go (by rw [h1]; exact h3) (by rw [h1]; exact h2) HRS.out (by rw [HMB.out]; exact hnx), HMB.out] at h4
                  rw [HDY.out]
                  exact h4)
                have HNX := Lib.hid hnx
                go_upto_region 14 with (fail)
                go_quiet (fail)
                have hk6 := drewN_below (Below.refl w5.heap.size w5) nq
                have HI6 := Lib.hid ((show LrdI W p q n cap (some ⟨bb, oo, none⟩) st B R (j + 1) v4 (acc ++ bs) { g' with size := (sz : Int), next := x + (mb : Int) } w5 from ⟨HL5.out, HSB.out, HT5.out, HO5.out, by rw [List.length_append, HMB.out]; have h1 := HFW.out; have h2 := HBS.out; have h3 := HMB.out; rw [Nat.succ_mul]; omega, HRR.out⟩).below hk6)
                clear c2 c4 d1 hk6
                go_wp2
                go_roundw
                case rel => exact ⟨j + 1, _, _, _, HLT.out, by have h1 := HNL.out; have h2 := HLT.out; omega, by go_num, rfl, rfl, HI6.out⟩
                case measure => simp [intOf]; have := HLT.out; omega
              · have HRR := Lib.hid (show R = (([], false, 160), { g' with size := (sz : Int), next := x + (mb : Int) }) from by
                  obtain ⟨h1, h2, h3⟩ := HM.out
                  have h4 := HG.out
                  rw [HDZ.out, readF_bad (by rw [h1]; exact h3) (by rw [h1]; exact h2) HRS.out (by rw [HMB.out]; exact fun h => hnx h.2), HMB.out] at h4
                  exact h4.symm)
                have hxb : (x + (mb : Int) == y) = false := by rw [beq_eq_false_iff_ne]; exact hnx
                go_upto_region 14 with (fail)
                go_quiet (fail)
                have hk6 := drewN_below (Below.refl w5.heap.size w5) nq
                go_wp2
                try rw [Exit.noGoto_ret]
                go_ret3
                rw [HRR.out]
                exact ⟨_, rfl, HL5.out.below hk6, HT5.out.then (Trn.of hk6), OwnRows.nil0 _ _⟩
            · have hrb : (er == 0) = false := by rw [beq_eq_false_iff_ne]; exact her
              have hrt : (er != 0) = true := by rw [bne, hrb]; rfl
              have HRR := Lib.hid (show R = (([], false, 160), { g' with size := (sz : Int), next := x + (mb : Int) }) from by
                obtain ⟨h1, h2, h3⟩ := HM.out
                have h4 := HG.out
                rw [HDZ.out, readF_bad (by rw [h1]; exact h3) (by rw [h1]; exact h2) HRS.out (fun h => her h.1), HMB.out] at h4
                exact h4.symm)
              go_upto_region 14 with (fail)
              go_quiet (fail)
              have hk6 := drewN_below (Below.refl w5.heap.size w5) nq
              go_wp2
              try rw [Exit.noGoto_ret]
              go_ret3
              rw [HRR.out]
              exact ⟨_, rfl, HL5.out.below hk6, HT5.out.then (Trn.of hk6), OwnRows.nil0 _ _⟩
        · have hrb : (r1 == 0) = false := by rw [beq_eq_false_iff_ne]; exact hr0
          have HRR := Lib.hid (show R = (([], false, r1), g') from by
            obtain ⟨h1, h2, h3⟩ := HM.out
            have h4 := HI2.out.goes
            rw [HDR.out, readF_err (by rw [h1, h3]; exact hr0), h1, h3] at h4
            exact h4.symm)
          go_wp2
          try rw [Exit.noGoto_ret]
          go_ret3
          rw [HRR.out]
          exact ⟨_, rfl, HI2.out.log, HI2.out.trn, OwnRows.nil0 _ _⟩
    · obtain rfl : j = 0 := by omega
      obtain rfl : n = 0 := by omega
      have HRR := Lib.hid (show R = ((acc, false, 0), g') from by
        have h1 := HI.out.goes
        have h2 := HNN.out
        rw [List.eq_nil_of_length_eq_zero h2] at h1
        rw [← h1]
        rfl)
      go_wp2
      try rw [Exit.noGoto_ret]
      go_ret3
      rw [HRR.out]
      exact ⟨_, rfl, HI.out.log, HI.out.trn, HI.out.own⟩
end Go.Proofs.YtioeimkaljmffaaGreatDoor
end

