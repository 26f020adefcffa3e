/-
  The reference's Put: bytes with a number behind them, in new memory.
-/
import Derived.Test.YtkjpmdpljdgcjaaDoorPP
namespace Go.Proofs.YtkjpmdpljdgcjaaDoor
open Go.RowKit
set_option linter.unusedVariables false

theorem and255 (x : Int) (h0 : 0 ≤ x) (h1 : x ≤ 4611686018427387903) : bits .and .i64 x 255 = x % 256 := by
  obtain ⟨m, rfl⟩ := Int.eq_ofNat_of_zero_le h0
  have e1 : (BitVec.ofInt 64 ((m : Nat) : Int)).toNat = m := by
    rw [BitVec.ofInt_natCast, BitVec.toNat_ofNat]; exact Nat.mod_eq_of_lt (by omega)
  show IntKind.i64.wrap ((BitVec.ofInt 64 (m : Int) &&& BitVec.ofInt 64 255).toNat : Int) = _
  rw [BitVec.toNat_and, e1, show (BitVec.ofInt 64 255).toNat = 255 by decide, show 255 = 2 ^ 8 - 1 by rfl, Nat.and_two_pow_sub_one_eq_mod, IntWalk.i64_in _ (by omega)]
  omega
theorem shr_bd (n : Int) (h0 : 0 ≤ n) (h1 : n ≤ 4611686018427387903) (i : Nat) : 0 ≤ n / 2 ^ i ∧ n / 2 ^ i ≤ 4611686018427387903 := by
  obtain ⟨m, rfl⟩ := Int.eq_ofNat_of_zero_le h0
  rw [show ((m : Int) / 2 ^ i) = ((m / 2 ^ i : Nat) : Int) by simp]
  have := Nat.div_le_self m (2 ^ i)
  generalize m / 2 ^ i = q at *
  omega
theorem numK_zero (n : Int) (k : Nat) (hk : 0 < k) : byt8 (numK n k) 0 = UInt8.ofNat (n.toNat / 256 ^ (k - 1) % 256 + markS k) := by
  unfold byt8 numK
  simp [List.getD, rawB_length, hk]
theorem numK_next (n : Int) (k j : Nat) (hj : 0 < j) (hk : j < k) : byt8 (numK n k) j = rawAt n (k - 1 - j) := by
  rw [← rawB_get n k j hk]
  unfold byt8 numK
  simp [List.getD, show ¬ 0 = j by omega]
theorem first_val (n : Int) (k : Nat) (hk : k = 1 ∨ k = 2 ∨ k = 4 ∨ k = 8) (h0 : 0 ≤ n) (hn : n.toNat / 256 ^ (k - 1) < 64) :
    n / 2 ^ (8 * (k - 1)) % 256 + (markS k : Nat) = ((byt8 (numK n k) 0).toNat : Int) := by
  have hm : markS k ≤ 192 := by rcases hk with rfl | rfl | rfl | rfl <;> decide
  rw [rawAt_val n h0, numK_zero n k (by omega)]
  have hr : (rawAt n (k - 1)).toNat = n.toNat / 256 ^ (k - 1) := by unfold rawAt; simp; omega
  rw [hr]
  generalize n.toNat / 256 ^ (k - 1) = x at *
  simp; omega

theorem one_bys (w : World) (e : TypeId) (x : Int) (c : UInt8) (h : x = (c.toNat : Int)) : Bys (w.alloc (.cells #[.int .u8 x] e)) (some ⟨w.heap.size, 0, none⟩) 1 1 [c] := by
  subst h
  refine ⟨rfl, Nat.le_refl _, by omega, .inr ⟨w.heap.size, 0, rfl, fun i hi => ?_⟩⟩
  obtain rfl : i = 0 := by omega
  unfold World.cell?
  rw [heap_alloc_new]
  rfl

/-- Where the loop stands: j of the number's bytes are appended. -/
def PutAt (l : List UInt8) (n : Int) (k j : Nat) (w : World) (v : Value) (wr : World) : Prop :=
  OwnB wr w.heap.size 5 v (l ++ (numK n k).take j) ∧ Below w.heap.size w wr
theorem PutAt.next {l : List UInt8} {n : Int} {k j : Nat} {w wr w1 : World} {v v' : Value} {o : Obj} (hj : j < k) (h : PutAt l n k j w v wr)
    (ho : OwnB w1 w.heap.size 5 v' (l ++ ((numK n k).take j ++ [byt8 (numK n k) j]))) (hg : (wr.alloc o).grownBy w1 v.ownBlock) : PutAt l n k (j + 1) w v' w1 := by
  refine ⟨?_, (h.2.alloc h.2.size _).grown hg (by have := h.2.size; simp; omega) (fun q hq => (h.1.lt q hq).1)⟩
  have := take_snoc8 (numK n k) j (by rw [numK_length]; exact hj)
  rw [this]
  exact ho

set_option maxRecDepth 100000 in
set_option maxHeartbeats 3200000 in
theorem rput_1 {w : World} {a : Option Addr} {m cap : Nat} {l : List UInt8} (hb : Bys w a m cap l) (hn : m ≤ 1000000) (n : Int) (h0 : 0 ≤ n) (h1 : n ≤ 4611686018427387903) (hs : sizeS n = 1) (hlow : n.toNat / 256 ^ (1 - 1) < 64) :
    Calls Tryd.prog 87 #[.slice a m cap, .int .i64 n] w (BytesPost (l ++ numB n) w) := by
  obtain ⟨i0, hi, hz0, hz1, hz2⟩ := info_parts Tryd.info5
  have hln : l.length = m := hb.len
  have HLN := Lib.hid hln
  have HB := Lib.hid (numB_some (k := 1) hs)
  have HS := Lib.hid hs
  have HL := Lib.hid hlow
  have hba := hb.below ((Below.refl w.heap.size w).alloc (Nat.le_refl _) (.cells #[] 5))
  have hoe := OwnB.empty w w.heap.size 5 (Nat.le_refl _)
  clear hs hlow hln
  go_enter Tryd.func87, Tryd.ntmps87
  go_wp2_with (first
    | (go_at_call 105; refine (rsize_c n (by omega) (by omega) _).mono ?_; rintro e w' ⟨rfl, rfl⟩; rw [HS.out])
    | (at_builtin; refine wpList_append_bys rfl (.tmp 9) (.tmp 10) 59 rfl Tryd.underlying59 hi hz0 hz1 hz2 rfl rfl hoe rfl hba (by simp; omega) (by simp) ?_; intro v1 w1 ho1 hg1))
  have b1 : Below w.heap.size w w1 := ((Below.refl w.heap.size w).alloc (Nat.le_refl _) (.cells #[] 5)).grown hg1 (by simp) (fun k hk => (hoe.lt k hk).1)
  rw [List.nil_append] at ho1
  clear hg1 hoe hba
  go_loopw [5, 7] (fun v i wr => ∃ j : Nat, j ≤ 1 ∧ i = .int .i64 (0 - (j : Int)) ∧ PutAt l n 1 j w v wr) (fun _ i _ => (intOf i + 1).toNat)
  case atStart => exact ⟨0, by omega, rfl, by simpa using ho1, b1⟩
  case round =>
    obtain ⟨j, hj, rfl, hp⟩ := hrel
    have hpo := hp.1
    have hps := hp.2.size
    have hlen : (l ++ (numK n 1).take j).length ≤ 1000008 := by have := HLN.out; simp [numK_length]; omega
    by_cases hlt : j < 1
    · by_cases hj0 : j = 0
      · subst hj0
        have HA := Lib.hid (and255 n (by omega) (by omega))
        have HF := Lib.hid (show n % 256 + 0 = ((byt8 (numK n 1) 0).toNat : Int) by
          have := first_val n 1 (by omega) h0 HL.out
          rw [show (2 : Int) ^ (8 * (1 - 1)) = 1 by decide, show ((markS 1 : Nat) : Int) = 0 by decide] at this
          first | exact this | (rw [Int.ediv_one] at this; exact this))
        have hf8 := (byt8 (numK n 1) 0).toNat_lt
        go_wp2_with (at_builtin; refine wpList_append_bys rfl (.tmp 43) (.tmp 45) 59 rfl Tryd.underlying59 hi hz0 hz1 hz2 rfl rfl (World.ownsRow.alloc hpo _) rfl (one_bys wr 5 _ (byt8 (numK n 1) 0) ?cv) (by omega) (by simp; omega) ?_)
        case cv => rw [HA.out]; have := HF.out; omega
        intro v2 w2 ho2 hg2
        go_wp2
        have R := Lib.hid (hp.next (by omega) (by simpa using ho2) hg2)
        go_roundw
        case rel => exact ⟨1, by omega, rfl, R.out⟩
        case measure => simp [intOf]
      · omega
    · obtain rfl : j = 1 := by omega
      go_wp2
      go_ret
      refine ⟨_, rfl, ?_, hp.2⟩
      rw [HB.out]
      have h := hp.1
      rw [List.take_of_length_le (by rw [numK_length]; exact Nat.le_refl _)] at h
      exact h

set_option maxRecDepth 100000 in
set_option maxHeartbeats 3200000 in
theorem rput_2 {w : World} {a : Option Addr} {m cap : Nat} {l : List UInt8} (hb : Bys w a m cap l) (hn : m ≤ 1000000) (n : Int) (h0 : 0 ≤ n) (h1 : n ≤ 4611686018427387903) (hs : sizeS n = 2) (hlow : n.toNat / 256 ^ (2 - 1) < 64) :
    Calls Tryd.prog 87 #[.slice a m cap, .int .i64 n] w (BytesPost (l ++ numB n) w) := by
  obtain ⟨i0, hi, hz0, hz1, hz2⟩ := info_parts Tryd.info5
  have hln : l.length = m := hb.len
  have HLN := Lib.hid hln
  have HB := Lib.hid (numB_some (k := 2) hs)
  have HS := Lib.hid hs
  have HL := Lib.hid hlow
  have hba := hb.below ((Below.refl w.heap.size w).alloc (Nat.le_refl _) (.cells #[] 5))
  have hoe := OwnB.empty w w.heap.size 5 (Nat.le_refl _)
  clear hs hlow hln
  go_enter Tryd.func87, Tryd.ntmps87
  go_wp2_with (first
    | (go_at_call 105; refine (rsize_c n (by omega) (by omega) _).mono ?_; rintro e w' ⟨rfl, rfl⟩; rw [HS.out])
    | (at_builtin; refine wpList_append_bys rfl (.tmp 9) (.tmp 10) 59 rfl Tryd.underlying59 hi hz0 hz1 hz2 rfl rfl hoe rfl hba (by simp; omega) (by simp) ?_; intro v1 w1 ho1 hg1))
  have b1 : Below w.heap.size w w1 := ((Below.refl w.heap.size w).alloc (Nat.le_refl _) (.cells #[] 5)).grown hg1 (by simp) (fun k hk => (hoe.lt k hk).1)
  rw [List.nil_append] at ho1
  clear hg1 hoe hba
  go_loopw [5, 7] (fun v i wr => ∃ j : Nat, j ≤ 2 ∧ i = .int .i64 (1 - (j : Int)) ∧ PutAt l n 2 j w v wr) (fun _ i _ => (intOf i + 1).toNat)
  case atStart => exact ⟨0, by omega, rfl, by simpa using ho1, b1⟩
  case round =>
    obtain ⟨j, hj, rfl, hp⟩ := hrel
    have hpo := hp.1
    have hps := hp.2.size
    have hlen : (l ++ (numK n 2).take j).length ≤ 1000008 := by have := HLN.out; simp [numK_length]; omega
    by_cases hlt : j < 2
    · by_cases hj0 : j = 0
      · subst hj0
        have HA := Lib.hid (and255 (n / 256) (by omega) (by omega))
        have HF := Lib.hid (show (n / 256) % 256 + 64 = ((byt8 (numK n 2) 0).toNat : Int) by
          have := first_val n 2 (by omega) h0 HL.out
          rw [show (2 : Int) ^ (8 * (2 - 1)) = 256 by decide, show ((markS 2 : Nat) : Int) = 64 by decide] at this
          first | exact this | (rw [Int.ediv_one] at this; exact this))
        have hf8 := (byt8 (numK n 2) 0).toNat_lt
        go_wp2_with (at_builtin; refine wpList_append_bys rfl (.tmp 43) (.tmp 45) 59 rfl Tryd.underlying59 hi hz0 hz1 hz2 rfl rfl (World.ownsRow.alloc hpo _) rfl (one_bys wr 5 _ (byt8 (numK n 2) 0) ?cv) (by omega) (by simp; omega) ?_)
        case cv => rw [HA.out]; have := HF.out; omega
        intro v2 w2 ho2 hg2
        go_wp2
        have R := Lib.hid (hp.next (by omega) (by simpa using ho2) hg2)
        go_roundw
        case rel => exact ⟨1, by omega, rfl, R.out⟩
        case measure => simp [intOf]
      · have hbd := shr_bd n h0 h1 (8 * (1 - j))
        have HA := Lib.hid (and255 _ hbd.1 hbd.2)
        have HF := Lib.hid (rawAt_val n h0 (1 - j))
        have HN := Lib.hid (show byt8 (numK n 2) j = rawAt n (1 - j) from numK_next n 2 j (by omega) hlt)
        have hf8 := (rawAt n (1 - j)).toNat_lt
        have hb7 : ((1 : Int) - (j : Int) == 1) = false := by rw [beq_eq_false_iff_ne]; omega
        have hj7 : 0 ≤ (1 : Int) - (j : Int) ∧ (1 : Int) - (j : Int) ≤ 1 := by omega
        clear hbd
        go_wp2_with (at_builtin; refine wpList_append_bys rfl (.tmp 43) (.tmp 45) 59 rfl Tryd.underlying59 hi hz0 hz1 hz2 rfl rfl (World.ownsRow.alloc hpo _) rfl (one_bys wr 5 _ (byt8 (numK n 2) j) ?cv) (by omega) (by simp; omega) ?_)
        case cv => rw [HA.out, HN.out]; have := HF.out; omega
        intro v2 w2 ho2 hg2
        go_wp2
        have R := Lib.hid (hp.next hlt ho2 hg2)
        go_roundw
        case rel => exact ⟨j + 1, by omega, by congr 1; omega, R.out⟩
        case measure => simp [intOf]; omega
    · obtain rfl : j = 2 := by omega
      go_wp2
      go_ret
      refine ⟨_, rfl, ?_, hp.2⟩
      rw [HB.out]
      have h := hp.1
      rw [List.take_of_length_le (by rw [numK_length]; exact Nat.le_refl _)] at h
      exact h

set_option maxRecDepth 100000 in
set_option maxHeartbeats 3200000 in
theorem rput_4 {w : World} {a : Option Addr} {m cap : Nat} {l : List UInt8} (hb : Bys w a m cap l) (hn : m ≤ 1000000) (n : Int) (h0 : 0 ≤ n) (h1 : n ≤ 4611686018427387903) (hs : sizeS n = 4) (hlow : n.toNat / 256 ^ (4 - 1) < 64) :
    Calls Tryd.prog 87 #[.slice a m cap, .int .i64 n] w (BytesPost (l ++ numB n) w) := by
  obtain ⟨i0, hi, hz0, hz1, hz2⟩ := info_parts Tryd.info5
  have hln : l.length = m := hb.len
  have HLN := Lib.hid hln
  have HB := Lib.hid (numB_some (k := 4) hs)
  have HS := Lib.hid hs
  have HL := Lib.hid hlow
  have hba := hb.below ((Below.refl w.heap.size w).alloc (Nat.le_refl _) (.cells #[] 5))
  have hoe := OwnB.empty w w.heap.size 5 (Nat.le_refl _)
  clear hs hlow hln
  go_enter Tryd.func87, Tryd.ntmps87
  go_wp2_with (first
    | (go_at_call 105; refine (rsize_c n (by omega) (by omega) _).mono ?_; rintro e w' ⟨rfl, rfl⟩; rw [HS.out])
    | (at_builtin; refine wpList_append_bys rfl (.tmp 9) (.tmp 10) 59 rfl Tryd.underlying59 hi hz0 hz1 hz2 rfl rfl hoe rfl hba (by simp; omega) (by simp) ?_; intro v1 w1 ho1 hg1))
  have b1 : Below w.heap.size w w1 := ((Below.refl w.heap.size w).alloc (Nat.le_refl _) (.cells #[] 5)).grown hg1 (by simp) (fun k hk => (hoe.lt k hk).1)
  rw [List.nil_append] at ho1
  clear hg1 hoe hba
  go_loopw [5, 7] (fun v i wr => ∃ j : Nat, j ≤ 4 ∧ i = .int .i64 (3 - (j : Int)) ∧ PutAt l n 4 j w v wr) (fun _ i _ => (intOf i + 1).toNat)
  case atStart => exact ⟨0, by omega, rfl, by simpa using ho1, b1⟩
  case round =>
    obtain ⟨j, hj, rfl, hp⟩ := hrel
    have hpo := hp.1
    have hps := hp.2.size
    have hlen : (l ++ (numK n 4).take j).length ≤ 1000008 := by have := HLN.out; simp [numK_length]; omega
    by_cases hlt : j < 4
    · by_cases hj0 : j = 0
      · subst hj0
        have HA := Lib.hid (and255 (n / 16777216) (by omega) (by omega))
        have HF := Lib.hid (show (n / 16777216) % 256 + 128 = ((byt8 (numK n 4) 0).toNat : Int) by
          have := first_val n 4 (by omega) h0 HL.out
          rw [show (2 : Int) ^ (8 * (4 - 1)) = 16777216 by decide, show ((markS 4 : Nat) : Int) = 128 by decide] at this
          first | exact this | (rw [Int.ediv_one] at this; exact this))
        have hf8 := (byt8 (numK n 4) 0).toNat_lt
        go_wp2_with (at_builtin; refine wpList_append_bys rfl (.tmp 43) (.tmp 45) 59 rfl Tryd.underlying59 hi hz0 hz1 hz2 rfl rfl (World.ownsRow.alloc hpo _) rfl (one_bys wr 5 _ (byt8 (numK n 4) 0) ?cv) (by omega) (by simp; omega) ?_)
        case cv => rw [HA.out]; have := HF.out; omega
        intro v2 w2 ho2 hg2
        go_wp2
        have R := Lib.hid (hp.next (by omega) (by simpa using ho2) hg2)
        go_roundw
        case rel => exact ⟨1, by omega, rfl, R.out⟩
        case measure => simp [intOf]
      · have hbd := shr_bd n h0 h1 (8 * (3 - j))
        have HA := Lib.hid (and255 _ hbd.1 hbd.2)
        have HF := Lib.hid (rawAt_val n h0 (3 - j))
        have HN := Lib.hid (show byt8 (numK n 4) j = rawAt n (3 - j) from numK_next n 4 j (by omega) hlt)
        have hf8 := (rawAt n (3 - j)).toNat_lt
        have hb7 : ((3 : Int) - (j : Int) == 3) = false := by rw [beq_eq_false_iff_ne]; omega
        have hj7 : 0 ≤ (3 : Int) - (j : Int) ∧ (3 : Int) - (j : Int) ≤ 3 := by omega
        clear hbd
        go_wp2_with (at_builtin; refine wpList_append_bys rfl (.tmp 43) (.tmp 45) 59 rfl Tryd.underlying59 hi hz0 hz1 hz2 rfl rfl (World.ownsRow.alloc hpo _) rfl (one_bys wr 5 _ (byt8 (numK n 4) j) ?cv) (by omega) (by simp; omega) ?_)
        case cv => rw [HA.out, HN.out]; have := HF.out; omega
        intro v2 w2 ho2 hg2
        go_wp2
        have R := Lib.hid (hp.next hlt ho2 hg2)
        go_roundw
        case rel => exact ⟨j + 1, by omega, by congr 1; omega, R.out⟩
        case measure => simp [intOf]; omega
    · obtain rfl : j = 4 := by omega
      go_wp2
      go_ret
      refine ⟨_, rfl, ?_, hp.2⟩
      rw [HB.out]
      have h := hp.1
      rw [List.take_of_length_le (by rw [numK_length]; exact Nat.le_refl _)] at h
      exact h

set_option maxRecDepth 100000 in
set_option maxHeartbeats 3200000 in
theorem rput_8 {w : World} {a : Option Addr} {m cap : Nat} {l : List UInt8} (hb : Bys w a m cap l) (hn : m ≤ 1000000) (n : Int) (h0 : 0 ≤ n) (h1 : n ≤ 4611686018427387903) (hs : sizeS n = 8) (hlow : n.toNat / 256 ^ (8 - 1) < 64) :
    Calls Tryd.prog 87 #[.slice a m cap, .int .i64 n] w (BytesPost (l ++ numB n) w) := by
  obtain ⟨i0, hi, hz0, hz1, hz2⟩ := info_parts Tryd.info5
  have hln : l.length = m := hb.len
  have HLN := Lib.hid hln
  have HB := Lib.hid (numB_some (k := 8) hs)
  have HS := Lib.hid hs
  have HL := Lib.hid hlow
  have hba := hb.below ((Below.refl w.heap.size w).alloc (Nat.le_refl _) (.cells #[] 5))
  have hoe := OwnB.empty w w.heap.size 5 (Nat.le_refl _)
  clear hs hlow hln
  go_enter Tryd.func87, Tryd.ntmps87
  go_wp2_with (first
    | (go_at_call 105; refine (rsize_c n (by omega) (by omega) _).mono ?_; rintro e w' ⟨rfl, rfl⟩; rw [HS.out])
    | (at_builtin; refine wpList_append_bys rfl (.tmp 9) (.tmp 10) 59 rfl Tryd.underlying59 hi hz0 hz1 hz2 rfl rfl hoe rfl hba (by simp; omega) (by simp) ?_; intro v1 w1 ho1 hg1))
  have b1 : Below w.heap.size w w1 := ((Below.refl w.heap.size w).alloc (Nat.le_refl _) (.cells #[] 5)).grown hg1 (by simp) (fun k hk => (hoe.lt k hk).1)
  rw [List.nil_append] at ho1
  clear hg1 hoe hba
  go_loopw [5, 7] (fun v i wr => ∃ j : Nat, j ≤ 8 ∧ i = .int .i64 (7 - (j : Int)) ∧ PutAt l n 8 j w v wr) (fun _ i _ => (intOf i + 1).toNat)
  case atStart => exact ⟨0, by omega, rfl, by simpa using ho1, b1⟩
  case round =>
    obtain ⟨j, hj, rfl, hp⟩ := hrel
    have hpo := hp.1
    have hps := hp.2.size
    have hlen : (l ++ (numK n 8).take j).length ≤ 1000008 := by have := HLN.out; simp [numK_length]; omega
    by_cases hlt : j < 8
    · by_cases hj0 : j = 0
      · subst hj0
        have HA := Lib.hid (and255 (n / 72057594037927936) (by omega) (by omega))
        have HF := Lib.hid (show (n / 72057594037927936) % 256 + 192 = ((byt8 (numK n 8) 0).toNat : Int) by
          have := first_val n 8 (by omega) h0 HL.out
          rw [show (2 : Int) ^ (8 * (8 - 1)) = 72057594037927936 by decide, show ((markS 8 : Nat) : Int) = 192 by decide] at this
          first | exact this | (rw [Int.ediv_one] at this; exact this))
        have hf8 := (byt8 (numK n 8) 0).toNat_lt
        go_wp2_with (at_builtin; refine wpList_append_bys rfl (.tmp 43) (.tmp 45) 59 rfl Tryd.underlying59 hi hz0 hz1 hz2 rfl rfl (World.ownsRow.alloc hpo _) rfl (one_bys wr 5 _ (byt8 (numK n 8) 0) ?cv) (by omega) (by simp; omega) ?_)
        case cv => rw [HA.out]; have := HF.out; omega
        intro v2 w2 ho2 hg2
        go_wp2
        have R := Lib.hid (hp.next (by omega) (by simpa using ho2) hg2)
        go_roundw
        case rel => exact ⟨1, by omega, rfl, R.out⟩
        case measure => simp [intOf]
      · have hbd := shr_bd n h0 h1 (8 * (7 - j))
        have HA := Lib.hid (and255 _ hbd.1 hbd.2)
        have HF := Lib.hid (rawAt_val n h0 (7 - j))
        have HN := Lib.hid (show byt8 (numK n 8) j = rawAt n (7 - j) from numK_next n 8 j (by omega) hlt)
        have hf8 := (rawAt n (7 - j)).toNat_lt
        have hb7 : ((7 : Int) - (j : Int) == 7) = false := by rw [beq_eq_false_iff_ne]; omega
        have hj7 : 0 ≤ (7 : Int) - (j : Int) ∧ (7 : Int) - (j : Int) ≤ 7 := by omega
        clear hbd
        go_wp2_with (at_builtin; refine wpList_append_bys rfl (.tmp 43) (.tmp 45) 59 rfl Tryd.underlying59 hi hz0 hz1 hz2 rfl rfl (World.ownsRow.alloc hpo _) rfl (one_bys wr 5 _ (byt8 (numK n 8) j) ?cv) (by omega) (by simp; omega) ?_)
        case cv => rw [HA.out, HN.out]; have := HF.out; omega
        intro v2 w2 ho2 hg2
        go_wp2
        have R := Lib.hid (hp.next hlt ho2 hg2)
        go_roundw
        case rel => exact ⟨j + 1, by omega, by congr 1; omega, R.out⟩
        case measure => simp [intOf]; omega
    · obtain rfl : j = 8 := by omega
      go_wp2
      go_ret
      refine ⟨_, rfl, ?_, hp.2⟩
      rw [HB.out]
      have h := hp.1
      rw [List.take_of_length_le (by rw [numK_length]; exact Nat.le_refl _)] at h
      exact h

/-- The reference's Put, for every number. -/
theorem rput_some {w : World} {a : Option Addr} {m cap : Nat} {l : List UInt8} (hb : Bys w a m cap l) (hn : m ≤ 1000000) (n : Int) (h0 : 0 ≤ n) (h1 : n ≤ 4611686018427387903) :
    Calls Tryd.prog 87 #[.slice a m cap, .int .i64 n] w (BytesPost (l ++ numB n) w) := by
  obtain ⟨k, hs, hk, hlow⟩ := sizeS_cases h0 h1
  rcases hk with rfl | rfl | rfl | rfl
  · exact rput_1 hb hn n h0 h1 hs hlow
  · exact rput_2 hb hn n h0 h1 hs hlow
  · exact rput_4 hb hn n h0 h1 hs hlow
  · exact rput_8 hb hn n h0 h1 hs hlow

set_option maxHeartbeats 800000 in
theorem rput_none {w : World} {a : Option Addr} {m cap : Nat} {l : List UInt8} (hb : Bys w a m cap l) (hn : m ≤ 1000000) (n : Int) (h0 : -9223372036854775808 ≤ n) (h1 : n ≤ 9223372036854775807) (h : n < 0 ∨ 4611686018427387903 < n) :
    Calls Tryd.prog 87 #[.slice a m cap, .int .i64 n] w (BytesPost (l ++ numB n) w) := by
  obtain ⟨i0, hi, hz0, hz1, hz2⟩ := info_parts Tryd.info5
  have HS := Lib.hid (sizeS_neg h)
  have HB := Lib.hid (numB_none h)
  have hba := hb.below ((Below.refl w.heap.size w).alloc (Nat.le_refl _) (.cells #[] 5))
  have hoe := OwnB.empty w w.heap.size 5 (Nat.le_refl _)
  clear h
  go_enter Tryd.func87, Tryd.ntmps87
  go_wp2_with (first
    | (go_at_call 105; refine (rsize_c n h0 h1 _).mono ?_; rintro e w' ⟨rfl, rfl⟩; rw [HS.out])
    | (at_builtin; refine wpList_append_bys rfl (.tmp 9) (.tmp 10) 59 rfl Tryd.underlying59 hi hz0 hz1 hz2 rfl rfl hoe rfl hba (by simp; omega) (by simp) ?_; intro v1 w1 ho1 hg1))
  have b1 : Below w.heap.size w w1 := ((Below.refl w.heap.size w).alloc (Nat.le_refl _) (.cells #[] 5)).grown hg1 (by simp) (fun k hk => (hoe.lt k hk).1)
  rw [List.nil_append] at ho1
  clear hg1 hoe hba
  go_loop [5, 7] (fun v i => v = v1 ∧ i = .int .i64 (-1)) (fun _ _ => 0)
  case atStart => exact ⟨rfl, rfl⟩
  case round =>
    obtain ⟨rfl, rfl⟩ := hrel
    go_wp2
    go_ret
    exact ⟨_, rfl, by rw [HB.out, List.append_nil]; exact ho1, b1⟩

theorem put_c {w : World} {a : Option Addr} {m cap : Nat} {l : List UInt8} (hb : Bys w a m cap l) (hn : m ≤ 1000000) (n : Int) (h0 : -9223372036854775808 ≤ n) (h1 : n ≤ 9223372036854775807) (hT : TabW w) :
    Calls Tryd.prog 108 #[.slice a m cap, .int .i64 n] w (BytesPost (l ++ numB n) w) := by
  by_cases h : n < 0 ∨ 4611686018427387903 < n
  · exact put_none hb hn n h0 h1 h
  · exact put_some hb hn n (by omega) (by omega) hT
theorem rput_c {w : World} {a : Option Addr} {m cap : Nat} {l : List UInt8} (hb : Bys w a m cap l) (hn : m ≤ 1000000) (n : Int) (h0 : -9223372036854775808 ≤ n) (h1 : n ≤ 9223372036854775807) :
    Calls Tryd.prog 87 #[.slice a m cap, .int .i64 n] w (BytesPost (l ++ numB n) w) := by
  by_cases h : n < 0 ∨ 4611686018427387903 < n
  · exact rput_none hb hn n h0 h1 h
  · exact rput_some hb hn n (by omega) (by omega)
end Go.Proofs.YtkjpmdpljdgcjaaDoor
