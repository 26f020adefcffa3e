/-
  The reference's message: bytes with what comes behind them.
-/
import Derived.Test.YticcmhgahbnboaaDoorSI
import Derived.Test.YticcmhgahbnboaaDoorST
import Derived.Test.YticcmhgahbnboaaDoorSP
namespace Go.Proofs.YticcmhgahbnboaaDoor
open Go.RowKit Go
set_option linter.unusedVariables false

/-- The first k bytes of a length. -/
def lensK (N k : Nat) : List UInt8 := [nByte N 7, nByte N 6, nByte N 5, nByte N 4, nByte N 3, nByte N 2, nByte N 1, nByte N 0].take k
theorem byte_bys (W : World) (c : UInt8) : Bys (W.alloc (.cells #[.int .u8 (c.toNat : Int)] 5)) (some ⟨W.heap.size, 0, none⟩) 1 1 [c] := by
  have h : RowB (W.alloc (.cells #[.int .u8 (c.toNat : Int)] 5)) W.heap.size 5 [c] := heap_alloc_new W _
  exact h.bys (by show 1 ≤ _; decide)
theorem nil_le (n : Nat) : nilS n < 64 := by unfold nilS; omega
theorem nil_stop (n j : Nat) (h : j ≤ nilS n) : (n + 1 + j) % 64 = 56 ↔ j = nilS n := by unfold nilS at *; omega

set_option maxRecDepth 100000 in
set_option maxHeartbeats 3200000 in
theorem rmessage_c {w : World} {a : Option Addr} {n cap : Nat} {l : List UInt8} (hb : Bys w a n cap l) (hlim : n ≤ 1000000) : Calls Tryd.prog 42 #[.slice a n cap] w (fun e w' => ∃ v, e = .returned v ∧ OwnB w' w.heap.size 5 v (l ++ tailS n) ∧ Below w.heap.size w w') := by
  obtain ⟨i0, hi, hz0, hz1, hz2⟩ := info_parts Tryd.info5
  have hlen := hb.len
  have hal := (Below.refl w.heap.size w).alloc (Nat.le_refl _) (.cells #[] 5)
  have hoe := OwnB.empty w w.heap.size 5 (Nat.le_refl _)
  have hba := hb.below hal
  have hnil := nil_le n
  go_enter Tryd.func42, Tryd.ntmps42
  go_upto_region 2 with (first
    | (at_builtin; refine wpList_append_bys rfl (.tmp 6) (.tmp 7) 22 rfl Tryd.underlying22 hi hz0 hz1 hz2 rfl rfl hoe rfl hba (by simp; omega) (by simp) ?_; intro v2 w2 ho2 hg2; rw [List.nil_append] at ho2; have hs2 := hg2.size)
    | (at_builtin; refine wpList_append_bys rfl (.tmp 8) (.tmp 9) 22 rfl Tryd.underlying22 hi hz0 hz1 hz2 rfl rfl (World.ownsRow.alloc ho2 _) rfl (byte_bys w2 0x80) (by omega) (by simp at hs2 ⊢; omega) ?_; intro v3 w3 ho3 hg3))
  have hlow2 : Below w.heap.size w w2 := hal.grown hg2 (by simp) (fun k hk => (hoe.lt k hk).1)
  have hlow : Below w.heap.size w w3 := (hlow2.alloc hlow2.size _).grown hg3 (by have := hlow2.size; simp; omega) (fun k hk => (ho2.lt k hk).1)
  have ho4 : OwnB w3 w.heap.size 5 v3 (l ++ 0x80 :: List.replicate 0 0) := ho3
  clear hal hoe hba ho2 hg2 ho3 hg3 hlow2 hs2
  have HI0 := Lib.hid hi
  go_loopw [3] (fun v wr => ∃ j : Nat, j ≤ nilS n ∧ OwnB wr w.heap.size 5 v (l ++ 0x80 :: List.replicate j 0) ∧ Below w.heap.size w wr) (fun v _ => n + 1 + nilS n - slen v)
  case atStart => exact ⟨0, by omega, ho4, hlow⟩
  case round =>
    clear ho4 hlow
    obtain ⟨j, hj, ho, hB⟩ := hrel
    obtain ⟨av, cv, rfl, hbv⟩ := ho.bys
    have hm : (l ++ 0x80 :: List.replicate j 0).length = n + 1 + j := by simp; omega
    rw [hm] at ho hbv ⊢
    have hst := nil_stop n j hj
    by_cases hd : j = nilS n
    · subst hd
      have h56 : (n + 1 + nilS n) % 64 = 56 := hst.2 rfl
      obtain ⟨z, hz⟩ : ∃ z, nilS n = z := ⟨_, rfl⟩
      have HT := Lib.hid (show l ++ tailS n = (l ++ 0x80 :: List.replicate z 0) ++ lensK (8 * n) 8 by unfold tailS lensK; rw [hz]; simp)
      rw [hz] at ho hbv hm h56 hnil ⊢
      obtain ⟨P, hP⟩ : ∃ P, l ++ 0x80 :: List.replicate z 0 = P := ⟨_, rfl⟩
      rw [hP] at ho hbv hm HT
      obtain ⟨m, hmm⟩ : ∃ m, n + 1 + z = m := ⟨_, rfl⟩
      rw [hmm] at ho hbv hm h56 ⊢
      have hr : Int.tmod (m : Int) 64 = 56 := by rw [Int.tmod_eq_emod_of_nonneg (by omega)]; omega
      obtain ⟨N, hN⟩ : ∃ N, 8 * n = N := ⟨_, rfl⟩
      have hNi : 8 * (n : Int) = (N : Int) := by omega
      rw [hN] at HT
      have hNb : N ≤ 8000000 := by omega
      have hm2 : m ≤ 1000064 := by omega
      have ho5 : OwnB wr w.heap.size 5 (.slice av m cv) (P ++ lensK N 0) := by
        show OwnB wr w.heap.size 5 _ (P ++ []); rw [List.append_nil]; exact ho
      have HO := Lib.hid ho5
      have HB := Lib.hid hB
      have HM := Lib.hid hm
      clear ho hB hbv hP hst hj hz hmm hm hb hi ho5
      go_wp2
      clear hNi hNb hlim hN
      go_loopw [3, 5] (fun v i wx => ∃ k : Nat, k ≤ 8 ∧ i = .int .i64 (7 - (k : Int)) ∧ OwnB wx w.heap.size 5 v (P ++ lensK N k) ∧ Below w.heap.size w wx) (fun _ i _ => (intOf i + 1).toNat)
      case atStart => exact ⟨0, by omega, rfl, HO.out, HB.out⟩
      case round =>
        clear HO HB
        obtain ⟨k, hk, rfl, ho, hB⟩ := hrel
        have hB2 := hB.size
        have hlk : (P ++ lensK N k).length ≤ 1000100 := by
          rw [List.length_append, HM.out]; unfold lensK; simp; omega
        rcases (by omega : k = 0 ∨ k = 1 ∨ k = 2 ∨ k = 3 ∨ k = 4 ∨ k = 5 ∨ k = 6 ∨ k = 7 ∨ k = 8) with rfl | rfl | rfl | rfl | rfl | rfl | rfl | rfl | rfl
        · rw [show (7 : Int) - ((0 : Nat) : Int) = 7 from rfl]
          have HE := Lib.hid (show P ++ lensK N (0 + 1) = (P ++ lensK N 0) ++ [nByte N 7] by rw [List.append_assoc]; rfl)
          have HV := Lib.hid (show (N : Int) / 72057594037927936 % 256 = ((nByte N 7).toNat : Int) by
            rw [nByte_nat]
            show (N : Int) / 72057594037927936 % 256 = ((N / 72057594037927936 % 256 : Nat) : Int)
            omega)
          obtain ⟨p, hp⟩ : ∃ p, P ++ lensK N 0 = p := ⟨_, rfl⟩
          rw [hp] at ho hlk HE
          obtain ⟨c, hc⟩ : ∃ c, nByte N 7 = c := ⟨_, rfl⟩
          rw [hc] at HE HV
          have HO := Lib.hid ho
          have HB := Lib.hid hB
          clear ho hB hp hc
          have hal : Below wr.heap.size wr (wr.alloc (.cells #[.int .u8 (c.toNat : Int)] 5)) := (Below.refl _ wr).alloc (Nat.le_refl _) _
          have HO2 := Lib.hid (HO.out.kept hal)
          have HC := Lib.hid (byte_bys wr c)
          have HAL := Lib.hid hal
          have HZ := Lib.hid (show w.heap.size ≤ (wr.alloc (.cells #[.int .u8 (c.toNat : Int)] 5)).heap.size from Nat.le_trans HB.out.size hal.size)
          clear hal
          rw [← HV.out] at HO2 HC HAL HZ
          go_wp2_with (at_builtin; refine wpList_append_bys rfl (.tmp 25) (.tmp 32) 22 rfl Tryd.underlying22 HI0.out hz0 hz1 hz2 rfl rfl HO2.out rfl HC.out (by omega) HZ.out ?_; intro v6 w6 ho6 hg6)
          go_roundw
          case rel =>
            exact ⟨0 + 1, by decide, rfl, by rw [HE.out]; exact ho6, (HB.out.trans (HAL.out.mono HB.out.size)).grown hg6 HZ.out (fun q hq => (HO2.out.lt q hq).1)⟩
          case measure => simp [intOf]
        · rw [show (7 : Int) - ((1 : Nat) : Int) = 6 from rfl]
          have HE := Lib.hid (show P ++ lensK N (1 + 1) = (P ++ lensK N 1) ++ [nByte N 6] by rw [List.append_assoc]; rfl)
          have HV := Lib.hid (show (N : Int) / 281474976710656 % 256 = ((nByte N 6).toNat : Int) by
            rw [nByte_nat]
            show (N : Int) / 281474976710656 % 256 = ((N / 281474976710656 % 256 : Nat) : Int)
            omega)
          obtain ⟨p, hp⟩ : ∃ p, P ++ lensK N 1 = p := ⟨_, rfl⟩
          rw [hp] at ho hlk HE
          obtain ⟨c, hc⟩ : ∃ c, nByte N 6 = c := ⟨_, rfl⟩
          rw [hc] at HE HV
          have HO := Lib.hid ho
          have HB := Lib.hid hB
          clear ho hB hp hc
          have hal : Below wr.heap.size wr (wr.alloc (.cells #[.int .u8 (c.toNat : Int)] 5)) := (Below.refl _ wr).alloc (Nat.le_refl _) _
          have HO2 := Lib.hid (HO.out.kept hal)
          have HC := Lib.hid (byte_bys wr c)
          have HAL := Lib.hid hal
          have HZ := Lib.hid (show w.heap.size ≤ (wr.alloc (.cells #[.int .u8 (c.toNat : Int)] 5)).heap.size from Nat.le_trans HB.out.size hal.size)
          clear hal
          rw [← HV.out] at HO2 HC HAL HZ
          go_wp2_with (at_builtin; refine wpList_append_bys rfl (.tmp 25) (.tmp 32) 22 rfl Tryd.underlying22 HI0.out hz0 hz1 hz2 rfl rfl HO2.out rfl HC.out (by omega) HZ.out ?_; intro v6 w6 ho6 hg6)
          go_roundw
          case rel =>
            exact ⟨1 + 1, by decide, rfl, by rw [HE.out]; exact ho6, (HB.out.trans (HAL.out.mono HB.out.size)).grown hg6 HZ.out (fun q hq => (HO2.out.lt q hq).1)⟩
          case measure => simp [intOf]
        · rw [show (7 : Int) - ((2 : Nat) : Int) = 5 from rfl]
          have HE := Lib.hid (show P ++ lensK N (2 + 1) = (P ++ lensK N 2) ++ [nByte N 5] by rw [List.append_assoc]; rfl)
          have HV := Lib.hid (show (N : Int) / 1099511627776 % 256 = ((nByte N 5).toNat : Int) by
            rw [nByte_nat]
            show (N : Int) / 1099511627776 % 256 = ((N / 1099511627776 % 256 : Nat) : Int)
            omega)
          obtain ⟨p, hp⟩ : ∃ p, P ++ lensK N 2 = p := ⟨_, rfl⟩
          rw [hp] at ho hlk HE
          obtain ⟨c, hc⟩ : ∃ c, nByte N 5 = c := ⟨_, rfl⟩
          rw [hc] at HE HV
          have HO := Lib.hid ho
          have HB := Lib.hid hB
          clear ho hB hp hc
          have hal : Below wr.heap.size wr (wr.alloc (.cells #[.int .u8 (c.toNat : Int)] 5)) := (Below.refl _ wr).alloc (Nat.le_refl _) _
          have HO2 := Lib.hid (HO.out.kept hal)
          have HC := Lib.hid (byte_bys wr c)
          have HAL := Lib.hid hal
          have HZ := Lib.hid (show w.heap.size ≤ (wr.alloc (.cells #[.int .u8 (c.toNat : Int)] 5)).heap.size from Nat.le_trans HB.out.size hal.size)
          clear hal
          rw [← HV.out] at HO2 HC HAL HZ
          go_wp2_with (at_builtin; refine wpList_append_bys rfl (.tmp 25) (.tmp 32) 22 rfl Tryd.underlying22 HI0.out hz0 hz1 hz2 rfl rfl HO2.out rfl HC.out (by omega) HZ.out ?_; intro v6 w6 ho6 hg6)
          go_roundw
          case rel =>
            exact ⟨2 + 1, by decide, rfl, by rw [HE.out]; exact ho6, (HB.out.trans (HAL.out.mono HB.out.size)).grown hg6 HZ.out (fun q hq => (HO2.out.lt q hq).1)⟩
          case measure => simp [intOf]
        · rw [show (7 : Int) - ((3 : Nat) : Int) = 4 from rfl]
          have HE := Lib.hid (show P ++ lensK N (3 + 1) = (P ++ lensK N 3) ++ [nByte N 4] by rw [List.append_assoc]; rfl)
          have HV := Lib.hid (show (N : Int) / 4294967296 % 256 = ((nByte N 4).toNat : Int) by
            rw [nByte_nat]
            show (N : Int) / 4294967296 % 256 = ((N / 4294967296 % 256 : Nat) : Int)
            omega)
          obtain ⟨p, hp⟩ : ∃ p, P ++ lensK N 3 = p := ⟨_, rfl⟩
          rw [hp] at ho hlk HE
          obtain ⟨c, hc⟩ : ∃ c, nByte N 4 = c := ⟨_, rfl⟩
          rw [hc] at HE HV
          have HO := Lib.hid ho
          have HB := Lib.hid hB
          clear ho hB hp hc
          have hal : Below wr.heap.size wr (wr.alloc (.cells #[.int .u8 (c.toNat : Int)] 5)) := (Below.refl _ wr).alloc (Nat.le_refl _) _
          have HO2 := Lib.hid (HO.out.kept hal)
          have HC := Lib.hid (byte_bys wr c)
          have HAL := Lib.hid hal
          have HZ := Lib.hid (show w.heap.size ≤ (wr.alloc (.cells #[.int .u8 (c.toNat : Int)] 5)).heap.size from Nat.le_trans HB.out.size hal.size)
          clear hal
          rw [← HV.out] at HO2 HC HAL HZ
          go_wp2_with (at_builtin; refine wpList_append_bys rfl (.tmp 25) (.tmp 32) 22 rfl Tryd.underlying22 HI0.out hz0 hz1 hz2 rfl rfl HO2.out rfl HC.out (by omega) HZ.out ?_; intro v6 w6 ho6 hg6)
          go_roundw
          case rel =>
            exact ⟨3 + 1, by decide, rfl, by rw [HE.out]; exact ho6, (HB.out.trans (HAL.out.mono HB.out.size)).grown hg6 HZ.out (fun q hq => (HO2.out.lt q hq).1)⟩
          case measure => simp [intOf]
        · rw [show (7 : Int) - ((4 : Nat) : Int) = 3 from rfl]
          have HE := Lib.hid (show P ++ lensK N (4 + 1) = (P ++ lensK N 4) ++ [nByte N 3] by rw [List.append_assoc]; rfl)
          have HV := Lib.hid (show (N : Int) / 16777216 % 256 = ((nByte N 3).toNat : Int) by
            rw [nByte_nat]
            show (N : Int) / 16777216 % 256 = ((N / 16777216 % 256 : Nat) : Int)
            omega)
          obtain ⟨p, hp⟩ : ∃ p, P ++ lensK N 4 = p := ⟨_, rfl⟩
          rw [hp] at ho hlk HE
          obtain ⟨c, hc⟩ : ∃ c, nByte N 3 = c := ⟨_, rfl⟩
          rw [hc] at HE HV
          have HO := Lib.hid ho
          have HB := Lib.hid hB
          clear ho hB hp hc
          have hal : Below wr.heap.size wr (wr.alloc (.cells #[.int .u8 (c.toNat : Int)] 5)) := (Below.refl _ wr).alloc (Nat.le_refl _) _
          have HO2 := Lib.hid (HO.out.kept hal)
          have HC := Lib.hid (byte_bys wr c)
          have HAL := Lib.hid hal
          have HZ := Lib.hid (show w.heap.size ≤ (wr.alloc (.cells #[.int .u8 (c.toNat : Int)] 5)).heap.size from Nat.le_trans HB.out.size hal.size)
          clear hal
          rw [← HV.out] at HO2 HC HAL HZ
          go_wp2_with (at_builtin; refine wpList_append_bys rfl (.tmp 25) (.tmp 32) 22 rfl Tryd.underlying22 HI0.out hz0 hz1 hz2 rfl rfl HO2.out rfl HC.out (by omega) HZ.out ?_; intro v6 w6 ho6 hg6)
          go_roundw
          case rel =>
            exact ⟨4 + 1, by decide, rfl, by rw [HE.out]; exact ho6, (HB.out.trans (HAL.out.mono HB.out.size)).grown hg6 HZ.out (fun q hq => (HO2.out.lt q hq).1)⟩
          case measure => simp [intOf]
        · rw [show (7 : Int) - ((5 : Nat) : Int) = 2 from rfl]
          have HE := Lib.hid (show P ++ lensK N (5 + 1) = (P ++ lensK N 5) ++ [nByte N 2] by rw [List.append_assoc]; rfl)
          have HV := Lib.hid (show (N : Int) / 65536 % 256 = ((nByte N 2).toNat : Int) by
            rw [nByte_nat]
            show (N : Int) / 65536 % 256 = ((N / 65536 % 256 : Nat) : Int)
            omega)
          obtain ⟨p, hp⟩ : ∃ p, P ++ lensK N 5 = p := ⟨_, rfl⟩
          rw [hp] at ho hlk HE
          obtain ⟨c, hc⟩ : ∃ c, nByte N 2 = c := ⟨_, rfl⟩
          rw [hc] at HE HV
          have HO := Lib.hid ho
          have HB := Lib.hid hB
          clear ho hB hp hc
          have hal : Below wr.heap.size wr (wr.alloc (.cells #[.int .u8 (c.toNat : Int)] 5)) := (Below.refl _ wr).alloc (Nat.le_refl _) _
          have HO2 := Lib.hid (HO.out.kept hal)
          have HC := Lib.hid (byte_bys wr c)
          have HAL := Lib.hid hal
          have HZ := Lib.hid (show w.heap.size ≤ (wr.alloc (.cells #[.int .u8 (c.toNat : Int)] 5)).heap.size from Nat.le_trans HB.out.size hal.size)
          clear hal
          rw [← HV.out] at HO2 HC HAL HZ
          go_wp2_with (at_builtin; refine wpList_append_bys rfl (.tmp 25) (.tmp 32) 22 rfl Tryd.underlying22 HI0.out hz0 hz1 hz2 rfl rfl HO2.out rfl HC.out (by omega) HZ.out ?_; intro v6 w6 ho6 hg6)
          go_roundw
          case rel =>
            exact ⟨5 + 1, by decide, rfl, by rw [HE.out]; exact ho6, (HB.out.trans (HAL.out.mono HB.out.size)).grown hg6 HZ.out (fun q hq => (HO2.out.lt q hq).1)⟩
          case measure => simp [intOf]
        · rw [show (7 : Int) - ((6 : Nat) : Int) = 1 from rfl]
          have HE := Lib.hid (show P ++ lensK N (6 + 1) = (P ++ lensK N 6) ++ [nByte N 1] by rw [List.append_assoc]; rfl)
          have HV := Lib.hid (show (N : Int) / 256 % 256 = ((nByte N 1).toNat : Int) by
            rw [nByte_nat]
            show (N : Int) / 256 % 256 = ((N / 256 % 256 : Nat) : Int)
            omega)
          obtain ⟨p, hp⟩ : ∃ p, P ++ lensK N 6 = p := ⟨_, rfl⟩
          rw [hp] at ho hlk HE
          obtain ⟨c, hc⟩ : ∃ c, nByte N 1 = c := ⟨_, rfl⟩
          rw [hc] at HE HV
          have HO := Lib.hid ho
          have HB := Lib.hid hB
          clear ho hB hp hc
          have hal : Below wr.heap.size wr (wr.alloc (.cells #[.int .u8 (c.toNat : Int)] 5)) := (Below.refl _ wr).alloc (Nat.le_refl _) _
          have HO2 := Lib.hid (HO.out.kept hal)
          have HC := Lib.hid (byte_bys wr c)
          have HAL := Lib.hid hal
          have HZ := Lib.hid (show w.heap.size ≤ (wr.alloc (.cells #[.int .u8 (c.toNat : Int)] 5)).heap.size from Nat.le_trans HB.out.size hal.size)
          clear hal
          rw [← HV.out] at HO2 HC HAL HZ
          go_wp2_with (at_builtin; refine wpList_append_bys rfl (.tmp 25) (.tmp 32) 22 rfl Tryd.underlying22 HI0.out hz0 hz1 hz2 rfl rfl HO2.out rfl HC.out (by omega) HZ.out ?_; intro v6 w6 ho6 hg6)
          go_roundw
          case rel =>
            exact ⟨6 + 1, by decide, rfl, by rw [HE.out]; exact ho6, (HB.out.trans (HAL.out.mono HB.out.size)).grown hg6 HZ.out (fun q hq => (HO2.out.lt q hq).1)⟩
          case measure => simp [intOf]
        · rw [show (7 : Int) - ((7 : Nat) : Int) = 0 from rfl]
          have HE := Lib.hid (show P ++ lensK N (7 + 1) = (P ++ lensK N 7) ++ [nByte N 0] by rw [List.append_assoc]; rfl)
          have HV := Lib.hid (show (N : Int) % 256 = ((nByte N 0).toNat : Int) by
            rw [nByte_nat]
            show (N : Int) % 256 = ((N / 1 % 256 : Nat) : Int)
            omega)
          obtain ⟨p, hp⟩ : ∃ p, P ++ lensK N 7 = p := ⟨_, rfl⟩
          rw [hp] at ho hlk HE
          obtain ⟨c, hc⟩ : ∃ c, nByte N 0 = c := ⟨_, rfl⟩
          rw [hc] at HE HV
          have HO := Lib.hid ho
          have HB := Lib.hid hB
          clear ho hB hp hc
          have hal : Below wr.heap.size wr (wr.alloc (.cells #[.int .u8 (c.toNat : Int)] 5)) := (Below.refl _ wr).alloc (Nat.le_refl _) _
          have HO2 := Lib.hid (HO.out.kept hal)
          have HC := Lib.hid (byte_bys wr c)
          have HAL := Lib.hid hal
          have HZ := Lib.hid (show w.heap.size ≤ (wr.alloc (.cells #[.int .u8 (c.toNat : Int)] 5)).heap.size from Nat.le_trans HB.out.size hal.size)
          clear hal
          rw [← HV.out] at HO2 HC HAL HZ
          go_wp2_with (at_builtin; refine wpList_append_bys rfl (.tmp 25) (.tmp 32) 22 rfl Tryd.underlying22 HI0.out hz0 hz1 hz2 rfl rfl HO2.out rfl HC.out (by omega) HZ.out ?_; intro v6 w6 ho6 hg6)
          go_roundw
          case rel =>
            exact ⟨7 + 1, by decide, rfl, by rw [HE.out]; exact ho6, (HB.out.trans (HAL.out.mono HB.out.size)).grown hg6 HZ.out (fun q hq => (HO2.out.lt q hq).1)⟩
          case measure => simp [intOf]
        · rw [show (7 : Int) - ((8 : Nat) : Int) = -1 from rfl]
          rw [← HT.out] at ho
          have HO := Lib.hid ho
          have HB := Lib.hid hB
          clear ho hB hlk
          go_wp2
          go_ret
          exact ⟨_, rfl, HO.out, HB.out⟩
    · have hn56 : ¬ (n + 1 + j) % 64 = 56 := fun h => hd (hst.1 h)
      obtain ⟨m, hmm⟩ : ∃ m, n + 1 + j = m := ⟨_, rfl⟩
      have HE := Lib.hid (show l ++ 0x80 :: List.replicate (j + 1) 0 = (l ++ 0x80 :: List.replicate j 0) ++ [0] by rw [List.replicate_succ']; simp)
      obtain ⟨P, hP⟩ : ∃ P, l ++ 0x80 :: List.replicate j 0 = P := ⟨_, rfl⟩
      rw [hP] at ho hbv hm HE
      rw [hmm] at ho hbv hm hn56 ⊢
      obtain ⟨q, hq⟩ : ∃ q, m % 64 = q := ⟨_, rfl⟩
      have hr : Int.tmod (m : Int) 64 = (q : Int) := by rw [Int.tmod_eq_emod_of_nonneg (by omega)]; omega
      have hq56 : ¬ (q : Int) = 56 := by omega
      have hm2 : m ≤ 1000064 := by omega
      have hjn : j + 1 ≤ nilS n := by omega
      have HM := Lib.hid (show P.length ≤ 1000064 by omega)
      have HMM := Lib.hid (show m = n + 1 + j from hmm.symm)
      have HPL := Lib.hid hm
      have hal : Below wr.heap.size wr (wr.alloc (.cells #[.int .u8 ((0 : UInt8).toNat : Int)] 5)) := (Below.refl _ wr).alloc (Nat.le_refl _) _
      have HO2 := Lib.hid (ho.kept hal)
      have HB := Lib.hid hB
      have HC := Lib.hid (byte_bys wr 0)
      have HAL := Lib.hid hal
      have HZ := Lib.hid (show w.heap.size ≤ (wr.alloc (.cells #[.int .u8 ((0 : UInt8).toNat : Int)] 5)).heap.size from Nat.le_trans hB.size hal.size)
      rw [show ((0 : UInt8).toNat : Int) = 0 from rfl] at HO2 HC HAL HZ
      clear hal ho hB hbv hP hst hq hm hmm hn56
      go_wp2_with (at_builtin; refine wpList_append_bys rfl (.tmp 15) (.tmp 16) 22 rfl Tryd.underlying22 HI0.out hz0 hz1 hz2 rfl rfl HO2.out rfl HC.out (by have := HM.out; omega) HZ.out ?_; intro v6 w6 ho6 hg6)
      go_roundw
      case rel =>
        exact ⟨j + 1, hjn, by rw [HE.out]; exact ho6, (HB.out.trans (HAL.out.mono HB.out.size)).grown hg6 HZ.out (fun q hq => (HO2.out.lt q hq).1)⟩
      case measure =>
        obtain ⟨a6, c6, rfl, _⟩ := ho6.bys
        have h1 := HPL.out
        have h2 := HMM.out
        simp only [slen, List.length_append, List.length_cons, List.length_nil]
        omega
end Go.Proofs.YticcmhgahbnboaaDoor
