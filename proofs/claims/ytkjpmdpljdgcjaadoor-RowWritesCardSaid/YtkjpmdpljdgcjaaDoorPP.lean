/-
  num.Put: bytes with a number behind them, in new memory.
-/
import Derived.Test.YtkjpmdpljdgcjaaDoorPW
import Derived.Test.YtkjpmdpljdgcjaaDoorCo
import Derived.Deep.RegionWith
namespace Go.Proofs.YtkjpmdpljdgcjaaDoor
open Go.RowKit
set_option linter.unusedVariables false

theorem numB_none {n : Int} (h : n < 0 ∨ 4611686018427387903 < n) : numB n = [] := by unfold numB; rw [sizeS_neg h]; rfl
theorem numB_some {n : Int} {k : Nat} (h : sizeS n = (k : Int)) : numB n = numK n k := by unfold numB; rw [h]; rfl

set_option maxHeartbeats 1600000 in
theorem put_none {w : World} {a : Option Addr} {m cap : Nat} {l : List UInt8} (hb : Bys w a m cap l) (hn : m ≤ 1000000) (n : Int) (h0 : -9223372036854775808 ≤ n) (h1 : n ≤ 9223372036854775807) (h : n < 0 ∨ 4611686018427387903 < n) :
    Calls Tryd.prog 108 #[.slice a m cap, .int .i64 n] w (BytesPost (l ++ numB n) w) := by
  obtain ⟨i0, hi, hz0, hz1, hz2⟩ := info_parts Tryd.info5
  obtain rfl : l.length = m := hb.len
  have hs := sizeS_neg h
  have HB := Lib.hid (numB_none h)
  clear h
  have hsz : (Tryd.prog.info? 5).map (·.size) = some 1 := by rw [hi]; simp [hz1]
  go_enter Tryd.func108, Tryd.ntmps108
  go_wp2_with (first
    | (go_at_call 96; refine (size_c n h0 h1 _).mono ?_; rintro e w' ⟨rfl, rfl⟩; rw [hs])
    | (at_make; refine wpList_make_full _ rfl _ _ 59 rfl w.heap.size 5 i0 (.int .u8 0) 1 Tryd.underlying59 hi hz0 hz1 .i64 .i64 _ _ l.length rfl rfl ?c1 ?c2 ?c3 ?c4 ?c5 ?_))
  case c1 => simp
  case c2 => simp
  case c3 => rw [hz2]; omega
  case c4 => unfold maxLen; omega
  case c5 => exact Nat.le_refl _
  intro w1 hown hgr
  have hbel : Below w.heap.size w w1 := (Below.refl _ _).grown hgr (Nat.le_refl _) (fun k hk => by cases hk)
  have HH := Lib.hid (show w1.heap[w.heap.size]? = some (.cells (List.replicate l.length (Value.int .u8 0)).toArray 5 (0, 0)) from heap_of_made hown)
  have hcl : (u8v l).length = l.length := u8v_length l
  have HP := Lib.hid (show 0 < (u8v l).length → ∃ ad, a = some ad ∧ ∀ j v, (u8v l)[j]? = some v → w1.cell? (ad.add j) = some v from fun hp => (hb.below hbel).cells (by rw [hcl] at hp; exact hp))
  have HM := Lib.hid (show (u8v l).length = Nat.min l.length l.length by rw [hcl]; exact (Nat.min_self _).symm)
  have hfit : 0 + (u8v l).length ≤ (List.replicate l.length (Value.int .u8 0)).length := by rw [hcl]; simp
  clear hown hgr
  go_wp2_with (with_reducible refine wpList_copy_splice rfl (.tmp 17) (.tmp 18) 59 59 rfl 5 Tryd.underlying59 hsz (some ⟨w.heap.size, 0, none⟩) a l.length l.length l.length cap rfl rfl w.heap.size 0 (List.replicate l.length (Value.int .u8 0)) 5 HH.out (u8v l) HM.out (fun hp => ⟨rfl, HP.out hp⟩) hfit (u8v_one l) w.heap.size w hbel (Nat.le_refl _) ?_; intro w4 hg4 hb4)
  go_loop [22] (fun i => i = .int .i64 0) (fun _ => 0)
  case atStart => exact rfl
  case round =>
    subst hrel
    go_wp2
    go_ret
    have ho := own_copied (k := 0) (Nat.le_refl w.heap.size) (by omega) hg4.out
    refine ⟨_, rfl, ?_, hb4⟩
    rw [HB.out, List.append_nil]
    simpa [OwnB] using ho

set_option maxRecDepth 100000 in
set_option maxHeartbeats 3200000 in
theorem put_some {w : World} {a : Option Addr} {m cap : Nat} {l : List UInt8} (hb : Bys w a m cap l) (hn : m ≤ 1000000) (n : Int) (h0 : 0 ≤ n) (h1 : n ≤ 4611686018427387903) (hT : TabW w) :
    Calls Tryd.prog 108 #[.slice a m cap, .int .i64 n] w (BytesPost (l ++ numB n) w) := by
  obtain ⟨i0, hi, hz0, hz1, hz2⟩ := info_parts Tryd.info5
  obtain rfl : l.length = m := hb.len
  obtain ⟨k, hs, hk, hlow⟩ := sizeS_cases h0 h1
  have HB := Lib.hid (numB_some hs)
  have hsz : (Tryd.prog.info? 5).map (·.size) = some 1 := by rw [hi]; simp [hz1]
  have hk8 : 1 ≤ k ∧ k ≤ 8 := by omega
  have HS := Lib.hid hs
  have HK := Lib.hid hk
  have HL := Lib.hid hlow
  clear hs hk hlow
  have hkz : (0 : Int) < (k : Int) ∧ (k : Int) ≤ 8 := by omega
  have hle : (l.length : Int) ≤ (l.length : Int) + (k : Int) := by omega
  have hcq : ¬ l.length + k = l.length := by omega
  go_enter Tryd.func108, Tryd.ntmps108
  go_wp2_with (first
    | (go_at_call 96; refine (size_c n (by omega) (by omega) _).mono ?_; rintro e w' ⟨rfl, rfl⟩; rw [HS.out])
    | (at_make; refine wpList_make_full _ rfl _ _ 59 rfl w.heap.size 5 i0 (.int .u8 0) 1 Tryd.underlying59 hi hz0 hz1 .i64 .i64 _ _ (l.length + k) rfl rfl ?c1 ?c2 ?c3 ?c4 ?c5 ?_))
  case c1 => simp
  case c2 => simp
  case c3 => rw [hz2]; omega
  case c4 => unfold maxLen; omega
  case c5 => exact Nat.le_refl _
  intro w1 hown hgr
  have hbel : Below w.heap.size w w1 := (Below.refl _ _).grown hgr (Nat.le_refl _) (fun k hk => by cases hk)
  have HH := Lib.hid (show w1.heap[w.heap.size]? = some (.cells (List.replicate (l.length + k) (Value.int .u8 0)).toArray 5 (0, 0)) from heap_of_made hown)
  have hcl : (u8v l).length = l.length := u8v_length l
  have HP := Lib.hid (show 0 < (u8v l).length → ∃ ad, a = some ad ∧ ∀ j v, (u8v l)[j]? = some v → w1.cell? (ad.add j) = some v from fun hp => (hb.below hbel).cells (by rw [hcl] at hp; exact hp))
  have HM := Lib.hid (show (u8v l).length = Nat.min l.length (l.length + k) by rw [hcl]; exact (Nat.min_eq_left (by omega)).symm)
  have hfit : 0 + (u8v l).length ≤ (List.replicate (l.length + k) (Value.int .u8 0)).length := by rw [hcl]; simp
  clear hown hgr
  go_wp2_with (with_reducible refine wpList_copy_splice rfl (.tmp 17) (.tmp 18) 59 59 rfl 5 Tryd.underlying59 hsz (some ⟨w.heap.size, 0, none⟩) a (l.length + k) (l.length + k) l.length cap rfl rfl w.heap.size 0 (List.replicate (l.length + k) (Value.int .u8 0)) 5 HH.out (u8v l) HM.out (fun hp => ⟨rfl, HP.out hp⟩) hfit (u8v_one l) w.heap.size w hbel (Nat.le_refl _) ?_; intro w4 hg4 hb4)
  have ho := own_copied (Nat.le_refl w.heap.size) (by omega) hg4.out
  clear hg4 hfit hcl hbel
  go_loopw [22] (fun i wr => ∃ j : Nat, j ≤ k ∧ i = .int .i64 j ∧ wr.ownsRow w.heap.size 5 1 (.slice (some ⟨w.heap.size, 0, none⟩) (l.length + k) (l.length + k)) (l.length + k) (u8v (layN l n k j)) ∧ w4.grownBy wr (some w.heap.size)) (fun i _ => k - (intOf i).toNat)
  case atStart => exact ⟨0, by omega, rfl, by rw [layN_zero]; exact ho, World.grownBy.refl _ _⟩
  case round =>
    obtain ⟨j, hj, rfl, hown2, hgr⟩ := hrel
    by_cases hlt : j < k
    · have hcell := hown2.cellAt (l.length + (k - 1 - j)) (by omega)
      rw [u8v_get _ _ (by rw [layN_length _ _ _ _ hj]; omega)] at hcell
      have hfz := hown2.frozenAt (l.length + (k - 1 - j))
      have HV := Lib.hid (rawAt_val n h0 j)
      generalize by8 (layN l n k j) (l.length + (k - 1 - j)) = old at hcell
      have hst := hown2.stored (l.length + (k - 1 - j)) (.int .u8 ((rawAt n j).toNat : Int))
      rw [u8v_set, layN_succ l n k j hlt] at hst
      have HST := Lib.hid hst
      have hj8 : 0 ≤ (k : Int) - 1 - (j : Int) ∧ (k : Int) - 1 - (j : Int) < (k : Int) ∧ (j : Int) ≤ 7 ∧ 0 ≤ (j : Int) := by omega
      clear hst hown2
      go_wp2
      go_roundw
      case rel => exact ⟨j + 1, by omega, by go_num, by rw [HV.out]; exact HST.out.1, by rw [HV.out]; exact grown_trans hgr HST.out.2⟩
      case measure => simp [intOf]; omega
    · obtain rfl : j = k := by omega
      have hcell := hown2.cellAt l.length (by omega)
      rw [layN_all, u8v_get _ _ (by simp [rawB_length]; omega)] at hcell
      have e0 : by8 (l ++ rawB n j) l.length = ((rawAt n (j - 1)).toNat : Int) := by
        rw [by8_byt8]
        have := rawB_get n j 0 (by omega)
        rw [Nat.sub_zero] at this
        rw [← this]
        unfold byt8
        rw [List.getD_eq_getElem?_getD, List.getElem?_append_right (Nat.le_refl _), Nat.sub_self, List.getD_eq_getElem?_getD]
      rw [e0] at hcell
      have hfz := hown2.frozenAt l.length
      have HV := Lib.hid (mark_val n j HK.out HL.out)
      have hbr : Below w.heap.size w wr.drew := (hb4.trans ⟨hgr.os, hgr.tape, hgr.output, hgr.size, fun i hi => hgr.block i (by have := hb4.size; omega) (by simp; omega)⟩).drew
      have hTd := hT.below hbr
      have hst := (World.ownsRow.drew hown2).stored l.length (.int .u8 ((UInt8.ofNat (n.toNat / 256 ^ (j - 1) % 256 + markS j)).toNat : Int))
      rw [u8v_set, layN_all, numK_set l n j (by omega)] at hst
      have HST := Lib.hid hst
      have hx := (rawAt n (j - 1)).toNat_lt
      obtain ⟨cv, hcv⟩ : ∃ cv : Int, cv = ((rawAt n (j - 1)).toNat : Int) := ⟨_, rfl⟩
      rw [← hcv] at hcell HV
      have hcv8 : 0 ≤ cv ∧ cv ≤ 255 := by omega
      clear hst hown2 e0 hcv hx
      go_wp2
      go_region_with (go_at_call 117; refine (mark_c j HK.out ?_).mono ?_; exact hTd; rintro e w' ⟨rfl, rfl⟩)
      all_goals go_wp2
      all_goals go_ret
      all_goals refine ⟨_, rfl, ?_, (hbr.setCell (p := ⟨w.heap.size, l.length, none⟩) (Nat.le_refl _) _)⟩
      all_goals (rw [HV.out, HB.out]; unfold OwnB; rw [List.length_append, numK_length]; exact HST.out.1)
end Go.Proofs.YtkjpmdpljdgcjaaDoor
