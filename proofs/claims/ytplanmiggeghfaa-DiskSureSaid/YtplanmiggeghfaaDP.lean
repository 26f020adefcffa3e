/-
  Disk: the program's laws: Texts, Light.
-/
import Derived.Test.YtplanmiggeghfaaDO
import Derived.Test.YtplanmiggeghfaaDN
import Derived.Shelf.Abstract
namespace Go.Proofs.Ytplanmiggeghfaa
open Go.RowKit Go Go.Sort Go.Maps Go.WideMaps
set_option linter.unusedVariables false
set_option maxRecDepth 20000

/-- A sum that is asked about up to 20000. -/
def satA (n k : Nat) : Nat := if n + k ≤ 20000 then n + k else 20001
theorem satA_le (n k : Nat) : satA n k ≤ 20001 := by unfold satA; split <;> omega
theorem satA_full {n : Nat} (h : 20000 < n) (k : Nat) : satA n k = 20001 := by unfold satA; rw [if_neg (by omega)]
theorem satA_fits {n k : Nat} (h : satA n k ≤ 20000) : satA n k = n + k ∧ n + k ≤ 20000 := by unfold satA at h ⊢; split <;> rename_i hh
                                                                                           <;> first
                                                                                             | exact ⟨rfl, hh⟩
                                                                                             | (rw [if_neg hh] at h; omega)
set_option maxHeartbeats 12000000 in
theorem radd20_c (n k : Nat) (hn : n ≤ 20001) (hk : k ≤ 9223372036854775807) (w : World) : Calls Try.prog 46 #[.int .i64 (n : Int), .int .i64 (k : Int), .int .i64 20000] w (fun e w' => e = .returned (.int .i64 ((satA n k : Nat) : Int)) ∧ w = w') := by
  obtain ⟨R, hR⟩ : ∃ R, satA n k = R := ⟨_, rfl⟩
  rw [hR]
  unfold satA at hR
  by_cases h1 : 20000 < n
  · have h1i : (20000 : Int) < (n : Int) := by omega
    obtain rfl : 20001 = R := by rw [← hR, if_neg (by omega)]
    clear hR
    go_enter Try.func46, Try.ntmps46
    go_wp2
    go_ret
    exact ⟨rfl, rfl⟩
  · have h1i : ¬ (20000 : Int) < (n : Int) := by omega
    by_cases h2 : 20000 < k
    · have h2i : (20000 : Int) < (k : Int) := by omega
      obtain rfl : 20001 = R := by rw [← hR, if_neg (by omega)]
      clear hR
      go_enter Try.func46, Try.ntmps46
      go_wp2
      go_ret
      exact ⟨rfl, rfl⟩
    · have h2i : ¬ (20000 : Int) < (k : Int) := by omega
      have hs1 : 20000 - (k : Int) ≤ 9223372036854775807 := by omega
      have hs2 : -9223372036854775808 ≤ 20000 - (k : Int) := by omega
      by_cases h3 : n + k ≤ 20000
      · have h3i : ¬ 20000 - (k : Int) < (n : Int) := by omega
        have HR := Lib.hid (show (n : Int) + (k : Int) = (R : Int) by rw [← hR, if_pos h3]; omega)
        have ha1 : (n : Int) + (k : Int) ≤ 9223372036854775807 := by omega
        clear hR
        go_enter Try.func46, Try.ntmps46
        go_wp2
        go_ret
        exact ⟨by rw [← HR.out]; go_num, rfl⟩
      · have h3i : 20000 - (k : Int) < (n : Int) := by omega
        obtain rfl : 20001 = R := by rw [← hR, if_neg (by omega)]
        clear hR
        go_enter Try.func46, Try.ntmps46
        go_wp2
        go_ret
        exact ⟨rfl, rfl⟩
/-- Texts that lie in memory. -/
def Tx (w : World) (v : Value) (L : List (List UInt8)) : Prop := ∃ a cap, v = .slice a L.length cap ∧ L.length ≤ cap ∧ cap ≤ 9223372036854775807 ∧ (cap = 0 ∨ ∃ b, a = some ⟨b, 0, none⟩ ∧ ∀ i, i < L.length → w.cell? ⟨b, i, none⟩ = some (.string (text (L.getD i []))))
theorem OwnT.tx {w : World} {B : Nat} {v : Value} {L : List (List UInt8)} (h : OwnT w B v L) : Tx w v L := by
  rcases h.2 with ⟨rfl, hz⟩ | ⟨g, cap, cur, rfl, hbase, hb, h1, h2, h3, h4⟩
  · exact ⟨none, 0, by rw [hz], by omega, by omega, .inl rfl⟩
  · refine ⟨_, cap, rfl, h1, by unfold maxLen at h2; omega, .inr ⟨g, rfl, fun i hi => ?_⟩⟩
    rw [cell_of_row w g i cur 9 (0, 0) hb]
    have h5 : (cur.toList.take (L.length * 1))[i]? = (L.map encStr)[i]? := by rw [h4]
    rw [Nat.mul_one, List.getElem?_take_of_lt hi] at h5
    rw [← Array.getElem?_toList, h5, List.getElem?_map, List.getElem?_eq_getElem hi, List.getD_eq_getElem?_getD, List.getElem?_eq_getElem hi]
    rfl
theorem Tx.below {w w' : World} {v : Value} {L : List (List UInt8)} (h : Tx w v L) (hb : Below w.heap.size w w') : Tx w' v L := by
  obtain ⟨a, cap, e, h1, h2, h3⟩ := h
  refine ⟨a, cap, e, h1, h2, h3.imp_right ?_⟩
  rintro ⟨b, rfl, hc⟩
  exact ⟨b, rfl, fun i hi => (hb.cell (World.block_lt_of_cell? w _ (hc i hi))).trans (hc i hi)⟩
theorem text_inj {a b : List UInt8} (h : text a = text b) : a = b := by
  unfold text at h; injection h with h; injection h
set_option maxRecDepth 100000 in
set_option maxHeartbeats 6400000 in
theorem rtexts_c {w : World} {u v : Value} {L M : List (List UInt8)} (hu : Tx w u L) (hv : Tx w v M) : Calls Try.prog 31 #[u, v] w (Tells (.bool (decide (L = M))) w) := by
  obtain ⟨a, ca, rfl, h1, h2, h3⟩ := hu
  obtain ⟨b, cb, rfl, g1, g2, g3⟩ := hv
  by_cases hl : L.length = M.length
  · obtain ⟨n, hn⟩ : ∃ n, L.length = n := ⟨_, rfl⟩
    rw [← hl] at g1 g3 ⊢
    have HN := Lib.hid hn
    have HM := Lib.hid (show M.length = n by omega)
    have HC := Lib.hid (And.intro h3 g3)
    rw [hn] at h1 g1 HC ⊢
    clear hl hn h3 g3
    go_enter Try.func31, Try.ntmps31
    go_wp2
    go_loopw [5] (fun j wr => ∃ i : Nat, i ≤ n ∧ j = .int .i64 (i : Int) ∧ L.take i = M.take i ∧ Below w.heap.size w wr) (fun j _ => n - (intOf j).toNat)
    case atStart => exact ⟨0, by omega, rfl, rfl, Below.refl _ _⟩
    case round =>
      obtain ⟨i, hi, rfl, ht, hb⟩ := hrel
      have HB := Lib.hid hb
      clear hb
      have HT := Lib.hid ht
      clear ht
      by_cases hlt : i < n
      · have hii : (i : Int) < (n : Int) := by omega
        obtain ⟨b1, rfl, q1⟩ : ∃ b1, a = some ⟨b1, 0, none⟩ ∧ ∀ i, i < n → w.cell? ⟨b1, i, none⟩ = some (.string (text (L.getD i []))) := by
          rcases HC.out.1 with h | h
          · omega
          · exact h
        obtain ⟨b2, rfl, q2⟩ : ∃ b2, b = some ⟨b2, 0, none⟩ ∧ ∀ i, i < n → w.cell? ⟨b2, i, none⟩ = some (.string (text (M.getD i []))) := by
          rcases HC.out.2 with h | h
          · omega
          · exact h
        have c1 := (HB.out.cell (World.block_lt_of_cell? w _ (q1 i hlt))).trans (q1 i hlt)
        have c2 := (HB.out.cell (World.block_lt_of_cell? w _ (q2 i hlt))).trans (q2 i hlt)
        have hic1 : (i : Int) < (ca : Int) := by omega
        have hic2 : (i : Int) < (cb : Int) := by omega
        have HS := Lib.hid (show L.take (i + 1) = L.take i ++ [L.getD i []] ∧ M.take (i + 1) = M.take i ++ [M.getD i []] from by
          have h8 := HN.out
          have h9 := HM.out
          constructor
          · rw [List.take_add_one, List.getElem?_eq_getElem (by omega), List.getD_eq_getElem?_getD, List.getElem?_eq_getElem (by omega)]; rfl
          · rw [List.take_add_one, List.getElem?_eq_getElem (by omega), List.getD_eq_getElem?_getD, List.getElem?_eq_getElem (by omega)]; rfl)
        obtain ⟨x, hx⟩ : ∃ z, L.getD i [] = z := ⟨_, rfl⟩
        obtain ⟨y, hy⟩ : ∃ z, M.getD i [] = z := ⟨_, rfl⟩
        rw [hx] at c1 HS
        rw [hy] at c2 HS
        have HX := Lib.hid (And.intro hx hy)
        clear q1 q2 hx hy
        by_cases he : x = y
        · subst he
          have HR := Lib.hid (show L.take (i + 1) = M.take (i + 1) by rw [HS.out.1, HS.out.2, HT.out])
          obtain ⟨tx, htx⟩ : ∃ s, text x = s := ⟨_, rfl⟩
          rw [htx] at c1 c2
          clear htx HS HT
          go_upto_region 6 with (fail)
          have k1 := cell_regrown c1
          have k2 := cell_regrown c2
          refine wp_region_quiet_below (by kernel_rfl) (by kernel_rfl) ?_
          repeat (go_big_quiet_step (fail))
          refine wpQuiet_nil ?_
          intro _ hw'
          obtain ⟨⟨dq5, osq5⟩, hw''⟩ := hw'
          subst hw''
          have HBQ := Lib.hid (below_regrown wr dq5 osq5)
          clear k1 k2 c1 c2
          go_wp2
          go_roundw
          case rel => exact ⟨i + 1, by omega, by go_num, HR.out, HB.out.trans (HBQ.out.mono HB.out.size)⟩
          case measure => simp [intOf]; omega
        · have hne : text x ≠ text y := fun h => he (text_inj h)
          have hnb : ((text x).toList == (text y).toList) = false := by
            rw [ByteArray.toList_eq, ByteArray.toList_eq, beq_eq_false_iff_ne]
            exact fun h => he (by simpa [text] using h)
          have HR := Lib.hid (show decide (L = M) = false by
            simp only [decide_eq_false_iff_not]
            rintro rfl
            exact he (HX.out.1.symm.trans HX.out.2))
          obtain ⟨tx, htx⟩ : ∃ s, text x = s := ⟨_, rfl⟩
          obtain ⟨ty, hty⟩ : ∃ s, text y = s := ⟨_, rfl⟩
          rw [htx] at c1 hnb
          rw [hty] at c2 hnb
          clear hne
          clear htx hty HS HT he
          go_upto_region 6 with (fail)
          have k1 := cell_regrown c1
          have k2 := cell_regrown c2
          refine wp_region_quiet_below (by kernel_rfl) (by kernel_rfl) ?_
          repeat (go_big_quiet_step (fail))
          refine wpQuiet_nil ?_
          intro _ hw'
          obtain ⟨⟨dq5, osq5⟩, hw''⟩ := hw'
          subst hw''
          have HBQ := Lib.hid (below_regrown wr dq5 osq5)
          clear k1 k2 c1 c2
          go_wp2
          go_ret
          exact ⟨by rw [HR.out]; try rfl, HB.out.trans (HBQ.out.mono HB.out.size)⟩
      · obtain rfl : i = n := by omega
        have HR := Lib.hid (show decide (L = M) = true by
          have h8 := HN.out
          have h9 := HM.out
          have h7 := HT.out
          rw [List.take_of_length_le (by omega), List.take_of_length_le (by omega)] at h7
          simpa using h7)
        go_wp2
        go_ret
        exact ⟨by rw [HR.out]; try rfl, HB.out⟩
  · have HR := Lib.hid (show decide (L = M) = false by
      simp only [decide_eq_false_iff_not]
      rintro rfl
      exact hl rfl)
    rw [HR.out]
    obtain ⟨n, hn⟩ : ∃ n, L.length = n := ⟨_, rfl⟩
    obtain ⟨k, hk⟩ : ∃ n, M.length = n := ⟨_, rfl⟩
    rw [hn, hk] at hl ⊢
    have hli : ¬ (n : Int) = (k : Int) := by omega
    clear hn hk h3 g3 h1 g1
    go_enter Try.func31, Try.ntmps31
    go_wp2
    go_ret
    exact ⟨rfl, Below.refl _ _⟩
end Go.Proofs.Ytplanmiggeghfaa
