/-
  Disk: the reference: Good.
-/
import Derived.Test.YtplanmiggeghfaaDR3
import Derived.Shelf.Abstract
namespace Go.Proofs.Ytplanmiggeghfaa
open Go.RowKit Go Go.Sort Go.Maps Go.WideMaps
set_option linter.unusedVariables false
set_option maxRecDepth 20000

theorem text_at (s : List UInt8) (k : Nat) (hk : k < s.length) (W : World) : (Instr.index 9 (.string (text s)) (.int .i64 (k : Int))).run Try.prog W = .ok (.int .u8 ((s.getD k 0).toNat : Int)) W := by
  have hs : (text s).size = s.length := by unfold text; simp [ByteArray.size]
  rw [run_index_string (P := Try.prog) W 9 (text s) .i64 (k : Int) Try.underlying9, dif_pos (by rw [hs]; omega)]
  have e : (text s)[(k : Int).toNat]'(by rw [hs]; omega) = s.getD k 0 := by
    simp only [Int.toNat_natCast]
    rw [List.getD_eq_getElem?_getD, List.getElem?_eq_getElem hk]
    unfold text
    simp [ByteArray.getElem_eq_getElem_data]
  rw [e]
theorem takeB_snoc {l : List UInt8} {i : Nat} (hi : i < l.length) : l.take (i + 1) = l.take i ++ [l.getD i 0] := by
  rw [List.take_add_one, List.getElem?_eq_getElem hi, List.getD_eq_getElem?_getD, List.getElem?_eq_getElem hi]
  rfl
theorem nmB_nat (c : UInt8) : nmB c = ((decide (97 ≤ c.toNat) && decide (c.toNat ≤ 122)) || (decide (48 ≤ c.toNat) && decide (c.toNat ≤ 57))) := by
  unfold nmB
  simp only [UInt8.le_iff_toNat_le]
  rfl
set_option maxRecDepth 100000 in
set_option maxHeartbeats 6400000 in
theorem rgood_c (s : List UInt8) (hs : s.length ≤ 9223372036854775807) (w : World) : Calls Try.prog 14 #[.string (text s)] w (fun e w' => e = .returned (.bool (goodNm s)) ∧ w = w') := by
  obtain ⟨n, hn⟩ : ∃ n, s.length = n := ⟨_, rfl⟩
  have HN := Lib.hid hn
  have HAT := Lib.hid (fun k (hk : k < s.length) => text_at s k hk w)
  have hsz : ((text s).size : Int) = (n : Int) := by rw [text_sizeD, hn]
  obtain ⟨g, hg⟩ : ∃ b, goodNm s = b := ⟨_, rfl⟩
  have HG := Lib.hid hg
  rw [hg]
  obtain ⟨tx, htx⟩ : ∃ t, text s = t := ⟨_, rfl⟩
  rw [htx] at HAT hsz ⊢
  clear htx hg
  rw [hn] at hs
  clear hn
  go_enter Try.func14, Try.ntmps14
  go_wp2
  go_loopw [3] (fun j wr => ∃ i : Nat, i ≤ n ∧ j = .int .i64 (i : Int) ∧ (s.take i).all nmB = true ∧ w = wr) (fun j _ => n - (intOf j).toNat)
  case atStart => exact ⟨0, by omega, rfl, rfl, rfl⟩
  case round =>
    obtain ⟨i, hi, rfl, hall, rfl⟩ := hrel
    have HALL := Lib.hid hall
    clear hall
    by_cases hlt : i < n
    · have hii : (i : Int) < (n : Int) := by omega
      have c1 := HAT.out i (by rw [HN.out]; exact hlt)
      have HST := Lib.hid (show (s.take (i + 1)).all nmB = ((s.take i).all nmB && nmB (s.getD i 0)) by rw [takeB_snoc (by rw [HN.out]; exact hlt), List.all_append]; simp)
      have HBAD := Lib.hid (show nmB (s.getD i 0) = false → g = false from fun h => by
        rw [← HG.out]
        unfold goodNm
        have : s.all nmB = false := by
          rw [List.all_eq_false]
          refine ⟨s.getD i 0, ?_, by simpa using h⟩
          rw [List.getD_eq_getElem?_getD, List.getElem?_eq_getElem (by rw [HN.out]; exact hlt)]
          exact List.getElem_mem _
        rw [this, Bool.and_false])
      have HNB := Lib.hid (nmB_nat (s.getD i 0))
      obtain ⟨c, hc⟩ : ∃ z, (s.getD i 0).toNat = z := ⟨_, rfl⟩
      rw [hc] at c1 HNB
      clear hc
      have hcase : c < 48 ∨ (48 ≤ c ∧ c ≤ 57) ∨ (57 < c ∧ c < 97) ∨ (97 ≤ c ∧ c ≤ 122) ∨ 122 < c := by omega
      rcases hcase with h | h | h | h | h
      · have g1 : ¬ (97 : Int) ≤ (c : Int) := by omega
        have g2 : (c : Int) ≤ 122 := by omega
        have g3 : ¬ (48 : Int) ≤ (c : Int) := by omega
        have g4 : (c : Int) ≤ 57 := by omega
        have HC := Lib.hid (show nmB (s.getD i 0) = false by rw [HNB.out]; simp; omega)
        clear h
        go_wp2
        go_ret
        exact ⟨by rw [HBAD.out HC.out]; try rfl, by first | rfl | trivial⟩
      · have g1 : ¬ (97 : Int) ≤ (c : Int) := by omega
        have g2 : (c : Int) ≤ 122 := by omega
        have g3 : (48 : Int) ≤ (c : Int) := by omega
        have g4 : (c : Int) ≤ 57 := by omega
        have HC := Lib.hid (show nmB (s.getD i 0) = true by rw [HNB.out]; simp; omega)
        clear h
        go_wp2
        go_roundw
        case rel => exact ⟨i + 1, by omega, by go_num, by rw [HST.out, HALL.out, HC.out]; rfl, by first | rfl | trivial⟩
        case measure => simp [intOf]; omega
      · have g1 : ¬ (97 : Int) ≤ (c : Int) := by omega
        have g2 : (c : Int) ≤ 122 := by omega
        have g3 : (48 : Int) ≤ (c : Int) := by omega
        have g4 : ¬ (c : Int) ≤ 57 := by omega
        have HC := Lib.hid (show nmB (s.getD i 0) = false by rw [HNB.out]; simp; omega)
        clear h
        go_wp2
        go_ret
        exact ⟨by rw [HBAD.out HC.out]; try rfl, by first | rfl | trivial⟩
      · have g1 : (97 : Int) ≤ (c : Int) := by omega
        have g2 : (c : Int) ≤ 122 := by omega
        have g3 : (48 : Int) ≤ (c : Int) := by omega
        have g4 : ¬ (c : Int) ≤ 57 := by omega
        have HC := Lib.hid (show nmB (s.getD i 0) = true by rw [HNB.out]; simp; omega)
        clear h
        go_wp2
        go_roundw
        case rel => exact ⟨i + 1, by omega, by go_num, by rw [HST.out, HALL.out, HC.out]; rfl, by first | rfl | trivial⟩
        case measure => simp [intOf]; omega
      · have g1 : (97 : Int) ≤ (c : Int) := by omega
        have g2 : ¬ (c : Int) ≤ 122 := by omega
        have g3 : (48 : Int) ≤ (c : Int) := by omega
        have g4 : ¬ (c : Int) ≤ 57 := by omega
        have HC := Lib.hid (show nmB (s.getD i 0) = false by rw [HNB.out]; simp; omega)
        clear h
        go_wp2
        go_ret
        exact ⟨by rw [HBAD.out HC.out]; try rfl, by first | rfl | trivial⟩
    · obtain rfl : i = n := by omega
      have HE := Lib.hid (show g = decide (1 ≤ i ∧ i ≤ 24) from by
        rw [← HG.out]
        unfold goodNm
        have h := HALL.out
        rw [List.take_of_length_le (by rw [HN.out]; exact Nat.le_refl _)] at h
        rw [h, Bool.and_true, HN.out])
      by_cases h1 : 1 ≤ i
      · by_cases h2 : i ≤ 24
        · have g1 : (1 : Int) ≤ (i : Int) := by omega
          have g2 : (i : Int) ≤ 24 := by omega
          go_wp2
          go_ret
          exact ⟨by rw [HE.out, decide_eq_true ⟨h1, h2⟩]; try rfl, rfl⟩
        · have g1 : (1 : Int) ≤ (i : Int) := by omega
          have g2 : ¬ (i : Int) ≤ 24 := by omega
          go_wp2
          go_ret
          exact ⟨by rw [HE.out, decide_eq_false (fun h => h2 h.2)]; first | rfl | (simp; omega), rfl⟩
      · have g1 : ¬ (1 : Int) ≤ (i : Int) := by omega
        go_wp2
        go_ret
        exact ⟨by rw [HE.out, decide_eq_false (fun h => h1 h.1)]; first | rfl | (simp; omega), rfl⟩
end Go.Proofs.Ytplanmiggeghfaa
