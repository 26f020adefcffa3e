/-
  Disk: the program's Good, Make, Append, Sync, Cut, Drop, Fail.
-/
import Derived.Test.YtplanmiggeghfaaD7
import Derived.Lib.ConvBytes
namespace Go.Proofs.Ytplanmiggeghfaa
open Go.RowKit Go Go.Sort Go.Maps Go.WideMaps
set_option linter.unusedVariables false
set_option maxRecDepth 20000

theorem isletter_c (c : UInt8) (w : World) : Calls Try.prog 44 #[.int .u8 (c.toNat : Int)] w (fun e w' => e = .returned (.bool (97 ≤ c && c ≤ 122)) ∧ w = w') := by
  have hb : (97 ≤ c && c ≤ 122) = (decide ((97 : Int) ≤ (c.toNat : Int)) && decide ((c.toNat : Int) ≤ 122)) := by
    have h1 : (97 ≤ c) = (97 ≤ c.toNat) := by rw [UInt8.le_iff_toNat_le]; rfl
    have h2 : (c ≤ 122) = (c.toNat ≤ 122) := by rw [UInt8.le_iff_toNat_le]; rfl
    simp only [h1, h2]
    congr 1
    · simp
      omega
    · simp
      omega
  rw [hb]
  obtain ⟨n, hn⟩ : ∃ n : Nat, c.toNat = n := ⟨_, rfl⟩
  rw [hn]
  clear hb hn
  by_cases h1 : (97 : Int) ≤ (n : Int)
  · by_cases h2 : (n : Int) ≤ 122
    · rw [decide_eq_true h1, decide_eq_true h2]
      go_enter Try.func44, Try.ntmps44
      go_wp2
      go_ret
      exact ⟨rfl, rfl⟩
    · rw [decide_eq_true h1, decide_eq_false h2]
      go_enter Try.func44, Try.ntmps44
      go_wp2
      go_ret
      exact ⟨by first | rfl | (simp; done) | (simp; omega), rfl⟩
  · rw [decide_eq_false h1]
    go_enter Try.func44, Try.ntmps44
    go_wp2
    go_ret
    exact ⟨by first | rfl | (simp; done) | (simp; omega), rfl⟩
theorem isdigit_c (c : UInt8) (w : World) : Calls Try.prog 45 #[.int .u8 (c.toNat : Int)] w (fun e w' => e = .returned (.bool (48 ≤ c && c ≤ 57)) ∧ w = w') := by
  have hb : (48 ≤ c && c ≤ 57) = (decide ((48 : Int) ≤ (c.toNat : Int)) && decide ((c.toNat : Int) ≤ 57)) := by
    have h1 : (48 ≤ c) = (48 ≤ c.toNat) := by rw [UInt8.le_iff_toNat_le]; rfl
    have h2 : (c ≤ 57) = (c.toNat ≤ 57) := by rw [UInt8.le_iff_toNat_le]; rfl
    simp only [h1, h2]
    congr 1
    · simp
      omega
    · simp
      omega
  rw [hb]
  obtain ⟨n, hn⟩ : ∃ n : Nat, c.toNat = n := ⟨_, rfl⟩
  rw [hn]
  clear hb hn
  by_cases h1 : (48 : Int) ≤ (n : Int)
  · by_cases h2 : (n : Int) ≤ 57
    · rw [decide_eq_true h1, decide_eq_true h2]
      go_enter Try.func45, Try.ntmps45
      go_wp2
      go_ret
      exact ⟨rfl, rfl⟩
    · rw [decide_eq_true h1, decide_eq_false h2]
      go_enter Try.func45, Try.ntmps45
      go_wp2
      go_ret
      exact ⟨by first | rfl | (simp; done) | (simp; omega), rfl⟩
  · rw [decide_eq_false h1]
    go_enter Try.func45, Try.ntmps45
    go_wp2
    go_ret
    exact ⟨by first | rfl | (simp; done) | (simp; omega), rfl⟩

theorem text_listD (l : List UInt8) : (text l).toList = l := by unfold text; simp
theorem u8_byt (s : List UInt8) (j : Nat) : by8 s j = ((byt8 s j).toNat : Int) := rfl
set_option maxHeartbeats 3200000 in
theorem dgood_c (s : List UInt8) (hs : s.length ≤ 9223372036854775807) (w : World) : Calls Try.prog 13 #[.string (text s)] w (Tells (.bool (goodNm s)) w) := by
  have hsz : (text s).size = s.length := by simp [text, ByteArray.size]
  have hse : ((text s).toList == (⟨#[]⟩ : ByteArray).toList) = decide (s = []) := by
    have := text_listD s
    rw [this]
    have e0 : (⟨#[]⟩ : ByteArray).toList = [] := by simp
    rw [e0]
    cases s <;> simp
  have HV := Lib.hid (show goodNm s = (decide (1 ≤ s.length ∧ s.length ≤ 24) && s.all nmB) from rfl)
  by_cases h0 : s = []
  · subst h0
    rw [show goodNm [] = false from rfl]
    have hemp : (text ([] : List UInt8)).toList.isEmpty = true := by rw [text_listD]; rfl
    go_enter Try.func13, Try.ntmps13
    go_wp2
    go_ret
    exact ⟨by rfl, Below.refl _ _⟩
  · have hemp : (text s).toList.isEmpty = false := by
      rw [text_listD]
      cases s with
      | nil => exact absurd rfl h0
      | cons a r => rfl
    by_cases h1 : 24 < s.length
    · have hv : goodNm s = false := by rw [HV.out, decide_eq_false (by omega)]; rfl
      rw [hv]
      have h1i : (24 : Int) < ((text s).size : Int) := by rw [hsz]; omega
      have hse2 : decide (s = []) = false := by simp [h0]
      rw [hse2] at hse
      obtain ⟨t, ht⟩ : ∃ t, text s = t := ⟨_, rfl⟩
      rw [ht] at h1i hse hemp ⊢
      clear hv h0 h1 hs hse2 ht hsz
      go_enter Try.func13, Try.ntmps13
      go_wp2
      go_ret
      exact ⟨rfl, Below.refl _ _⟩
    · have hln : 1 ≤ s.length := by cases s with
        | nil => exact absurd rfl h0
        | cons a r => simp
      have hv : goodNm s = s.all nmB := by rw [HV.out, decide_eq_true (by omega)]; simp
      rw [hv]
      have h1i : ¬ (24 : Int) < ((text s).size : Int) := by rw [hsz]; omega
      have hse2 : decide (s = []) = false := by simp [h0]
      rw [hse2] at hse
      have hcv := Lib.run_convert_string_bytes (P := Try.prog) w 9 30 5 (text s) Try.underlying9 Try.underlying30 Try.underlying5
      have hcell : ∀ j, j < s.length → (Lib.bytesWorld w 5 (text s)).cell? ⟨w.heap.size, j, none⟩ = some (.int .u8 ((byt8 s j).toNat : Int)) := fun j hj => by
        have := Lib.bytesWorld_cell w 5 (text s) j (by rw [hsz]; exact hj)
        rw [this]; rfl
      have hbw : Below w.heap.size w (Lib.bytesWorld w 5 (text s)) := ⟨by unfold Lib.bytesWorld World.freeze; split <;> rfl, by unfold Lib.bytesWorld World.freeze; split <;> rfl, by unfold Lib.bytesWorld World.freeze; split <;> rfl, by rw [Lib.bytesWorld_size]; omega, fun k hk => Lib.bytesWorld_at_old w 5 _ k hk⟩
      rw [hsz] at hcv h1i
      have hgc := grownCap_ge w s.length 0 5
      obtain ⟨gc, hgc2⟩ : ∃ c, grownCap w s.length 0 5 = c := ⟨_, rfl⟩
      rw [hgc2] at hcv hgc
      obtain ⟨W1, hW1⟩ : ∃ W, Lib.bytesWorld w 5 (text s) = W := ⟨_, rfl⟩
      rw [hW1] at hcv hcell hbw
      have HC := Lib.hid hcell
      have HB := Lib.hid hbw
      obtain ⟨n, hn⟩ : ∃ n, s.length = n := ⟨_, rfl⟩
      have HNN := Lib.hid hn
      rw [hn] at hcv h1i hgc HC hsz
      have hsz2 : ((text s).size : Int) = (n : Int) := by rw [hsz]
      obtain ⟨t, ht⟩ : ∃ t, text s = t := ⟨_, rfl⟩
      rw [ht] at hse hemp hcv hsz2 ⊢
      clear hv h0 h1 hs hse2 ht hgc2 hW1 hbw hcell hln hn hsz
      go_enter Try.func13, Try.ntmps13
      go_upto_region 4 with (fail)
      go_loopw [15] (fun i wr => ∃ k : Nat, k ≤ n ∧ i = .int .i64 (k : Int) ∧ (s.take k).all nmB = true ∧ wr = W1) (fun i _ => n - (intOf i).toNat)
      case atStart => exact ⟨0, by omega, rfl, rfl, rfl⟩
      case round =>
        obtain ⟨k, hk, rfl, hall, rfl⟩ := hrel
        have HALL := Lib.hid hall
        clear hall
        by_cases hlt : k < n
        · have hki : (k : Int) < (n : Int) := by omega
          have hkc : (k : Int) < (gc : Int) := by omega
          have hc := HC.out k hlt
          have hstep : (s.take (k + 1)).all nmB = ((s.take k).all nmB && nmB (byt8 s k)) := by
            rw [take_snoc8 s k (by have := HNN.out; omega)]
            simp [byt8]
          have hkn : nmB (byt8 s k) = ((97 ≤ byt8 s k && byt8 s k ≤ 122) || (48 ≤ byt8 s k && byt8 s k ≤ 57)) := rfl
          obtain ⟨c, hcc⟩ : ∃ c, byt8 s k = c := ⟨_, rfl⟩
          rw [hcc] at hc hstep hkn
          have HL := Lib.hid (isletter_c c)
          have HDg := Lib.hid (isdigit_c c)
          have HST := Lib.hid hstep
          cases e1 : (97 ≤ c && c ≤ 122)
          · cases e2 : (48 ≤ c && c ≤ 57)
            · rw [e1] at HL
              rw [e2] at HDg
              have HR := Lib.hid (show s.all nmB = false from by
                have hb : nmB c = false := by rw [hkn, e1, e2]; rfl
                have hm : c ∈ s := by
                  have := HNN.out
                  rw [← hcc]
                  unfold byt8
                  rw [List.getD_eq_getElem?_getD, List.getElem?_eq_getElem (by omega)]
                  exact List.getElem_mem _
                rw [List.all_eq_false]
                exact ⟨c, hm, by simp [hb]⟩)
              clear hcc hstep hkn e1 e2
              go_wp2_with (first
                | (go_at_call 44; (with_reducible refine (HL.out _).mono ?_); rintro e9 w9 ⟨rfl, rfl⟩)
                | (go_at_call 45; (with_reducible refine (HDg.out _).mono ?_); rintro e9 w9 ⟨rfl, rfl⟩))
              go_ret
              exact ⟨by rw [HR.out]; rfl, HB.out⟩
            · rw [e1] at HL
              rw [e2] at HDg
              have HR := Lib.hid (show (s.take (k + 1)).all nmB = true from by rw [HST.out, HALL.out, hkn, e1, e2]; rfl)
              clear hcc hstep hkn e1 e2
              go_wp2_with (first
                | (go_at_call 44; (with_reducible refine (HL.out _).mono ?_); rintro e9 w9 ⟨rfl, rfl⟩)
                | (go_at_call 45; (with_reducible refine (HDg.out _).mono ?_); rintro e9 w9 ⟨rfl, rfl⟩))
              go_roundw
              case rel => exact ⟨k + 1, by omega, by go_num, HR.out, by first | rfl | trivial⟩
              case measure => simp [intOf]; omega
          · rw [e1] at HL
            have HR := Lib.hid (show (s.take (k + 1)).all nmB = true from by rw [HST.out, HALL.out, hkn, e1]; rfl)
            clear hcc hstep hkn e1
            go_wp2_with (go_at_call 44; (with_reducible refine (HL.out _).mono ?_); rintro e9 w9 ⟨rfl, rfl⟩)
            go_roundw
            case rel => exact ⟨k + 1, by omega, by go_num, HR.out, by first | rfl | trivial⟩
            case measure => simp [intOf]; omega
        · obtain rfl : k = n := by omega
          have HR := Lib.hid (show s.all nmB = true from by have h := HALL.out; rwa [List.take_of_length_le (by rw [HNN.out]; exact Nat.le_refl _)] at h)
          go_wp2
          go_ret
          exact ⟨by rw [HR.out]; rfl, HB.out⟩
end Go.Proofs.Ytplanmiggeghfaa
