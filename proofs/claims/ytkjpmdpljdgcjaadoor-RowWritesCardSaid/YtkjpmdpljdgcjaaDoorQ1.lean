/-
  Policy: the reference's Name and Good.
-/
import Derived.Test.YtkjpmdpljdgcjaaDoorQ0
namespace Go.Proofs.YtkjpmdpljdgcjaaDoor
open Go.RowKit Go Go.Sort
set_option linter.unusedVariables false
set_option maxRecDepth 20000

theorem index_str (l : List UInt8) (k : Nat) (h : k < l.length) (W : World) : (Instr.index 9 (.string (text l)) (.int .i64 (k : Int))).run Tryd.prog W = .ok (.int .u8 (by8 l k)) W := by
  have hs : (text l).size = l.length := by show l.toArray.size = _; simp
  rw [run_index_string W 9 (text l) .i64 k Tryd.underlying9, dif_pos ⟨by omega, by rw [hs]; omega⟩]
  have e : ((k : Int)).toNat = k := by omega
  simp only [e]
  have hg : (text l)[k]'(by rw [hs]; exact h) = l[k] := rfl
  rw [hg, by8, List.getD_eq_getElem?_getD, List.getElem?_eq_getElem h]
  rfl
theorem text_list (l : List UInt8) : (text l).toList = l := by unfold text; simp
theorem text_len (l : List UInt8) : (text l).size = l.length := by show l.toArray.size = _; simp
theorem text_same (l m : List UInt8) : ((text l).toList == (text m).toList) = decide (l = m) := by
  rw [text_list, text_list, Bool.eq_iff_iff]; simp

def lowB (c : UInt8) : Bool := decide (97 ≤ c.toNat ∧ c.toNat ≤ 122)
theorem name_all (s : List UInt8) (k : Nat) (h : k < s.length) (hall : (s.take k).all lowB = true) :
    (97 ≤ by8 s k ∧ by8 s k ≤ 122 ∧ (s.take (k + 1)).all lowB = true) ∨ ((by8 s k < 97 ∨ 122 < by8 s k) ∧ s.all lowB = false) := by
  have hb : by8 s k = ((s[k]).toNat : Int) := by unfold by8; rw [List.getD_eq_getElem?_getD, List.getElem?_eq_getElem h]; rfl
  by_cases hd : 97 ≤ (s[k]).toNat ∧ (s[k]).toNat ≤ 122
  · left
    refine ⟨by omega, by omega, ?_⟩
    rw [List.take_succ_eq_append_getElem h, List.all_append, hall]
    simp [lowB, hd]
  · right
    refine ⟨by omega, ?_⟩
    rw [Bool.eq_false_iff]
    intro ha
    rw [List.all_eq_true] at ha
    have := ha s[k] (List.getElem_mem h)
    simp [lowB] at this
    omega
theorem nameS_low (s : List UInt8) : nameS s = (s.all lowB && decide (1 ≤ s.length ∧ s.length ≤ 12)) := rfl

attribute [-go_sem] run_index_string
set_option maxHeartbeats 1600000 in
theorem rname_c (s : List UInt8) (hmax : s.length ≤ 9223372036854775807) (w : World) : Calls Tryd.prog 61 #[.string (text s)] w (fun e w' => e = .returned (.bool (nameS s)) ∧ w' = w) := by
  have hsz : ((text s).size : Int) = s.length := by rw [text_len]
  have HX := Lib.hid (fun k h => index_str s k h)
  have HN := Lib.hid (nameS_low s)
  obtain ⟨S, hS⟩ : ∃ S, text s = S := ⟨_, rfl⟩
  rw [hS] at hsz HX ⊢
  obtain ⟨L, hL⟩ : ∃ L, s.length = L := ⟨_, rfl⟩
  have HL := Lib.hid hL
  rw [hL] at hsz HN
  have hL2 : (L : Int) ≤ 9223372036854775807 := by omega
  clear hS hmax hL
  go_enter Tryd.func61, Tryd.ntmps61
  go_wp2
  go_loopw [3] (fun i wr => wr = w ∧ ∃ k : Nat, k ≤ L ∧ i = .int .i64 k ∧ (s.take k).all lowB = true) (fun i _ => L - (intOf i).toNat)
  case atStart => exact ⟨rfl, 0, by omega, rfl, rfl⟩
  case round =>
    obtain ⟨rfl, k, hk, rfl, hall⟩ := hrel
    by_cases hlt : k < L
    · have hki : (k : Int) < (L : Int) := by omega
      have hx := HX.out k (by rw [HL.out]; exact hlt)
      have hd := name_all s k (by rw [HL.out]; exact hlt) hall
      obtain ⟨c, hc⟩ : ∃ c, by8 s k = c := ⟨_, rfl⟩
      rw [hc] at hx hd
      rcases hd with ⟨h1, h2, h3⟩ | ⟨h1, h3⟩
      · have H3 := Lib.hid h3
        clear h3 hc hall
        go_wp2
        go_roundw
        case rel => exact ⟨trivial, k + 1, by omega, rfl, H3.out⟩
        case measure => simp [intOf]; omega
      · have H3 := Lib.hid h3
        clear h3 hc hall
        rcases h1 with h1 | h1
        · go_wp2
          go_ret
          exact ⟨by rw [HN.out, H3.out]; rfl, rfl⟩
        · have h1b : ¬ c < 97 := by omega
          go_wp2
          go_ret
          exact ⟨by rw [HN.out, H3.out]; rfl, rfl⟩
    · obtain rfl : k = L := by omega
      have ha : s.all lowB = true := by rw [List.take_of_length_le (by rw [HL.out]; omega)] at hall; exact hall
      have HA := Lib.hid ha
      clear ha hall
      by_cases hl1 : 1 ≤ k
      · have hi1 : (1 : Int) ≤ (k : Int) := by omega
        by_cases hl2 : k ≤ 12
        · have hi2 : (k : Int) ≤ 12 := by omega
          go_wp2
          go_ret
          exact ⟨by rw [HN.out, HA.out]; simp; omega, rfl⟩
        · have hi2 : ¬ (k : Int) ≤ 12 := by omega
          go_wp2
          go_ret
          exact ⟨by rw [HN.out, HA.out]; simp; omega, rfl⟩
      · have hi1 : ¬ (1 : Int) ≤ (k : Int) := by omega
        go_wp2
        go_ret
        exact ⟨by rw [HN.out, HA.out]; simp; omega, rfl⟩
end Go.Proofs.YtkjpmdpljdgcjaaDoor
