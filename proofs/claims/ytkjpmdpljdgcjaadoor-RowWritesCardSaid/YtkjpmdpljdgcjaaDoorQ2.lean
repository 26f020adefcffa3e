/-
  Policy: the reference's Good.
-/
import Derived.Test.YtkjpmdpljdgcjaaDoorQ1
namespace Go.Proofs.YtkjpmdpljdgcjaaDoor
open Go.RowKit Go Go.Sort
set_option linter.unusedVariables false
set_option maxRecDepth 20000

theorem good_step (l : List Grp) (k : Nat) (h : k < l.length) (s : List UInt8) (p : Int) (hg : l.getD k ([], 0) = (s, p)) :
    goodFrom (l.take k) (l.drop k) = if ¬ (nameS s = true ∧ (p = 1 ∨ p = 2)) then 2 else if (l.take k).any (fun h => h.1 == s) then 70 else goodFrom (l.take (k + 1)) (l.drop (k + 1)) := by
  have e : l[k] = (s, p) := by rw [← hg, List.getD_eq_getElem?_getD, List.getElem?_eq_getElem h]; rfl
  rw [List.drop_eq_getElem_cons h, e, List.take_succ_eq_append_getElem h, e]
  rfl
theorem any_step (l : List Grp) (j : Nat) (h : j < l.length) (s : List UInt8) : (l.take (j + 1)).any (fun h => h.1 == s) = ((l.take j).any (fun h => h.1 == s) || ((l.getD j ([], 0)).1 == s)) := by
  rw [List.take_succ_eq_append_getElem h, List.any_append, List.getD_eq_getElem?_getD, List.getElem?_eq_getElem h]
  simp
theorem any_take (l : List Grp) (j k : Nat) (h : j < k) (hl : k ≤ l.length) (s : List UInt8) (he : (l.getD j ([], 0)).1 = s) : (l.take k).any (fun h => h.1 == s) = true := by
  have hj : j < l.length := by omega
  rw [List.any_eq_true]
  refine ⟨l[j], ?_, ?_⟩
  · rw [List.mem_take_iff_getElem]
    exact ⟨j, by omega, rfl⟩
  · rw [← he, List.getD_eq_getElem?_getD, List.getElem?_eq_getElem hj]; simp

set_option maxHeartbeats 3200000 in
theorem rpgood_c {w : World} {a : Option Addr} {n cap : Nat} {l : List Grp} (hl : Grs w a n cap l) (hs : ∀ g ∈ l, g.1.length ≤ 9223372036854775807) :
    Calls Tryd.prog 35 #[.slice a n cap] w (Tells (.int .i64 (pgoodS l)) w) := by
  have hln := hl.len
  have hle := hl.le
  have hmx := hl.max
  have HL := Lib.hid hl
  have HV := Lib.hid (show pgoodS l = if l.length = 0 then 2 else if 4 < l.length then 3 else goodFrom [] l from rfl)
  rw [hln] at HV
  clear hl
  by_cases h0 : n = 0
  · have hv : pgoodS l = 2 := by rw [HV.out, if_pos h0]
    rw [hv]
    subst h0
    clear hv HV
    go_enter Tryd.func35, Tryd.ntmps35
    go_wp2
    go_ret
    exact ⟨rfl, Below.refl _ _⟩
  · have e0 : ((n : Int) == 0) = false := by rw [beq_eq_false_iff_ne]; omega
    by_cases h4 : 4 < n
    · have hv : pgoodS l = 3 := by rw [HV.out, if_neg h0, if_pos h4]
      rw [hv]
      have h4i : (4 : Int) < (n : Int) := by omega
      clear hv HV h0
      go_enter Tryd.func35, Tryd.ntmps35
      go_wp2
      go_ret
      exact ⟨rfl, Below.refl _ _⟩
    · have h4i : ¬ (4 : Int) < (n : Int) := by omega
      have hv : pgoodS l = goodFrom (l.take 0) (l.drop 0) := by rw [HV.out, if_neg h0, if_neg h4]; rfl
      have HV2 := Lib.hid hv
      clear hv HV h0
      go_enter Tryd.func35, Tryd.ntmps35
      go_wp2
      go_loopw [3] (fun i wr => ∃ k : Nat, k ≤ n ∧ i = .int .i64 k ∧ pgoodS l = goodFrom (l.take k) (l.drop k) ∧ Below w.heap.size w wr) (fun i _ => n - (intOf i).toNat)
      case atStart => exact ⟨0, by omega, rfl, HV2.out, Below.refl _ _⟩
      case round =>
        clear HV2
        obtain ⟨k, hk, rfl, hv, hB⟩ := hrel
        by_cases hlt : k < n
        · have hki : (k : Int) < (n : Int) := by omega
          have hki2 : (k : Int) < (cap : Int) := by omega
          obtain ⟨b, off, rfl, hat⟩ := HL.out.at hlt
          obtain ⟨⟨s, p⟩, hg⟩ : ∃ g, l.getD k ([], 0) = g := ⟨_, rfl⟩
          have hstep := good_step l k (by omega) s p hg
          rw [hg] at hat
          have hsl : s.length ≤ 9223372036854775807 := by
            have : (s, p) ∈ l := by rw [← hg, List.getD_eq_getElem?_getD, List.getElem?_eq_getElem (by omega)]; exact List.getElem_mem _
            exact hs _ this
          have hN := rname_c s hsl
          obtain ⟨c0, c1⟩ := hat wr hB
          simp only at c0 c1
          have HAT := Lib.hid hat
          have HST := Lib.hid hstep
          have HV3 := Lib.hid hv
          have HB := Lib.hid hB
          clear hat hstep hv hB hsl
          cases hn : nameS s with
          | false =>
            rw [hn] at hN
            have HN := Lib.hid hN
            have hr : pgoodS l = 2 := by rw [HV3.out, HST.out, if_pos (by simp [hn])]
            have HR := Lib.hid hr
            clear hr hN hn
            go_wp2_with (go_at_call 61; (with_reducible refine (HN.out _).mono ?_); rintro e w1 ⟨rfl, rfl⟩)
            go_ret
            exact ⟨by rw [HR.out]; rfl, HB.out⟩
          | true =>
            rw [hn] at hN
            have HN := Lib.hid hN
            by_cases hp : p = 1 ∨ p = 2
            · have hstep2 : pgoodS l = if (l.take k).any (fun h => h.1 == s) then 70 else goodFrom (l.take (k + 1)) (l.drop (k + 1)) := by rw [HV3.out, HST.out, if_neg (by simp [hn, hp])]
              have HR := Lib.hid hstep2
              clear hstep2 hN hn HV3 HST
              rcases hp with rfl | rfl
              all_goals
                go_upto_region 11 with (go_at_call 61; (with_reducible refine (HN.out _).mono ?_); rintro e w1 ⟨rfl, rfl⟩)
                clear c0 c1
                go_loopw [4] (fun j wr2 => ∃ m : Nat, m ≤ k ∧ j = .int .i64 m ∧ (l.take m).any (fun h => h.1 == s) = false ∧ Below w.heap.size w wr2) (fun j _ => k - (intOf j).toNat)
                case atStart => exact ⟨0, by omega, rfl, rfl, HB.out⟩
                case round =>
                  obtain ⟨m, hm, rfl, ha, hB2⟩ := hrel
                  by_cases hmk : m < k
                  · have hmi : (m : Int) < (k : Int) := by omega
                    have hmi2 : (m : Int) < (cap : Int) := by omega
                    obtain ⟨b', off', hbo, hat2⟩ := HL.out.at (show m < n by omega)
                    obtain ⟨rfl, rfl⟩ : b = b' ∧ off = off' := by simpa using hbo
                    obtain ⟨⟨s', p'⟩, hg2⟩ : ∃ g, l.getD m ([], 0) = g := ⟨_, rfl⟩
                    rw [hg2] at hat2
                    obtain ⟨d0, d1⟩ := hat2 wr hB2
                    obtain ⟨c0, c1⟩ := HAT.out wr hB2
                    simp only at c0 c1 d0 d1
                    have hcmp := text_same s' s
                    have hst := any_step l m (by omega) s
                    rw [hg2, ha] at hst
                    have HB2 := Lib.hid hB2
                    by_cases he : s' = s
                    · have hr : (l.take k).any (fun h => h.1 == s) = true := any_take l m k hmk (by omega) s (by rw [hg2]; exact he)
                      have HR3 := Lib.hid (show pgoodS l = 70 by rw [HR.out, if_pos hr])
                      rw [decide_eq_true he] at hcmp
                      clear hat2 hr hst ha hB2 hg hg2 he hbo
                      go_wp2
                      go_quiet (fail)
                      go_wp2
                      go_ret
                      exact ⟨by rw [HR3.out]; rfl, HB2.out.trans (drewN_below (Below.refl _ _) _)⟩
                    · have hst2 : (l.take (m + 1)).any (fun h => h.1 == s) = false := by rw [hst]; simpa using he
                      have HS2 := Lib.hid hst2
                      rw [decide_eq_false he] at hcmp
                      clear hat2 hst hst2 ha hB2 hg hg2 he hbo
                      go_wp2
                      go_quiet (fail)
                      go_wp2
                      go_roundw
                      case rel => exact ⟨m + 1, by omega, rfl, HS2.out, HB2.out.trans (drewN_below (Below.refl _ _) _)⟩
                      case measure => simp [intOf]; omega
                  · obtain rfl : m = k := by omega
                    have hr : pgoodS l = goodFrom (l.take (m + 1)) (l.drop (m + 1)) := by rw [HR.out, if_neg (by rw [ha]; simp)]
                    have HR3 := Lib.hid hr
                    have HB2 := Lib.hid hB2
                    clear hr ha hB2 hg
                    go_wp2
                    go_roundw
                    case rel => exact ⟨m + 1, by omega, rfl, HR3.out, HB2.out⟩
                    case measure => simp [intOf]; omega
            · have hr : pgoodS l = 2 := by rw [HV3.out, HST.out, if_pos (by simp [hp])]
              have HR := Lib.hid hr
              have e1 : (p != 1) = true := by simp; omega
              have e2 : (p != 2) = true := by simp; omega
              clear hr hN hn hp
              go_wp2_with (go_at_call 61; (with_reducible refine (HN.out _).mono ?_); rintro e w1 ⟨rfl, rfl⟩)
              go_ret
              exact ⟨by rw [HR.out]; rfl, HB.out⟩
        · obtain rfl : k = n := by omega
          have hr : pgoodS l = 0 := by rw [hv, List.drop_of_length_le (by omega)]; rfl
          have HR := Lib.hid hr
          have HB := Lib.hid hB
          clear hr hv hB
          go_wp2
          go_ret
          exact ⟨by rw [HR.out]; rfl, HB.out⟩
end Go.Proofs.YtkjpmdpljdgcjaaDoor
