/-
  Merged: Q1 Q2 JQ JB Rd BO CX YA YB YC YO E0 YL YM MA MB MD MH MI MJ ML ME MM MO MQ U9 E1 E6 E2 E3 MR E7.
-/
import Derived.Deep.QuietTactic
import Derived.StillTail
import Derived.Lib.QuietBelow
import Derived.Test.YtfkmfccdhmnllaaDoorRows
import Derived.WalkKit
import Derived.Lib.Hide
import Derived.BigQuiet
import Derived.BigRegion
import Derived.Deep.Cut
import Derived.Deep.MidRow
import Derived.Great.BuildSlice
import Derived.Outline
import Derived.OwnWalk
import Derived.Laws.Rows
import Derived.ChangeKeysEq
import Derived.Laws.StructEq
import Derived.WalkSpells
import Derived.WalkLawsBesides
import Derived.Laws.CopyOwn
import Derived.WalkSmall
import Derived.Lib.LaidTab
import Derived.Deep.RegionWith
import Derived.Lib.MinMax
import Derived.WideShapes
import Derived.ChangeSame
import Derived.OpenShut
import Derived.Deep.Slices
import Derived.Deep.AppendSrc
import Derived.Lib.AppendZerosOnto
import Derived.Lib.SliceRun
import Derived.Lib.Walk
import Derived.Lib.OthersKept
import Derived.Laws.RangeAny
import Derived.Maps.OwnOps
import Derived.Maps.Views
import Derived.ChangeSlices
import Derived.ChangeArms
import Derived.Deep.DeepAppendWide
import Derived.OrdersIn
import Derived.TacticsIn
import Derived.RangeFuncNested
import Derived.RangeFuncBound
import Derived.RangeFuncCalls
import Derived.RangeFuncLeaves
import Derived.Maps.AppendAt
import Derived.Shelf.Abstract
import Derived.OwnWalkIn
import Derived.TacticsInMore
import Derived.LoopNIn
import Derived.LoopIn
import Derived.Stop.LaidErr
import Derived.Test.YtfkmfccdhmnllaaDoorSB1

section
namespace Go.Proofs.YtfkmfccdhmnllaaDoor
open Go.RowKit Go Go.Sort
set_option linter.unusedVariables false
set_option maxRecDepth 20000

theorem index_str (l : List UInt8) (k : Nat) (h : k < l.length) (W : World) : (Instr.index 9 (.string (text l)) (.int .i64 (k : Int))).run Tryd.prog W = .ok (.int .u8 (by8 l k)) W := by
  have hs : (text l).size = l.length := by show l.toArray.size = _; simp
  rw [run_index_string W 9 (text l) .i64 k Tryd.underlying9, dif_pos ⟨by omega, by rw [hs]; omega⟩]
  have e : ((k : Int)).toNat = k := by omega
  simp only [e]
  have hg : (text l)[k]'(by rw [hs]; exact h) = l[k] := rfl
  rw [hg, by8, List.getD_eq_getElem?_getD, List.getElem?_eq_getElem h]
  rfl
theorem text_list (l : List UInt8) : (text l).toList = l := by unfold text; simp
theorem text_len (l : List UInt8) : (text l).size = l.length := by show l.toArray.size = _; simp
theorem text_same (l m : List UInt8) : ((text l).toList == (text m).toList) = decide (l = m) := by
  rw [text_list, text_list, Bool.eq_iff_iff]; simp

def lowB (c : UInt8) : Bool := decide (97 ≤ c.toNat ∧ c.toNat ≤ 122)
theorem name_all (s : List UInt8) (k : Nat) (h : k < s.length) (hall : (s.take k).all lowB = true) :
    (97 ≤ by8 s k ∧ by8 s k ≤ 122 ∧ (s.take (k + 1)).all lowB = true) ∨ ((by8 s k < 97 ∨ 122 < by8 s k) ∧ s.all lowB = false) := by
  have hb : by8 s k = ((s[k]).toNat : Int) := by unfold by8; rw [List.getD_eq_getElem?_getD, List.getElem?_eq_getElem h]; rfl
  by_cases hd : 97 ≤ (s[k]).toNat ∧ (s[k]).toNat ≤ 122
  · left
    refine ⟨by omega, by omega, ?_⟩
    rw [List.take_succ_eq_append_getElem h, List.all_append, hall]
    simp [lowB, hd]
  · right
    refine ⟨by omega, ?_⟩
    rw [Bool.eq_false_iff]
    intro ha
    rw [List.all_eq_true] at ha
    have := ha s[k] (List.getElem_mem h)
    simp [lowB] at this
    omega
theorem nameS_low (s : List UInt8) : nameS s = (s.all lowB && decide (1 ≤ s.length ∧ s.length ≤ 12)) := rfl

attribute [-go_sem] run_index_string
set_option maxHeartbeats 1600000 in
theorem rname_c (s : List UInt8) (hmax : s.length ≤ 9223372036854775807) (w : World) : Calls Tryd.prog 67 #[.string (text s)] w (fun e w' => e = .returned (.bool (nameS s)) ∧ w' = w) := by
  have hsz : ((text s).size : Int) = s.length := by rw [text_len]
  have HX := Lib.hid (fun k h => index_str s k h)
  have HN := Lib.hid (nameS_low s)
  obtain ⟨S, hS⟩ : ∃ S, text s = S := ⟨_, rfl⟩
  rw [hS] at hsz HX ⊢
  obtain ⟨L, hL⟩ : ∃ L, s.length = L := ⟨_, rfl⟩
  have HL := Lib.hid hL
  rw [hL] at hsz HN
  have hL2 : (L : Int) ≤ 9223372036854775807 := by omega
  clear hS hmax hL
  go_enter Tryd.func67, Tryd.ntmps67
  go_wp2
  go_loopw [3] (fun i wr => wr = w ∧ ∃ k : Nat, k ≤ L ∧ i = .int .i64 k ∧ (s.take k).all lowB = true) (fun i _ => L - (intOf i).toNat)
  case atStart => exact ⟨rfl, 0, by omega, rfl, rfl⟩
  case round =>
    obtain ⟨rfl, k, hk, rfl, hall⟩ := hrel
    by_cases hlt : k < L
    · have hki : (k : Int) < (L : Int) := by omega
      have hx := HX.out k (by rw [HL.out]; exact hlt)
      have hd := name_all s k (by rw [HL.out]; exact hlt) hall
      obtain ⟨c, hc⟩ : ∃ c, by8 s k = c := ⟨_, rfl⟩
      rw [hc] at hx hd
      rcases hd with ⟨h1, h2, h3⟩ | ⟨h1, h3⟩
      · have H3 := Lib.hid h3
        clear h3 hc hall
        go_wp2
        go_roundw
        case rel => exact ⟨trivial, k + 1, by omega, rfl, H3.out⟩
        case measure => simp [intOf]; omega
      · have H3 := Lib.hid h3
        clear h3 hc hall
        rcases h1 with h1 | h1
        · go_wp2
          go_ret
          exact ⟨by rw [HN.out, H3.out]; rfl, rfl⟩
        · have h1b : ¬ c < 97 := by omega
          go_wp2
          go_ret
          exact ⟨by rw [HN.out, H3.out]; rfl, rfl⟩
    · obtain rfl : k = L := by omega
      have ha : s.all lowB = true := by rw [List.take_of_length_le (by rw [HL.out]; omega)] at hall; exact hall
      have HA := Lib.hid ha
      clear ha hall
      by_cases hl1 : 1 ≤ k
      · have hi1 : (1 : Int) ≤ (k : Int) := by omega
        by_cases hl2 : k ≤ 12
        · have hi2 : (k : Int) ≤ 12 := by omega
          go_wp2
          go_ret
          exact ⟨by rw [HN.out, HA.out]; simp; omega, rfl⟩
        · have hi2 : ¬ (k : Int) ≤ 12 := by omega
          go_wp2
          go_ret
          exact ⟨by rw [HN.out, HA.out]; simp; omega, rfl⟩
      · have hi1 : ¬ (1 : Int) ≤ (k : Int) := by omega
        go_wp2
        go_ret
        exact ⟨by rw [HN.out, HA.out]; simp; omega, rfl⟩
end Go.Proofs.YtfkmfccdhmnllaaDoor
end

section
namespace Go.Proofs.YtfkmfccdhmnllaaDoor
open Go.RowKit Go Go.Sort
set_option linter.unusedVariables false
set_option maxRecDepth 20000

theorem good_step (l : List Grp) (k : Nat) (h : k < l.length) (s : List UInt8) (p : Int) (hg : l.getD k ([], 0) = (s, p)) :
    goodFrom (l.take k) (l.drop k) = if ¬ (nameS s = true ∧ (p = 1 ∨ p = 2)) then 2 else if (l.take k).any (fun h => h.1 == s) then 70 else goodFrom (l.take (k + 1)) (l.drop (k + 1)) := by
  have e : l[k] = (s, p) := by rw [← hg, List.getD_eq_getElem?_getD, List.getElem?_eq_getElem h]; rfl
  rw [List.drop_eq_getElem_cons h, e, List.take_succ_eq_append_getElem h, e]
  rfl
theorem any_step (l : List Grp) (j : Nat) (h : j < l.length) (s : List UInt8) : (l.take (j + 1)).any (fun h => h.1 == s) = ((l.take j).any (fun h => h.1 == s) || ((l.getD j ([], 0)).1 == s)) := by
  rw [List.take_succ_eq_append_getElem h, List.any_append, List.getD_eq_getElem?_getD, List.getElem?_eq_getElem h]
  simp
theorem any_take (l : List Grp) (j k : Nat) (h : j < k) (hl : k ≤ l.length) (s : List UInt8) (he : (l.getD j ([], 0)).1 = s) : (l.take k).any (fun h => h.1 == s) = true := by
  have hj : j < l.length := by omega
  rw [List.any_eq_true]
  refine ⟨l[j], ?_, ?_⟩
  · rw [List.mem_take_iff_getElem]
    exact ⟨j, by omega, rfl⟩
  · rw [← he, List.getD_eq_getElem?_getD, List.getElem?_eq_getElem hj]; simp

set_option maxHeartbeats 3200000 in
theorem rpgood_c {w : World} {a : Option Addr} {n cap : Nat} {l : List Grp} (hl : Grs w a n cap l) (hs : ∀ g ∈ l, g.1.length ≤ 9223372036854775807) :
    Calls Tryd.prog 36 #[.slice a n cap] w (Tells (.int .i64 (pgoodS l)) w) := by
  have hln := hl.len
  have hle := hl.le
  have hmx := hl.max
  have HL := Lib.hid hl
  have HV := Lib.hid (show pgoodS l = if l.length = 0 then 2 else if 4 < l.length then 3 else goodFrom [] l from rfl)
  rw [hln] at HV
  clear hl
  by_cases h0 : n = 0
  · have hv : pgoodS l = 2 := by rw [HV.out, if_pos h0]
    rw [hv]
    subst h0
    clear hv HV
    go_enter Tryd.func36, Tryd.ntmps36
    go_wp2
    go_ret
    exact ⟨rfl, Below.refl _ _⟩
  · have e0 : ((n : Int) == 0) = false := by rw [beq_eq_false_iff_ne]; omega
    by_cases h4 : 4 < n
    · have hv : pgoodS l = 3 := by rw [HV.out, if_neg h0, if_pos h4]
      rw [hv]
      have h4i : (4 : Int) < (n : Int) := by omega
      clear hv HV h0
      go_enter Tryd.func36, Tryd.ntmps36
      go_wp2
      go_ret
      exact ⟨rfl, Below.refl _ _⟩
    · have h4i : ¬ (4 : Int) < (n : Int) := by omega
      have hv : pgoodS l = goodFrom (l.take 0) (l.drop 0) := by rw [HV.out, if_neg h0, if_neg h4]; rfl
      have HV2 := Lib.hid hv
      clear hv HV h0
      go_enter Tryd.func36, Tryd.ntmps36
      go_wp2
      go_loopw [3] (fun i wr => ∃ k : Nat, k ≤ n ∧ i = .int .i64 k ∧ pgoodS l = goodFrom (l.take k) (l.drop k) ∧ Below w.heap.size w wr) (fun i _ => n - (intOf i).toNat)
      case atStart => exact ⟨0, by omega, rfl, HV2.out, Below.refl _ _⟩
      case round =>
        clear HV2
        obtain ⟨k, hk, rfl, hv, hB⟩ := hrel
        by_cases hlt : k < n
        · have hki : (k : Int) < (n : Int) := by omega
          have hki2 : (k : Int) < (cap : Int) := by omega
          obtain ⟨b, off, rfl, hat⟩ := HL.out.at hlt
          obtain ⟨⟨s, p⟩, hg⟩ : ∃ g, l.getD k ([], 0) = g := ⟨_, rfl⟩
          have hstep := good_step l k (by omega) s p hg
          rw [hg] at hat
          have hsl : s.length ≤ 9223372036854775807 := by
            have : (s, p) ∈ l := by rw [← hg, List.getD_eq_getElem?_getD, List.getElem?_eq_getElem (by omega)]; exact List.getElem_mem _
            exact hs _ this
          have hN := rname_c s hsl
          obtain ⟨c0, c1⟩ := hat wr hB
          simp only at c0 c1
          have HAT := Lib.hid hat
          have HST := Lib.hid hstep
          have HV3 := Lib.hid hv
          have HB := Lib.hid hB
          clear hat hstep hv hB hsl
          cases hn : nameS s with
          | false =>
            rw [hn] at hN
            have HN := Lib.hid hN
            have hr : pgoodS l = 2 := by rw [HV3.out, HST.out, if_pos (by simp [hn])]
            have HR := Lib.hid hr
            clear hr hN hn
            go_wp2_with (go_at_call 67; (with_reducible refine (HN.out _).mono ?_); rintro e w1 ⟨rfl, rfl⟩)
            go_ret
            exact ⟨by rw [HR.out]; rfl, HB.out⟩
          | true =>
            rw [hn] at hN
            have HN := Lib.hid hN
            by_cases hp : p = 1 ∨ p = 2
            · have hstep2 : pgoodS l = if (l.take k).any (fun h => h.1 == s) then 70 else goodFrom (l.take (k + 1)) (l.drop (k + 1)) := by rw [HV3.out, HST.out, if_neg (by simp [hn, hp])]
              have HR := Lib.hid hstep2
              clear hstep2 hN hn HV3 HST
              rcases hp with rfl | rfl
              all_goals
                go_upto_region 11 with (go_at_call 67; (with_reducible refine (HN.out _).mono ?_); rintro e w1 ⟨rfl, rfl⟩)
                clear c0 c1
                go_loopw [4] (fun j wr2 => ∃ m : Nat, m ≤ k ∧ j = .int .i64 m ∧ (l.take m).any (fun h => h.1 == s) = false ∧ Below w.heap.size w wr2) (fun j _ => k - (intOf j).toNat)
                case atStart => exact ⟨0, by omega, rfl, rfl, HB.out⟩
                case round =>
                  obtain ⟨m, hm, rfl, ha, hB2⟩ := hrel
                  by_cases hmk : m < k
                  · have hmi : (m : Int) < (k : Int) := by omega
                    have hmi2 : (m : Int) < (cap : Int) := by omega
                    obtain ⟨b', off', hbo, hat2⟩ := HL.out.at (show m < n by omega)
                    obtain ⟨rfl, rfl⟩ : b = b' ∧ off = off' := by simpa using hbo
                    obtain ⟨⟨s', p'⟩, hg2⟩ : ∃ g, l.getD m ([], 0) = g := ⟨_, rfl⟩
                    rw [hg2] at hat2
                    obtain ⟨d0, d1⟩ := hat2 wr hB2
                    obtain ⟨c0, c1⟩ := HAT.out wr hB2
                    simp only at c0 c1 d0 d1
                    have hcmp := text_same s' s
                    have hst := any_step l m (by omega) s
                    rw [hg2, ha] at hst
                    have HB2 := Lib.hid hB2
                    by_cases he : s' = s
                    · have hr : (l.take k).any (fun h => h.1 == s) = true := any_take l m k hmk (by omega) s (by rw [hg2]; exact he)
                      have HR3 := Lib.hid (show pgoodS l = 70 by rw [HR.out, if_pos hr])
                      rw [decide_eq_true he] at hcmp
                      clear hat2 hr hst ha hB2 hg hg2 he hbo
                      go_wp2
                      go_quiet (fail)
                      go_wp2
                      go_ret
                      exact ⟨by rw [HR3.out]; rfl, HB2.out.trans (drewN_below (Below.refl _ _) _)⟩
                    · have hst2 : (l.take (m + 1)).any (fun h => h.1 == s) = false := by rw [hst]; simpa using he
                      have HS2 := Lib.hid hst2
                      rw [decide_eq_false he] at hcmp
                      clear hat2 hst hst2 ha hB2 hg hg2 he hbo
                      go_wp2
                      go_quiet (fail)
                      go_wp2
                      go_roundw
                      case rel => exact ⟨m + 1, by omega, rfl, HS2.out, HB2.out.trans (drewN_below (Below.refl _ _) _)⟩
                      case measure => simp [intOf]; omega
                  · obtain rfl : m = k := by omega
                    have hr : pgoodS l = goodFrom (l.take (m + 1)) (l.drop (m + 1)) := by rw [HR.out, if_neg (by rw [ha]; simp)]
                    have HR3 := Lib.hid hr
                    have HB2 := Lib.hid hB2
                    clear hr ha hB2 hg
                    go_wp2
                    go_roundw
                    case rel => exact ⟨m + 1, by omega, rfl, HR3.out, HB2.out⟩
                    case measure => simp [intOf]; omega
            · have hr : pgoodS l = 2 := by rw [HV3.out, HST.out, if_pos (by simp [hp])]
              have HR := Lib.hid hr
              have e1 : (p != 1) = true := by simp; omega
              have e2 : (p != 2) = true := by simp; omega
              clear hr hN hn hp
              go_wp2_with (go_at_call 67; (with_reducible refine (HN.out _).mono ?_); rintro e w1 ⟨rfl, rfl⟩)
              go_ret
              exact ⟨by rw [HR.out]; rfl, HB.out⟩
        · obtain rfl : k = n := by omega
          have hr : pgoodS l = 0 := by rw [hv, List.drop_of_length_le (by omega)]; rfl
          have HR := Lib.hid hr
          have HB := Lib.hid hB
          clear hr hv hB
          go_wp2
          go_ret
          exact ⟨by rw [HR.out]; rfl, HB.out⟩
end Go.Proofs.YtfkmfccdhmnllaaDoor
end

section
namespace Go.Proofs.YtfkmfccdhmnllaaDoor
open Go.RowKit Go Go.Sort
set_option linter.unusedVariables false
set_option maxRecDepth 20000

def lowI (r : Int) : Bool := decide (97 ≤ r ∧ r ≤ 122)
theorem lowI_yes {r : Int} (h1 : 97 ≤ r) (h2 : r ≤ 122) : lowI r = true := decide_eq_true ⟨h1, h2⟩
theorem lowI_no {r : Int} (h : ¬ (97 ≤ r ∧ r ≤ 122)) : lowI r = false := decide_eq_false h
theorem isletter_c (r : Int) (w : World) : Calls Tryd.prog 99 #[.int .i32 r] w (fun e w' => e = .returned (.bool (lowI r)) ∧ w' = w) := by
  by_cases h1 : 97 ≤ r
  · by_cases h2 : r ≤ 122
    · have HR := Lib.hid (lowI_yes h1 h2)
      go_enter Tryd.func99, Tryd.ntmps99
      go_wp2
      go_ret
      exact ⟨by rw [HR.out]; rfl, rfl⟩
    · have HR := Lib.hid (lowI_no (r := r) (fun h => h2 h.2))
      go_enter Tryd.func99, Tryd.ntmps99
      go_wp2
      go_ret
      exact ⟨by rw [HR.out]; rfl, rfl⟩
  · have HR := Lib.hid (lowI_no (r := r) (fun h => h1 h.1))
    go_enter Tryd.func99, Tryd.ntmps99
    go_wp2
    go_ret
    exact ⟨by rw [HR.out]; rfl, rfl⟩
theorem text_get (s : List UInt8) (k : Nat) (h : k < s.length) (h2 : k < (text s).size) : (((text s)[k]'h2).toNat : Int) = by8 s k := by
  unfold by8
  rw [List.getD_eq_getElem?_getD, List.getElem?_eq_getElem h]
  rfl
/-- What an iterator over a text tells next: a sign below 128, or a rune that is none. -/
theorem next_sign (s : List UInt8) (pos : Nat) (h : pos < s.length) : (by8 s pos < 128 ∧ ∀ (W : World) (b : Nat), W.heap[b]? = some (.stringIter (text s) pos) → ∀ ty, (Instr.next (.pointer (some ⟨b, 0, none⟩)) true ty).run Tryd.prog W = .ok (.tuple #[.bool true, .int .i64 pos, .int .i32 (by8 s pos)]) (W.iterAt b (text s) (pos + 1))) ∨
    (128 ≤ by8 s pos ∧ ∃ r : Int, 128 ≤ r ∧ ∃ k : Nat, ∀ (W : World) (b : Nat), W.heap[b]? = some (.stringIter (text s) pos) → ∀ ty, (Instr.next (.pointer (some ⟨b, 0, none⟩)) true ty).run Tryd.prog W = .ok (.tuple #[.bool true, .int .i64 pos, .int .i32 r]) (W.iterAt b (text s) (pos + k))) := by
  have h2 : pos < (text s).size := by rw [text_len]; exact h
  have hg := text_get s pos h h2
  by_cases ha : ((text s)[pos]'h2).toNat < 128
  · left
    refine ⟨by omega, fun W b hb ty => ?_⟩
    rw [Lib.run_next_ascii_at W b (text s) pos ty hb h2 ha, hg]
  · right
    have hd := decode_high (text s) pos h2 (by omega)
    refine ⟨by omega, ((Utf8.decode (text s) pos).1 : Int), by omega, (Utf8.decode (text s) pos).2, fun W b hb ty => ?_⟩
    exact Lib.run_next_any_at W b (text s) pos ty hb h2
theorem next_end (s : List UInt8) (pos : Nat) (h : ¬ pos < s.length) (W : World) (b : Nat) (hb : W.heap[b]? = some (.stringIter (text s) pos)) : ∀ ty, (Instr.next (.pointer (some ⟨b, 0, none⟩)) true ty).run Tryd.prog W = .ok (.tuple #[.bool false]) W :=
  fun ty => Lib.run_next_end_at W b (text s) pos ty hb (by rw [text_len]; exact h)
set_option maxHeartbeats 1600000 in
theorem isname_c (s : List UInt8) (hmax : s.length ≤ 9223372036854775807) (w : World) : Calls Tryd.prog 63 #[.string (text s)] w (Tells (.bool (nameS s)) w) := by
  have hsz : ((text s).size : Int) = s.length := by rw [text_len]
  have HX := Lib.hid (fun k h => next_sign s k h)
  have HE := Lib.hid (fun k h => next_end s k h)
  have HN := Lib.hid (nameS_low s)
  have HA := Lib.hid (fun k h ha => name_all s k h ha)
  have hit0 := World.iter_heap w (text s) 0
  have hb0 : Below w.heap.size w (w.iter (text s) 0) := (Below.refl _ w).alloc (Nat.le_refl _) _
  obtain ⟨S, hS⟩ : ∃ S, text s = S := ⟨_, rfl⟩
  rw [hS] at hsz HX HE hit0 hb0 ⊢
  obtain ⟨L, hL⟩ : ∃ L, s.length = L := ⟨_, rfl⟩
  have HL := Lib.hid hL
  rw [hL] at hsz HN
  have hL2 : (L : Int) ≤ 9223372036854775807 := by omega
  have HI := Lib.hid hit0
  have HB := Lib.hid hb0
  clear hS hmax hL hit0 hb0
  by_cases hl1 : L < 1
  · have hi1 : (L : Int) < 1 := by omega
    go_enter Tryd.func63, Tryd.ntmps63
    go_wp2
    go_ret
    exact ⟨by rw [HN.out]; simp; omega, Below.refl _ _⟩
  · have hi1 : ¬ (L : Int) < 1 := by omega
    by_cases hl2 : 12 < L
    · have hi2 : (12 : Int) < (L : Int) := by omega
      go_enter Tryd.func63, Tryd.ntmps63
      go_wp2
      go_ret
      exact ⟨by rw [HN.out]; simp; omega, Below.refl _ _⟩
    · have hi2 : ¬ (12 : Int) < (L : Int) := by omega
      have HD := Lib.hid (decide_eq_true (show 1 ≤ L ∧ L ≤ 12 by omega))
      rw [HD.out, Bool.and_true] at HN
      clear HD hl1 hl2
      go_enter Tryd.func63, Tryd.ntmps63
      go_wp2
      go_loopg [] L (fun gf wr => ∃ pos : Nat, pos + gf = L ∧ wr.heap[w.heap.size]? = some (.stringIter S pos) ∧ (s.take pos).all lowB = true ∧ Below w.heap.size w wr)
      case atStart => exact ⟨0, by omega, HI.out, rfl, HB.out⟩
      case round =>
        obtain ⟨pos, hpg, hit, hall, hbw⟩ := hrel
        clear HI HB
        by_cases hlt : pos < L
        · obtain ⟨g', rfl⟩ : ∃ g', gk = g' + 1 := ⟨gk - 1, by omega⟩
          have hx := HX.out pos (by rw [HL.out]; exact hlt)
          have ha := HA.out pos (by rw [HL.out]; exact hlt) hall
          obtain ⟨c, hc⟩ : ∃ c, by8 s pos = c := ⟨_, rfl⟩
          rw [hc] at hx ha
          rcases hx with ⟨h1, h2⟩ | ⟨h1, r, hr, k, h2⟩
          · have hnx := h2 wr w.heap.size hit
            have hit2 := Lib.iterAt_heap wr w.heap.size S pos (pos + 1) hit
            have hbw2 := Lib.below_iterAt hbw (k := w.heap.size) (Nat.le_refl _) S (pos + 1)
            have HT2 := Lib.hid hit2
            have HB2 := Lib.hid hbw2
            have cL := isletter_c c
            rcases ha with ⟨h3, h4, h5⟩ | ⟨h3, h5⟩
            · rw [lowI_yes h3 h4] at cL
              have H5 := Lib.hid h5
              have HCL := Lib.hid cL
              clear h2 h5 hit2 hbw2 cL hall hc hit hbw hlt
              go_wp2_with (go_at_call 99; (with_reducible refine (HCL.out _).mono ?_); rintro e w1 ⟨rfl, rfl⟩)
              go_roundg g'
              case measure => omega
              case rel => exact ⟨pos + 1, by omega, HT2.out, H5.out, HB2.out⟩
            · rw [lowI_no (r := c) (by omega)] at cL
              have H5 := Lib.hid h5
              have HCL := Lib.hid cL
              clear h2 h5 hit2 hbw2 cL hall hc hit hbw hlt
              go_wp2_with (go_at_call 99; (with_reducible refine (HCL.out _).mono ?_); rintro e w1 ⟨rfl, rfl⟩)
              go_ret
              exact ⟨by rw [HN.out, H5.out]; rfl, HB2.out⟩
          · have hnx := h2 wr w.heap.size hit
            have hbw2 := Lib.below_iterAt hbw (k := w.heap.size) (Nat.le_refl _) S (pos + k)
            have HB2 := Lib.hid hbw2
            have cL := isletter_c r
            rw [lowI_no (r := r) (by omega)] at cL
            have H5 := Lib.hid (show s.all lowB = false by
              rcases ha with ⟨h3, h4, h5⟩ | ⟨h3, h5⟩
              · omega
              · exact h5)
            have HCL := Lib.hid cL
            clear h2 hbw2 cL hall hc hit hbw hlt ha h1
            go_wp2_with (go_at_call 99; (with_reducible refine (HCL.out _).mono ?_); rintro e w1 ⟨rfl, rfl⟩)
            go_ret
            exact ⟨by rw [HN.out, H5.out]; rfl, HB2.out⟩
        · have hnx := HE.out pos (by rw [HL.out]; exact hlt) wr w.heap.size hit
          have H5 := Lib.hid (show s.all lowB = true by rw [List.take_of_length_le (by rw [HL.out]; omega)] at hall; exact hall)
          have HB2 := Lib.hid hbw
          clear hall hit hbw hlt
          go_wp2
          go_ret
          exact ⟨by rw [HN.out, H5.out]; rfl, HB2.out⟩
/-- A policy's word; nothing for none. -/
def wordP (p : Int) : List UInt8 := if p = 1 then [108, 97, 115, 116] else if p = 2 then [100, 101, 108, 101, 116, 101] else []
theorem word_c (p : Int) (w : World) : Calls Tryd.prog 64 #[.int .i64 p] w (fun e w' => e = .returned (.string (text (wordP p))) ∧ w' = w) := by
  by_cases h1 : p = 1
  · subst h1
    go_enter Tryd.func64, Tryd.ntmps64
    go_wp2
    go_ret
    exact ⟨rfl, rfl⟩
  · by_cases h2 : p = 2
    · subst h2
      go_enter Tryd.func64, Tryd.ntmps64
      go_wp2
      go_ret
      exact ⟨rfl, rfl⟩
    · have HR := Lib.hid (show wordP p = [] by unfold wordP; rw [if_neg h1, if_neg h2])
      have k1 : (p == 1) = false := by simpa using h1
      have k2 : (p == 2) = false := by simpa using h2
      clear h1 h2
      go_enter Tryd.func64, Tryd.ntmps64
      go_wp2
      go_ret
      exact ⟨by rw [HR.out]; rfl, rfl⟩
theorem name_len {s : List UInt8} (h : nameS s = true) : 1 ≤ s.length ∧ s.length ≤ 12 := by
  rw [nameS_low] at h; simp at h; omega
end Go.Proofs.YtfkmfccdhmnllaaDoor
end

section
namespace Go.Proofs.YtfkmfccdhmnllaaDoor
open Go.RowKit Go Go.Sort Go.Maps Go.WideMaps
set_option linter.unusedVariables false
set_option maxRecDepth 20000

/-- A group that lies at a block's head. -/
def GrpAt (W : World) (g : Nat) (s : List UInt8) (p : Int) : Prop := W.heap[g]? = some (.cells #[.string (text s), .int .i64 p] 65 (0, 0))
theorem GrpAt.lt {W : World} {g : Nat} {s : List UInt8} {p : Int} (h : GrpAt W g s p) : g < W.heap.size := (Array.getElem?_eq_some_iff.1 h).1
theorem GrpAt.kept {W W' : World} {g : Nat} {s : List UInt8} {p : Int} (h : GrpAt W g s p) (hb : Below W.heap.size W W') : GrpAt W' g s p := (hb.block g h.lt).trans h
theorem GrpAt.c0 {W : World} {g : Nat} {s : List UInt8} {p : Int} (h : GrpAt W g s p) : W.cell? ⟨g, 0, none⟩ = some (.string (text s)) := by
  rw [cell_of_row W g 0 _ _ (0, 0) h]; rfl
theorem GrpAt.c1 {W : World} {g : Nat} {s : List UInt8} {p : Int} (h : GrpAt W g s p) : W.cell? ⟨g, 1, none⟩ = some (.int .i64 p) := by
  rw [cell_of_row W g 1 _ _ (0, 0) h]; rfl
theorem GrpAt.new (W : World) (s : List UInt8) (p : Int) : GrpAt (W.alloc (.cells #[.string (text s), .int .i64 p] 65)) W.heap.size s p := heap_alloc_new W _
theorem GrpAt.grown {W W' : World} {g B : Nat} {s : List UInt8} {p : Int} (h : GrpAt W g s p) (hg : W.grownBy W' (some B)) (hne : g ≠ B) : GrpAt W' g s p := (hg.block g h.lt (by simpa using hne)).trans h

theorem klaw : Keyed Tryd.prog 9 := string_keyed Tryd.underlying9
theorem zero3 (w : World) : (zeroValue 3).run Tryd.prog w = .ok (.int .i64 0) w := by kernel_rfl
theorem owns_below {w w' : World} {R : Value → Option (DataW Unit × List MemPlace)} {B k : Nat} {D : DataW Unit} (h : w.ownsMap Tryd.prog 9 R B k D) (hb : Below w.heap.size w w') : w'.ownsMap Tryd.prog 9 R B k D := by
  have hlt := h.lt
  obtain ⟨es, clock, h1, rest⟩ := h
  exact ⟨es, clock, (hb.block B hlt).trans h1, rest⟩
theorem keylit (s : List UInt8) : WideAt.IsKeyLit (.string s) := by simp [WideAt.IsKeyLit]
theorem key_text (s : List UInt8) (h : s.length ≤ 12) : keyOf Tryd.prog 9 (.string (text s)) = some (.string s) := by
  have := keyOf_string_mk (P := Tryd.prog) (s := text s) Tryd.underlying9 (by rw [text_len]; unfold maxLen; omega)
  rw [this]
  congr 2

/-- What a map tells of the names that were met. -/
def Counts (l : List Grp) (k : Nat) (D : DataW Unit) : Prop := IsMap D ∧ ∀ q : List UInt8, D.atKey (.string q) (.lit (.int .i64 0)) = .lit (.int .i64 (if (l.take k).any (fun h => h.1 == q) = true then 1 else 0))
theorem counts_none (l : List Grp) : Counts l 0 (.map []) := ⟨isMap_empty, fun q => rfl⟩
theorem counts_step {l : List Grp} {k : Nat} {D : DataW Unit} (h : Counts l k D) (hk : k < l.length) {s : List UInt8} {p : Int} (hg : l.getD k ([], 0) = (s, p)) (ha : (l.take k).any (fun h => h.1 == s) = false) : Counts l (k + 1) (D.put (.string s) (.lit (.int .i64 1))) := by
  refine ⟨h.1.put _ _, fun q => ?_⟩
  have hst := any_step l k hk q
  rw [hg] at hst
  by_cases e : q = s
  · subst e
    rw [atKey_put_same h.1 (keylit _), hst]
    simp
  · rw [atKey_put_other (by simpa using e), h.2 q, hst]
    have : (s == q) = false := by simpa using fun x => e x.symm
    rw [this, Bool.or_false]

set_option maxHeartbeats 3200000 in
theorem pgood_c {w : World} {a : Option Addr} {n cap : Nat} {l : List Grp} (hl : Grs w a n cap l) (hs : ∀ g ∈ l, g.1.length ≤ 9223372036854775807) :
    Calls Tryd.prog 33 #[.slice a n cap] w (Tells (.int .i64 (pgoodS l)) w) := by
  have hln := hl.len
  have hle := hl.le
  have hmx := hl.max
  have HL := Lib.hid hl
  have HV := Lib.hid (show pgoodS l = if l.length = 0 then 2 else if 4 < l.length then 3 else goodFrom [] l from rfl)
  rw [hln] at HV
  clear hl
  have hmm := @run_makeMap Tryd.prog
  by_cases h0 : n = 0
  · have hv : pgoodS l = 2 := by rw [HV.out, if_pos h0]
    rw [hv]
    subst h0
    clear hv HV
    go_enter Tryd.func33, Tryd.ntmps33
    go_wp2
    go_ret
    exact ⟨rfl, Below.refl _ _⟩
  · have e0 : ((n : Int) == 0) = false := by rw [beq_eq_false_iff_ne]; omega
    by_cases h4 : 4 < n
    · have hv : pgoodS l = 3 := by rw [HV.out, if_neg h0, if_pos h4]
      rw [hv]
      have h4i : (4 : Int) < (n : Int) := by omega
      clear hv HV h0
      go_enter Tryd.func33, Tryd.ntmps33
      go_wp2
      go_ret
      exact ⟨rfl, Below.refl _ _⟩
    · have h4i : ¬ (4 : Int) < (n : Int) := by omega
      have hv : pgoodS l = goodFrom (l.take 0) (l.drop 0) := by rw [HV.out, if_neg h0, if_neg h4]; rfl
      have HV2 := Lib.hid hv
      clear hv HV h0
      go_enter Tryd.func33, Tryd.ntmps33
      go_upto_region 7 with (fail)
      go_loopw [17] (fun i wr => ∃ k : Nat, k ≤ n ∧ i = .int .i64 k ∧ pgoodS l = goodFrom (l.take k) (l.drop k) ∧ (∃ D, wr.ownsMap Tryd.prog 9 (plainElem Tryd.prog 3) w.heap.size k D ∧ Counts l k D) ∧ Below w.heap.size w wr) (fun i _ => n - (intOf i).toNat)
      case atStart => exact ⟨0, by omega, rfl, HV2.out, ⟨_, World.ownsMap_made _ _ _ _, counts_none l⟩, (Below.refl _ _).alloc (Nat.le_refl _) _⟩
      case round =>
        clear HV2 hmm
        obtain ⟨k, hk, rfl, hv, ⟨D, hown, hcn⟩, hB⟩ := hrel
        by_cases hlt : k < n
        · have hki : (k : Int) < (n : Int) := by omega
          have hki2 : (k : Int) < (cap : Int) := by omega
          obtain ⟨b, off, rfl, hat⟩ := HL.out.at hlt
          obtain ⟨⟨s, p⟩, hg⟩ : ∃ g, l.getD k ([], 0) = g := ⟨_, rfl⟩
          have hstep := good_step l k (by omega) s p hg
          have hkl : k < l.length := by omega
          have HG := Lib.hid hg
          rw [hg] at hat
          have hsl : s.length ≤ 9223372036854775807 := by
            have : (s, p) ∈ l := by rw [← hg, List.getD_eq_getElem?_getD, List.getElem?_eq_getElem (by omega)]; exact List.getElem_mem _
            exact hs _ this
          have hN := isname_c s hsl
          have HW := Lib.hid (word_c p)
          obtain ⟨c0, c1⟩ := hat wr hB
          simp only at c0 c1
          have HST := Lib.hid hstep
          have HV3 := Lib.hid hv
          have HKL := Lib.hid hkl
          have HCN := Lib.hid hcn
          have hgn := GrpAt.new wr s p
          have hB1 := hB.alloc hB.size (.cells #[.string (text s), .int .i64 p] 65)
          have hown1 := hown.alloc (.cells #[.string (text s), .int .i64 p] 65)
          have hne : wr.heap.size ≠ w.heap.size := by have := hown.lt; omega
          have HNE := Lib.hid hne
          clear hat hstep hv hkl hg hcn hown hne
          go_upto_region 9 with (fail)
          clear c0 c1 hB
          obtain ⟨gb, hgb⟩ : ∃ q, wr.heap.size = q := ⟨_, rfl⟩
          rw [hgb] at hgn HNE ⊢
          generalize wr.alloc (.cells #[.string (text s), .int .i64 p] 65) = W1 at *
          have c0 := hgn.c0
          have c1 := hgn.c1
          have HGN := Lib.hid hgn
          have HB1 := Lib.hid hB1
          have HO1 := Lib.hid hown1
          clear hgn hB1 hown1 hgb hsl
          cases hn : nameS s with
          | false =>
            rw [hn] at hN
            have HN := Lib.hid hN
            have HR := Lib.hid (show pgoodS l = 2 by rw [HV3.out, HST.out, if_pos (by simp [hn])])
            clear hN hn
            go_wp2_with (go_at_call 63; (with_reducible refine (HN.out _).mono ?_); rintro e w1 ⟨rfl, hb1⟩)
            go_ret
            exact ⟨by rw [HR.out]; rfl, HB1.out.trans (hb1.mono HB1.out.size)⟩
          | true =>
            have hkey := key_text s (name_len hn).2
            rw [hn] at hN
            have HN := Lib.hid hN
            by_cases hp : p = 1 ∨ p = 2
            · have HR := Lib.hid (show pgoodS l = if (l.take k).any (fun h => h.1 == s) then 70 else goodFrom (l.take (k + 1)) (l.drop (k + 1)) by rw [HV3.out, HST.out, if_neg (by simp [hn, hp])])
              have hat0 := HCN.out.2 s
              have HAT := Lib.hid hat0
              have HKEY := Lib.hid hkey
              clear hN hn HV3 HST hat0 hkey
              have hwe : (text (wordP p)).toList.isEmpty = false := by rcases hp with rfl | rfl <;> (rw [text_list]; rfl)
              obtain ⟨wt, hwt⟩ : ∃ q, text (wordP p) = q := ⟨_, rfl⟩
              rw [hwt] at HW hwe
              clear hwt
              rcases hp with rfl | rfl
              all_goals
                go_upto_region 11 with (first
                  | (go_at_call 63; (with_reducible refine (HN.out _).mono ?_); rintro e w1 ⟨rfl, hb1⟩; have c1 := (HGN.out.kept hb1).c1)
                  | (go_at_call 64; (with_reducible refine (HW.out _).mono ?_); rintro e w2 ⟨rfl, rfl⟩))
                have hg1 := HGN.out.kept hb1
                have hB2 := HB1.out.trans (hb1.mono HB1.out.size)
                have hown2 := owns_below HO1.out hb1
                have c0 := hg1.c0
                obtain ⟨c, hrun, hat, hwc⟩ := hown2.lookup_int klaw Tryd.underlying115 Tryd.underlying3 (zero3 _) HKEY.out
                rw [HAT.out] at hat
                cases ha : (l.take k).any (fun h => h.1 == s) with
                | true =>
                  rw [ha, if_pos rfl] at hat
                  obtain rfl : 1 = c := by simpa using hat
                  rw [ha, if_pos rfl] at HR
                  have HG1 := Lib.hid hg1
                  have HB2 := Lib.hid hB2
                  have HOW2 := Lib.hid hown2
                  clear hat hwc ha hg1 hB2 hown2 hb1
                  go_upto_region 12 with (first
                    | (at_mapUpdate; refine wpList_mapUpdate_own _ rfl _ _ _ 115 rfl 9 3 klaw Tryd.underlying115 _ w.heap.size k _ rfl HOW2.out (by unfold maxLen; omega) _ _ _ rfl rfl HKEY.out (.lit (.int .i64 2)) [] (plainElem_int Tryd.underlying3 (by decide)) ?_; intro w3 hown3 hgrow3))
                  have hg3 := HG1.out.grown hgrow3 HNE.out
                  have d0 := hg3.c0
                  obtain ⟨c', hrun', hat', hwc'⟩ := hown3.lookup_int klaw Tryd.underlying115 Tryd.underlying3 (zero3 _) HKEY.out
                  rw [atKey_put_same HCN.out.1 (keylit _)] at hat'
                  obtain rfl : 2 = c' := by simpa using hat'
                  have HB3 := Lib.hid (HB2.out.grown hgrow3 HB2.out.size (fun j hj => by cases hj; exact Nat.le_refl _))
                  clear hat' hwc' hown3 hgrow3 hg3 hrun
                  go_wp2
                  go_ret
                  exact ⟨by rw [HR.out]; rfl, HB3.out⟩
                | false =>
                  rw [ha, if_neg (by simp)] at hat
                  obtain rfl : 0 = c := by simpa using hat
                  have HCN2 := Lib.hid (counts_step HCN.out HKL.out HG.out ha)
                  rw [ha, if_neg (by simp)] at HR
                  have HG1 := Lib.hid hg1
                  have HB2 := Lib.hid hB2
                  have HOW2 := Lib.hid hown2
                  clear hat hwc ha hg1 hB2 hown2 hb1
                  go_upto_region 12 with (first
                    | (at_mapUpdate; refine wpList_mapUpdate_own _ rfl _ _ _ 115 rfl 9 3 klaw Tryd.underlying115 _ w.heap.size k _ rfl HOW2.out (by unfold maxLen; omega) _ _ _ rfl rfl HKEY.out (.lit (.int .i64 1)) [] (plainElem_int Tryd.underlying3 (by decide)) ?_; intro w3 hown3 hgrow3))
                  have hg3 := HG1.out.grown hgrow3 HNE.out
                  have d0 := hg3.c0
                  obtain ⟨c', hrun', hat', hwc'⟩ := hown3.lookup_int klaw Tryd.underlying115 Tryd.underlying3 (zero3 _) HKEY.out
                  rw [atKey_put_same HCN.out.1 (keylit _)] at hat'
                  obtain rfl : 1 = c' := by simpa using hat'
                  have HB3 := Lib.hid (HB2.out.grown hgrow3 HB2.out.size (fun j hj => by cases hj; exact Nat.le_refl _))
                  have HO3 := Lib.hid hown3
                  clear hat' hwc' hown3 hgrow3 hg3 hrun
                  go_wp2
                  go_roundw
                  case rel => exact ⟨k + 1, by omega, rfl, HR.out, ⟨_, HO3.out, HCN2.out⟩, HB3.out⟩
                  case measure => simp [intOf]; omega
            · have HR := Lib.hid (show pgoodS l = 2 by rw [HV3.out, HST.out, if_pos (by simp [hp])])
              have hw0 : wordP p = [] := by unfold wordP; rw [if_neg (fun h => hp (.inl h)), if_neg (fun h => hp (.inr h))]
              have hwe : (text ([] : List UInt8)).toList.isEmpty = true := by rw [text_list]; rfl
              rw [hw0] at HW
              obtain ⟨wt, hwt⟩ : ∃ q, text ([] : List UInt8) = q := ⟨_, rfl⟩
              rw [hwt] at HW hwe
              clear hN hn hp hkey hw0 hwt
              go_wp2_with (first
                | (go_at_call 63; (with_reducible refine (HN.out _).mono ?_); rintro e w1 ⟨rfl, hb1⟩; have c1 := (HGN.out.kept hb1).c1)
                | (go_at_call 64; (with_reducible refine (HW.out _).mono ?_); rintro e w2 ⟨rfl, rfl⟩))
              go_ret
              exact ⟨by rw [HR.out]; rfl, HB1.out.trans (hb1.mono HB1.out.size)⟩
        · obtain rfl : k = n := by omega
          have HR := Lib.hid (show pgoodS l = 0 by rw [hv, List.drop_of_length_le (by omega)]; rfl)
          have HB := Lib.hid hB
          clear hv hB hown hcn
          go_wp2
          go_ret
          exact ⟨by rw [HR.out]; rfl, HB.out⟩
end Go.Proofs.YtfkmfccdhmnllaaDoor
end

section
namespace Go.Proofs.YtfkmfccdhmnllaaDoor
open Go.RowKit
set_option linter.unusedVariables false

/-- WHAT THE WALK IS TOLD OF A SLICE OF INTEGERS THAT CAME IN: it is nil; or it leads to a row of 'cap' cells, the numbers 'zs' (the first 'len' are its elements, the rest its spare room), each fitting its kind. -/
def IsRow (k : IntKind) (w : World) (a : Option Addr) (len cap : Nat) (zs : List Int) : Prop :=
  (a = none ∧ len = 0 ∧ cap = 0 ∧ zs = []) ∨
  ∃ x, a = some x ∧ len ≤ cap ∧ cap ≤ maxLen ∧ zs.length = cap ∧ (∀ i, i < zs.length → w.cell? (x.add i) = some (.int k (zs.getD i 0))) ∧ ∀ n ∈ zs, (Lit.int k n).wf = true

theorem u8_of_wf {n : Int} (h : (Lit.int .u8 n).wf = true) : 0 ≤ n ∧ n ≤ 255 := by
  simpa [Lit.wf, IntKind.min, IntKind.max, IntKind.signed, IntKind.bits] using h

theorem i64_of_wf {n : Int} (h : (Lit.int .i64 n).wf = true) : -9223372036854775808 ≤ n ∧ n ≤ 9223372036854775807 := by
  simpa [Lit.wf, IntKind.min, IntKind.max, IntKind.signed, IntKind.bits] using h

theorem IsRow.bys {w : World} {a : Option Addr} {n cap : Nat} {zs : List Int} (h : IsRow .u8 w a n cap zs) : ∃ l, Bys w a n cap l := by
  rcases h with ⟨rfl, rfl, rfl, rfl⟩ | ⟨x, rfl, hl, hm, hz, hcell, hwz⟩
  · exact ⟨[], rfl, Nat.le_refl _, by omega, .inl rfl⟩
  · refine ⟨(zs.take n).map (fun z => UInt8.ofNat z.toNat), by simp; omega, hl, by unfold maxLen at hm; omega, ?_⟩
    by_cases hc : cap = 0
    · exact .inl hc
    · right
      obtain ⟨b, off, spot⟩ := x
      have h0 := hcell 0 (by omega)
      have hspot : spot = none := by simpa [Addr.add] using World.cell?_spot h0
      subst hspot
      refine ⟨b, off, rfl, fun i hi => ?_⟩
      have hi' : i < zs.length := by omega
      have := hcell i hi'
      have hw := u8_of_wf (hwz (zs.getD i 0) (by rw [List.getD_eq_getElem?_getD, List.getElem?_eq_getElem hi']; exact List.getElem_mem hi'))
      have e : by8 ((zs.take n).map (fun z => UInt8.ofNat z.toNat)) i = zs.getD i 0 := by
        unfold by8
        have hq : zs.getD i 0 = zs[i] := by simp [List.getD, hi']
        rw [hq] at hw ⊢
        simp [List.getD, hi, hi']
        omega
      rw [e]
      have ea : (⟨b, off, none⟩ : Addr).add i = ⟨b, off + i, none⟩ := by
        by_cases h0 : i = 0
        · subst h0; rfl
        · simp [Addr.add, h0]
      rw [← ea]; exact this

end Go.Proofs.YtfkmfccdhmnllaaDoor
end

section
namespace Go.Proofs.YtfkmfccdhmnllaaDoor
open Go.RowKit Go Go.WideShapes Go.ChangeShapes
set_option linter.unusedVariables false

theorem bys_of_open {H : Type} {enc : TypeId × Value → H} {W : World} {a : Option Addr} {len cap : Nat} {d : DataW H} {p : List MemPlace}
    (h : DataW.Trod enc Tryd.prog W 0 (fun _ => true) true 50 (.slice a len cap) d p) : ∃ l, Bys W a len cap l := by
  obtain ⟨fuel, hf⟩ := h
  have hr : ∃ zs, IsRow .u8 W a len cap zs := by
    rcases open_ints Tryd.underlying50 Tryd.underlying5 (by kernel_rfl) hf with ⟨hcs, _⟩ | ⟨x, l, c, zs, hcs, _, hl, hm, hz, _, hcell, hwz⟩
    · simp [Value.cells] at hcs
      obtain ⟨rfl, rfl, rfl⟩ := hcs
      exact ⟨[], .inl ⟨rfl, rfl, rfl, rfl⟩⟩
    · simp [Value.cells] at hcs
      obtain ⟨rfl, rfl, rfl⟩ := hcs
      exact ⟨zs, .inr ⟨_, rfl, hl, hm, by simpa using hz, hcell, hwz⟩⟩
  obtain ⟨zs, hr⟩ := hr
  exact hr.bys
end Go.Proofs.YtfkmfccdhmnllaaDoor
end

section
namespace Go.Proofs.YtfkmfccdhmnllaaDoor
open Go.RowKit Go Go.Sort Go.Deep
set_option linter.unusedVariables false
set_option maxRecDepth 20000

def sless (n s m t : Int) : Bool := decide (n < m ∨ (n = m ∧ s < t))
end Go.Proofs.YtfkmfccdhmnllaaDoor
end

section
namespace Go.Proofs.YtfkmfccdhmnllaaDoor
open Go.RowKit Go Go.Sort
set_option linter.unusedVariables false
set_option maxRecDepth 20000

/-- A comparison that is strict, and tells of any two which stands ahead. -/
structure Strict {α : Type} (r : α → α → Bool) : Prop where
  irr : ∀ a, r a a = false
  tr : ∀ a b c, r a b = true → r b c = true → r a c = true
  tot : ∀ a b, r a b = false → r b a = false → a = b
def lexR {α β : Type} [DecidableEq α] (r : α → α → Bool) (s : β → β → Bool) (x y : α × β) : Bool := if x.1 = y.1 then s x.2 y.2 else r x.1 y.1
theorem Strict.lex {α β : Type} [DecidableEq α] {r : α → α → Bool} {s : β → β → Bool} (hr : Strict r) (hs : Strict s) : Strict (lexR r s) := by
  refine ⟨fun a => ?_, fun a b c h1 h2 => ?_, fun a b h1 h2 => ?_⟩
  · unfold lexR
    rw [if_pos rfl]
    exact hs.irr _
  · unfold lexR at h1 h2 ⊢
    by_cases e1 : a.1 = b.1
    · rw [if_pos e1] at h1
      by_cases e2 : b.1 = c.1
      · rw [if_pos e2] at h2
        rw [if_pos (e1.trans e2)]
        exact hs.tr _ _ _ h1 h2
      · rw [if_neg e2] at h2
        rw [if_neg (by rw [e1]; exact e2), e1]
        exact h2
    · rw [if_neg e1] at h1
      by_cases e2 : b.1 = c.1
      · rw [if_neg (by rw [← e2]; exact e1), ← e2]
        exact h1
      · rw [if_neg e2] at h2
        have h3 := hr.tr _ _ _ h1 h2
        rw [if_neg (fun e => by rw [e, hr.irr] at h3; cases h3)]
        exact h3
  · unfold lexR at h1 h2
    by_cases e1 : a.1 = b.1
    · rw [if_pos e1] at h1
      rw [if_pos e1.symm] at h2
      exact Prod.ext e1 (hs.tot _ _ h1 h2)
    · rw [if_neg e1] at h1
      rw [if_neg (fun e => e1 e.symm)] at h2
      exact absurd (hr.tot _ _ h1 h2) e1
def ltI (a b : Int) : Bool := decide (a < b)
theorem strictI : Strict ltI := ⟨fun a => by simp [ltI], fun a b c h1 h2 => by simp [ltI] at *; omega, fun a b h1 h2 => by simp [ltI] at *; omega⟩
def ltB (a b : Bool) : Bool := !a && b
theorem strictB : Strict ltB := ⟨by decide, by decide, by decide⟩
theorem strictT : Strict Op.bytesLess := by
  have hi : ∀ a, Op.bytesLess a a = false := by
    intro a
    induction a with
    | nil => rfl
    | cons x l ih => simp [Op.bytesLess, ih]
  refine ⟨hi, ?_, ?_⟩
  · intro a
    induction a with
    | nil =>
      intro b c h1 h2
      cases b with
      | nil => simp [Op.bytesLess] at h1
      | cons y m =>
        cases c with
        | nil => simp [Op.bytesLess] at h2
        | cons z k => rfl
    | cons x l ih =>
      intro b c h1 h2
      cases b with
      | nil => simp [Op.bytesLess] at h1
      | cons y m =>
        cases c with
        | nil => simp [Op.bytesLess] at h2
        | cons z k =>
          simp only [Op.bytesLess, Bool.or_eq_true, Bool.and_eq_true, decide_eq_true_eq, beq_iff_eq] at h1 h2 ⊢
          rcases h1 with h1 | ⟨rfl, h1⟩
          · rcases h2 with h2 | ⟨rfl, h2⟩
            · left; exact UInt8.lt_trans h1 h2
            · left; exact h1
          · rcases h2 with h2 | ⟨rfl, h2⟩
            · left; exact h2
            · right; exact ⟨rfl, ih _ _ h1 h2⟩
  · intro a
    induction a with
    | nil =>
      intro b h1 h2
      cases b with
      | nil => rfl
      | cons y m => simp [Op.bytesLess] at h1
    | cons x l ih =>
      intro b h1 h2
      cases b with
      | nil => simp [Op.bytesLess] at h2
      | cons y m =>
        simp only [Op.bytesLess, Bool.or_eq_false_iff, Bool.and_eq_false_iff, decide_eq_false_iff_not, beq_eq_false_iff_ne] at h1 h2
        obtain ⟨a1, a2⟩ := h1
        obtain ⟨b1, b2⟩ := h2
        have e : x = y := UInt8.le_antisymm (UInt8.not_lt.1 b1) (UInt8.not_lt.1 a1)
        subst e
        rcases a2 with a2 | a2
        · exact absurd rfl a2
        · rcases b2 with b2 | b2
          · exact absurd rfl b2
          · rw [ih _ a2 b2]

abbrev Key := (Int × Int) × Bool × List UInt8 × Int × Int
def lessK : Key → Key → Bool := lexR (lexR ltI ltI) (lexR ltB (lexR Op.bytesLess (lexR ltI ltI)))
theorem strictK : Strict lessK := (strictI.lex strictI).lex (strictB.lex (strictT.lex (strictI.lex strictI)))
def Cl.key (c : Cl) : Key := ((c.n, c.s), c.g, c.t, c.a, c.b)

/-- Whether a write stands ahead of another one. -/
def lessS (a b : Cl) : Bool :=
  if ((a.n == b.n) && (a.s == b.s)) = false then sless a.n a.s b.n b.s
  else if (a.g == b.g) = false then b.g
  else if (a.t == b.t) = false then Op.bytesLess a.t b.t
  else if (a.a == b.a) = false then decide (a.a < b.a)
  else decide (a.b < b.b)
theorem sless_lex (n s m t : Int) : sless n s m t = lexR ltI ltI (n, s) (m, t) := by
  unfold sless lexR ltI
  simp only
  by_cases e : n = m
  · subst e; simp
  · simp [e]
theorem less_key (a b : Cl) : lessS a b = lessK a.key b.key := by
  unfold lessS lessK Cl.key
  rw [lexR]
  simp only [Prod.mk.injEq]
  by_cases e1 : a.n = b.n ∧ a.s = b.s
  · rw [if_pos e1, if_neg (by simp [e1.1, e1.2]), lexR]
    simp only
    by_cases e2 : a.g = b.g
    · rw [if_pos e2, if_neg (by simp [e2]), lexR]
      simp only
      by_cases e3 : a.t = b.t
      · rw [if_pos e3, if_neg (by simp [e3]), lexR]
        simp only
        by_cases e4 : a.a = b.a
        · rw [if_pos e4, if_neg (by simp [e4])]; rfl
        · rw [if_neg e4, if_pos (by simpa using e4)]; rfl
      · rw [if_neg e3, if_pos (by simpa using e3)]
    · rw [if_neg e2, if_pos (by simpa using e2)]
      unfold ltB
      revert e2
      cases a.g <;> cases b.g <;> simp
  · rw [if_neg e1, if_pos (by rw [Bool.eq_false_iff]; simpa using e1), sless_lex]

/-- The join of two. -/
def deadJ (a b : Cl) : Int × Int := joinS [(a.d, a.e), (b.d, b.e)]
def twoS (a b : Cl) : Cl := { (if lessS a b = true then b else a) with d := (deadJ a b).1, e := (deadJ a b).2 }
theorem two_d (a b : Cl) : (twoS a b).d = max (max 0 a.d) b.d := rfl
theorem two_e (a b : Cl) : (twoS a b).e = max (max 0 a.e) b.e := rfl
theorem two_key (a b : Cl) : (twoS a b).key = if lessS a b = true then b.key else a.key := by unfold twoS; split <;> rfl
/-- The greatest of two writes. -/
def maxK (x y : Key) : Key := if lessK x y = true then y else x
theorem maxK_assoc (x y z : Key) : maxK (maxK x y) z = maxK x (maxK y z) := by
  unfold maxK
  cases h1 : lessK x y with
  | true =>
    cases h2 : lessK y z with
    | true => simp [h2, strictK.tr _ _ _ h1 h2]
    | false => simp [h1, h2]
  | false =>
    cases h2 : lessK y z with
    | true => simp
    | false =>
      simp [h1]
      cases h3 : lessK x z with
      | false => simp
      | true =>
        exfalso
        cases h4 : lessK y x with
        | true =>
          have := strictK.tr _ _ _ h4 h3
          rw [h2] at this; cases this
        | false =>
          rw [strictK.tot _ _ h1 h4] at h3
          rw [h2] at h3; cases h3
theorem two_keyM (a b : Cl) : (twoS a b).key = maxK a.key b.key := by rw [two_key, less_key]; rfl
/-- What of a cell is asked so that no write adds nothing to it. -/
structure Cl.Up (c : Cl) : Prop where
  key : maxK Cl.zero.key c.key = c.key
  d : 0 ≤ c.d
  e : 0 ≤ c.e
theorem Cl.Up.two {a b : Cl} (ha : a.Up) (hb : b.Up) : (twoS a b).Up := by
  refine ⟨?_, ?_, ?_⟩
  · rw [two_keyM, ← maxK_assoc, ha.key]
  · rw [two_d]; omega
  · rw [two_e]; omega
end Go.Proofs.YtfkmfccdhmnllaaDoor
end

section
namespace Go.Proofs.YtfkmfccdhmnllaaDoor
open Go.RowKit Go Go.Sort
set_option linter.unusedVariables false
set_option maxRecDepth 20000

theorem text_eqb (t t' : List UInt8) : ((text t).toList == (text t').toList) = (t == t') := by rw [text_toList, text_toList]
theorem text_lss (t t' : List UInt8) : Op.bytesLess (text t).toList (text t').toList = Op.bytesLess t t' := by rw [text_toList, text_toList]

end Go.Proofs.YtfkmfccdhmnllaaDoor
end

section
namespace Go.Proofs.YtfkmfccdhmnllaaDoor
open Go.RowKit Go Go.Sort
set_option linter.unusedVariables false
set_option maxRecDepth 20000

theorem Wrote.kept {g : Nat} {t : TypeId} {w w1 w2 : World} {cs : Array Value} (h : Wrote g cs t w w1) (hg : g < w1.heap.size) (hb : Below w1.heap.size w1 w2) : Wrote g cs t w w2 :=
  ⟨hb.os.trans h.os, hb.tape.trans h.tape, hb.output.trans h.output, Nat.le_trans h.size hb.size, (hb.block g hg).trans h.cell, fun k hk hne => (hb.block k (Nat.lt_of_lt_of_le hk h.size)).trans (h.rest k hk hne)⟩

/-- What a cell's place holds. -/
def CelAt (W : World) (b o : Nat) (c : Cl) : Prop :=
  W.cell? ⟨b, o, none⟩ = some (.int .i64 c.n) ∧ W.cell? ⟨b, o + 1, none⟩ = some (.int .i64 c.s) ∧ W.cell? ⟨b, o + 2, none⟩ = some (.int .i64 c.a) ∧ W.cell? ⟨b, o + 3, none⟩ = some (.int .i64 c.b) ∧
  W.cell? ⟨b, o + 4, none⟩ = some (.bool c.g) ∧ W.cell? ⟨b, o + 5, none⟩ = some (.string (text c.t)) ∧ W.cell? ⟨b, o + 6, none⟩ = some (.int .i64 c.d) ∧ W.cell? ⟨b, o + 7, none⟩ = some (.int .i64 c.e)
theorem CelAt.kept {W W' : World} {b o : Nat} {c : Cl} (h : CelAt W b o c) (hb : Below W.heap.size W W') : CelAt W' b o c := by
  obtain ⟨h0, h1, h2, h3, h4, h5, h6, h7⟩ := h
  exact ⟨(hb.cell (World.block_lt_of_cell? W _ h0)).trans h0, (hb.cell (World.block_lt_of_cell? W _ h1)).trans h1, (hb.cell (World.block_lt_of_cell? W _ h2)).trans h2, (hb.cell (World.block_lt_of_cell? W _ h3)).trans h3, (hb.cell (World.block_lt_of_cell? W _ h4)).trans h4, (hb.cell (World.block_lt_of_cell? W _ h5)).trans h5, (hb.cell (World.block_lt_of_cell? W _ h6)).trans h6, (hb.cell (World.block_lt_of_cell? W _ h7)).trans h7⟩
/-- A list of cells that lies in memory. -/
structure Cls (w : World) (a : Option Addr) (n cap : Nat) (l : List Cl) : Prop where
  len : l.length = n
  le : n ≤ cap
  max : cap ≤ 9223372036854775807
  adr : cap = 0 ∨ ∃ b off, a = some ⟨b, off, none⟩ ∧ ∀ i, i < n → CelAt w b (off + i * 8) (l.getD i Cl.zero)
theorem Cls.below {w w' : World} {a : Option Addr} {n cap : Nat} {l : List Cl} (h : Cls w a n cap l) (hb : Below w.heap.size w w') : Cls w' a n cap l := by
  refine ⟨h.len, h.le, h.max, ?_⟩
  rcases h.adr with h4 | ⟨b, off, rfl, hc⟩
  · exact .inl h4
  · exact .inr ⟨b, off, rfl, fun i hi => (hc i hi).kept hb⟩
/-- What a place holds, in every world in which nothing of the old is turned. -/
theorem Cls.at {w : World} {a : Option Addr} {n cap : Nat} {l : List Cl} (h : Cls w a n cap l) {k : Nat} (hk : k < n) :
    ∃ b off, a = some ⟨b, off, none⟩ ∧ ∀ W, Below w.heap.size w W → CelAt W b (off + k * 8) (l.getD k Cl.zero) := by
  have := h.le
  rcases h.adr with h4 | ⟨b, off, rfl, hc⟩
  · omega
  · exact ⟨b, off, rfl, fun W hb => (hc k hk).kept hb⟩
theorem Cls.nil (w : World) : Cls w none 0 0 [] := ⟨rfl, Nat.le_refl _, by omega, .inl rfl⟩
theorem Cls.take {w : World} {a : Option Addr} {n cap : Nat} {l : List Cl} (h : Cls w a n cap l) {k : Nat} (hk : k ≤ n) : Cls w a k cap (l.take k) := by
  have hl := h.len
  have hle := h.le
  refine ⟨by rw [List.length_take]; omega, by omega, h.max, ?_⟩
  rcases h.adr with h4 | ⟨b, off, rfl, hc⟩
  · exact .inl h4
  · refine .inr ⟨b, off, rfl, fun i hi => ?_⟩
    have := hc i (by omega)
    rw [List.getD_eq_getElem?_getD] at this ⊢
    rwa [List.getElem?_take_of_lt hi]
def CelC (W : World) (q : Nat) (c : Cl) : Prop := Cel W q c.n c.s c.a c.b c.g c.t c.d c.e
theorem CelC.kept {W W' : World} {q : Nat} {c : Cl} (h : CelC W q c) (hb : Below W.heap.size W W') : CelC W' q c := Cel.kept h hb
theorem CelC.alloc {W : World} {q : Nat} {c : Cl} (h : CelC W q c) (x : Obj) : CelC (W.alloc x) q c := Cel.alloc h x
end Go.Proofs.YtfkmfccdhmnllaaDoor
end

section
namespace Go.Proofs.YtfkmfccdhmnllaaDoor
open Go.RowKit Go Go.Sort
set_option linter.unusedVariables false
set_option maxRecDepth 20000

theorem own_kept {W W' : World} {B s k : Nat} {e : TypeId} {v : Value} {xs : List Value} (h : W.ownsRow B e s v k xs) (hb : Below W.heap.size W W') : W'.ownsRow B e s v k xs := by
  refine ⟨h.1, ?_⟩
  rcases h.2 with hn | ⟨g, cap, cur, rfl, hB, hg, rest⟩
  · exact .inl hn
  · exact .inr ⟨g, cap, cur, rfl, hB, by rw [hb.block g (Array.getElem?_eq_some_iff.1 hg).1]; exact hg, rest⟩
theorem own_mono {W : World} {B B' s k : Nat} {e : TypeId} {v : Value} {xs : List Value} (h : W.ownsRow B e s v k xs) (hB : B' ≤ B) : W.ownsRow B' e s v k xs := by
  refine ⟨h.1, ?_⟩
  rcases h.2 with hn | ⟨g, cap, cur, rfl, hb, rest⟩
  · exact .inl hn
  · exact .inr ⟨g, cap, cur, rfl, by omega, rest⟩
def cCells (l : List Cl) : List Value := l.flatMap (fun c => c.arr.toList)
theorem cCells_get : ∀ (l : List Cl) (i j : Nat), i < l.length → j < 8 → (cCells l)[i * 8 + j]? = (l.getD i Cl.zero).arr[j]?
  | [], i, j, h, _ => by simp at h
  | c :: r, 0, j, _, hj => by
    simp only [cCells, List.flatMap_cons, List.getD_cons_zero, Nat.zero_mul, Nat.zero_add]
    rw [List.getElem?_append_left (by simp [Cl.arr]; omega)]
    simp
  | c :: r, i + 1, j, h, hj => by
    have := cCells_get r i j (by simpa using h) hj
    simp only [List.getD_cons_succ]
    rw [← this]
    simp only [cCells, List.flatMap_cons]
    rw [List.getElem?_append_right (by simp [Cl.arr]; omega)]
    congr 1
    simp [Cl.arr]
    omega
/-- A slice of the call's own that reads as the cells l. -/
def OwnC (w : World) (B : Nat) (v : Value) (l : List Cl) : Prop := w.ownsRow B 67 8 v l.length (cCells l)
theorem OwnC.nil (w : World) (B : Nat) : OwnC w B (.slice none 0 0) [] := World.ownsRow_nil _ _ _ _
theorem OwnC.cls {w : World} {B : Nat} {v : Value} {l : List Cl} (h : OwnC w B v l) : ∃ a cap, v = .slice a l.length cap ∧ Cls w a l.length cap l := by
  obtain ⟨h1, h2⟩ := h
  rcases h2 with ⟨rfl, hn⟩ | ⟨g, cap, cur, rfl, hb, hg, hnc, hcm, hcs, htake⟩
  · exact ⟨none, 0, by rw [hn], rfl, by omega, by omega, .inl rfl⟩
  · refine ⟨_, cap, rfl, rfl, hnc, by unfold maxLen at hcm; omega, .inr ⟨g, 0, rfl, fun i hi => ?_⟩⟩
    have key : ∀ j, j < 8 → w.cell? ⟨g, 0 + i * 8 + j, none⟩ = (l.getD i Cl.zero).arr[j]? := by
      intro j hj
      have c1 := cCells_get l i j hi hj
      rw [← htake, List.getElem?_take, if_pos (by omega)] at c1
      rw [Nat.zero_add, cell_of_row w g _ cur _ (0, 0) hg, ← c1]
      simp
    have key0 := key 0 (by omega)
    rw [Nat.add_zero] at key0
    exact ⟨key0, key 1 (by omega), key 2 (by omega), key 3 (by omega), key 4 (by omega), key 5 (by omega), key 6 (by omega), key 7 (by omega)⟩
theorem OwnC.kept {w w' : World} {B : Nat} {v : Value} {l : List Cl} (h : OwnC w B v l) (hb : Below w.heap.size w w') : OwnC w' B v l := own_kept h hb
theorem OwnC.mono {w : World} {B B' : Nat} {v : Value} {l : List Cl} (h : OwnC w B v l) (hB : B' ≤ B) : OwnC w B' v l := own_mono h hB
theorem OwnC.lt {w : World} {B : Nat} {v : Value} {l : List Cl} (h : OwnC w B v l) : ∀ k, v.ownBlock = some k → B ≤ k ∧ k < w.heap.size := World.ownsRow.lt h
end Go.Proofs.YtfkmfccdhmnllaaDoor
end

section
namespace Go.Proofs.YtfkmfccdhmnllaaDoor
open Go.RowKit Go Go.Sort
set_option linter.unusedVariables false
set_option maxRecDepth 20000

/-- A list that lies in memory: 'arr' tells the cells of an element, sz of them. -/
structure Ls {α : Type} (sz : Nat) (arr : α → Array Value) (z : α) (w : World) (a : Option Addr) (n cap : Nat) (l : List α) : Prop where
  len : l.length = n
  le : n ≤ cap
  max : cap ≤ 9223372036854775807
  adr : cap = 0 ∨ ∃ b off, a = some ⟨b, off, none⟩ ∧ ∀ i, i < n → ∀ j v, (arr (l.getD i z))[j]? = some v → w.cell? ⟨b, off + i * sz + j, none⟩ = some v
section
variable {α : Type} {sz : Nat} {arr : α → Array Value} {z : α}
theorem Ls.below {w w' : World} {a : Option Addr} {n cap : Nat} {l : List α} (h : Ls sz arr z w a n cap l) (hb : Below w.heap.size w w') : Ls sz arr z w' a n cap l := by
  refine ⟨h.len, h.le, h.max, ?_⟩
  rcases h.adr with h4 | ⟨b, off, rfl, hc⟩
  · exact .inl h4
  · exact .inr ⟨b, off, rfl, fun i hi j v hj => (hb.cell (World.block_lt_of_cell? w _ (hc i hi j v hj))).trans (hc i hi j v hj)⟩
/-- What a place holds, in every world in which nothing of the old is turned. -/
theorem Ls.at {w : World} {a : Option Addr} {n cap : Nat} {l : List α} (h : Ls sz arr z w a n cap l) {k : Nat} (hk : k < n) :
    ∃ b off, a = some ⟨b, off, none⟩ ∧ ∀ W, Below w.heap.size w W → ∀ j v, (arr (l.getD k z))[j]? = some v → W.cell? ⟨b, off + k * sz + j, none⟩ = some v := by
  have := h.le
  rcases h.adr with h4 | ⟨b, off, rfl, hc⟩
  · omega
  · exact ⟨b, off, rfl, fun W hb j v hj => (hb.cell (World.block_lt_of_cell? w _ (hc k hk j v hj))).trans (hc k hk j v hj)⟩
theorem Ls.nil (w : World) : Ls sz arr z w none 0 0 [] := ⟨rfl, Nat.le_refl _, by omega, .inl rfl⟩
theorem Ls.take {w : World} {a : Option Addr} {n cap : Nat} {l : List α} (h : Ls sz arr z w a n cap l) {k : Nat} (hk : k ≤ n) : Ls sz arr z w a k cap (l.take k) := by
  have hl := h.len
  have hle := h.le
  refine ⟨by rw [List.length_take]; omega, by omega, h.max, ?_⟩
  rcases h.adr with h4 | ⟨b, off, rfl, hc⟩
  · exact .inl h4
  · refine .inr ⟨b, off, rfl, fun i hi => ?_⟩
    have := hc i (by omega)
    rw [List.getD_eq_getElem?_getD] at this ⊢
    rwa [List.getElem?_take_of_lt hi]
/-- The cells of a list. -/
def lCells (arr : α → Array Value) (l : List α) : List Value := l.flatMap (fun c => (arr c).toList)
theorem lCells_append (l m : List α) : lCells arr (l ++ m) = lCells arr l ++ lCells arr m := by simp [lCells]
theorem lCells_get (hs : ∀ c, (arr c).size = sz) : ∀ (l : List α) (i j : Nat), i < l.length → j < sz → (lCells arr l)[i * sz + j]? = (arr (l.getD i z))[j]?
  | [], i, j, h, _ => by simp at h
  | c :: r, 0, j, _, hj => by
    simp only [lCells, List.flatMap_cons, List.getD_cons_zero, Nat.zero_mul, Nat.zero_add]
    rw [List.getElem?_append_left (by rw [Array.length_toList, hs]; exact hj)]
    simp
  | c :: r, i + 1, j, h, hj => by
    have := lCells_get hs r i j (by simpa using h) hj
    simp only [List.getD_cons_succ]
    rw [← this]
    simp only [lCells, List.flatMap_cons]
    rw [List.getElem?_append_right (by rw [Array.length_toList, hs, Nat.succ_mul]; omega), Array.length_toList, hs]
    congr 1
    rw [Nat.succ_mul]
    omega
/-- A slice of the call's own that reads as the list l. -/
def OwnL (sz : Nat) (ty : TypeId) (arr : α → Array Value) (w : World) (B : Nat) (v : Value) (l : List α) : Prop := w.ownsRow B ty sz v l.length (lCells arr l)
theorem OwnL.nil (ty : TypeId) (w : World) (B : Nat) : OwnL sz ty arr w B (.slice none 0 0) [] := World.ownsRow_nil _ _ _ _
theorem OwnL.ls {ty : TypeId} {w : World} {B : Nat} {v : Value} {l : List α} (hs : ∀ c, (arr c).size = sz) (h : OwnL sz ty arr w B v l) : ∃ a cap, v = .slice a l.length cap ∧ Ls sz arr z w a l.length cap l := by
  obtain ⟨h1, h2⟩ := h
  rcases h2 with ⟨rfl, hn⟩ | ⟨g, cap, cur, rfl, hb, hg, hnc, hcm, hcs, htake⟩
  · exact ⟨none, 0, by rw [hn], rfl, by omega, by omega, .inl rfl⟩
  · refine ⟨_, cap, rfl, rfl, hnc, by unfold maxLen at hcm; omega, .inr ⟨g, 0, rfl, fun i hi j v hj => ?_⟩⟩
    have hjs : j < sz := by have := (Array.getElem?_eq_some_iff.1 hj).1; rwa [hs] at this
    have c1 := lCells_get (z := z) hs l i j hi hjs
    have hlt : i * sz + j < l.length * sz := by
      have h9 : (i + 1) * sz ≤ l.length * sz := Nat.mul_le_mul_right sz hi
      rw [Nat.succ_mul] at h9
      omega
    rw [← htake, List.getElem?_take, if_pos hlt, hj] at c1
    rw [Nat.zero_add, cell_of_row w g _ cur _ (0, 0) hg, ← c1]
    simp
theorem OwnL.kept {ty : TypeId} {w w' : World} {B : Nat} {v : Value} {l : List α} (h : OwnL sz ty arr w B v l) (hb : Below w.heap.size w w') : OwnL sz ty arr w' B v l := own_kept h hb
theorem OwnL.mono {ty : TypeId} {w : World} {B B' : Nat} {v : Value} {l : List α} (h : OwnL sz ty arr w B v l) (hB : B' ≤ B) : OwnL sz ty arr w B' v l := own_mono h hB
theorem OwnL.lt {ty : TypeId} {w : World} {B : Nat} {v : Value} {l : List α} (h : OwnL sz ty arr w B v l) : ∀ k, v.ownBlock = some k → B ≤ k ∧ k < w.heap.size := World.ownsRow.lt h
theorem OwnL.of_block {ty : TypeId} {w w' : World} {B : Nat} {v : Value} {l : List α} (h : OwnL sz ty arr w B v l) (hb : ∀ q, v.ownBlock = some q → w'.heap[q]? = w.heap[q]?) : OwnL sz ty arr w' B v l := by
  obtain ⟨hlen, ⟨ev, hn⟩ | ⟨g, cap, cur, ev, hB, hg, hnc, hcm, hcs, htake⟩⟩ := h
  · exact ⟨hlen, .inl ⟨ev, hn⟩⟩
  · exact ⟨hlen, .inr ⟨g, cap, cur, ev, hB, (hb g (by subst ev; rfl)).trans hg, hnc, hcm, hcs, htake⟩⟩
/-- append(v, c), v of the call's own: one element. -/
theorem wpList_append_el {P : Program} {w : World} {ops : Array Oper} {rest : List Oper} {o : Oper} {ac : Act} {Q : Exit → Act → World → Prop} (hgd : o.guard = none) (os ox : Operand) (t ty : TypeId) (i0 : TypeInfo) (zv : Value) (bytes : Nat)
    (ho : o.op = .call { callee := .builtin .append, args := #[os, ox], argTypes := #[t, t] }) (ht : P.underlying t = some (.slice ty)) (hi : P.info? ty = some i0) (hz0 : i0.zero = some zv) (hz1 : i0.size = sz) (hz2 : i0.bytes = bytes) (hzs : zv.cells.size = sz) (hsz : 0 < sz)
    {base : Nat} {v : Value} {l : List α} (hs : ac.eval os = v) (hown : OwnL sz ty arr w base v l) (c : α) {cells : Array Value} (hc : arr c = cells) (hcs : cells.size = sz) (hone : ∀ u ∈ cells.toList, u.oneCell' = true) {e9 : TypeId}
    (hx : ac.eval ox = .slice (some ⟨w.heap.size, 0, none⟩) 1 1) (h63 : l.length + 1 ≤ maxLen) (hbytes : ((l.length + 1) + (l.length + 1) / 4 + 192) * bytes ≤ 281474976710656) (hbase : base ≤ w.heap.size)
    (h : ∀ v' w', OwnL sz ty arr w' base v' (l ++ [c]) → (w.alloc (.cells cells e9)).grownBy w' v.ownBlock → wpList P ops Q rest (ac.put o.dst v') w') :
    wpList P ops Q (o :: rest) ac (w.alloc (.cells cells e9)) := by
  refine wpList_append_own_wide (P := P) (w.alloc (.cells cells e9)) hgd os ox t ho base ty i0 zv sz bytes ht hi hz0 hz1 hz2 hzs hsz v l.length (lCells arr l) hs (World.ownsRow.alloc hown _)
    ⟨w.heap.size, 0, none⟩ 1 1 cells.toList hx (by rw [Array.length_toList, hcs, Nat.one_mul]) ?_ hone h63 hbytes (by simp; omega) ?_
  · intro j u hj
    rw [addr_add, Nat.zero_add, cell_of_row _ _ j cells e9 (0, 0) (by rw [heap_alloc_new])]
    rw [← hj]; simp
  · intro v' w' h2 h3 _
    refine h v' w' ?_ h3
    unfold OwnL
    rw [List.length_append, lCells_append]
    have e : lCells arr [c] = cells.toList := by simp [lCells, hc]
    rw [e]
    exact h2
end
end Go.Proofs.YtfkmfccdhmnllaaDoor
end

section
namespace Go.Proofs.YtfkmfccdhmnllaaDoor
open Go.RowKit Go
set_option linter.unusedVariables false
variable {F : Fence} {n : Nat} {P : Program}

def OwnT {β : Type} (B : Nat) (T : TypeId) (I : β → World → Prop) : Prop :=
  ∀ s W W' row, I s W → W.grownBy W' row → (∀ r, row = some r → B ≤ r ∧ ∃ o : Obj, W.heap[r]? = some o ∧ (o.isCells = false ∨ ∃ cs fr, o = .cells cs T fr)) → I s W'
theorem OwnT.from {β : Type} {B : Nat} {T : TypeId} {I : β → World → Prop} (h : OwnT B T I) : OwnFrom B I :=
  fun s W W' row hs hg hr => h s W W' row hs hg (fun r e => by obtain ⟨hB, o, ho, hc⟩ := hr r e; exact ⟨hB, o, ho, .inl hc⟩)
end Go.Proofs.YtfkmfccdhmnllaaDoor
end

section
namespace Go.Proofs.YtfkmfccdhmnllaaDoor
open Go.RowKit Go Go.Sort
set_option linter.unusedVariables false
set_option maxRecDepth 20000

/-- What is asked of a write, by a policy. -/
def Cl.gw (p : Int) (c : Cl) : Bool := (!(p == 2) || !c.g) && (!c.wrote || (sgood c.n c.s && (decide (0 < c.n) && (vgood c.a c.b && (decide (c.t.length ≤ 64) && (!c.g || c.t == []))))))
/-- What is asked of what has been deleted. -/
def Cl.gd (p : Int) (c : Cl) : Bool := (p == 1 && zeroS c.d c.e) || (p == 2 && vgood c.d c.e)
end Go.Proofs.YtfkmfccdhmnllaaDoor
end

section
namespace Go.Proofs.YtfkmfccdhmnllaaDoor
open Go.RowKit Go Go.Sort
set_option linter.unusedVariables false
set_option maxRecDepth 20000

def keyS (k : List UInt8) : Int := if k = [] then 2 else if 32 < k.length then 3 else 0
/-- Whether the cell of a group may be. -/
def cgAt (gs : List Grp) (cs : List Cl) (i : Nat) : Bool := (cs.getD i Cl.zero).good (gs.getD i ([], 0)).2
theorem pgood_len {gs : List Grp} (h : pgoodS gs = 0) : gs.length ≤ 4 := by
  unfold pgoodS at h
  split at h
  · cases h
  · split at h
    · cases h
    · omega
end Go.Proofs.YtfkmfccdhmnllaaDoor
end

section
namespace Go.Proofs.YtfkmfccdhmnllaaDoor
open Go.RowKit Go Go.Sort
set_option linter.unusedVariables false
set_option maxRecDepth 20000

attribute [local go_sem] Oper.semAt_some
/-- What an iterator turns is no block of another type. -/
theorem turn_keep {B k : Nat} {T t : TypeId} {W W' : World} {row : Option Nat} {cs : Array Value} {fr : Nat × Nat} (hg : W.grownBy W' row)
    (hr : ∀ r, row = some r → B ≤ r ∧ ∃ o : Obj, W.heap[r]? = some o ∧ (o.isCells = false ∨ ∃ cs fr, o = .cells cs T fr)) (h : W.heap[k]? = some (.cells cs t fr)) (ht : t ≠ T) : W'.heap[k]? = some (.cells cs t fr) := by
  refine (hg.block k (Array.getElem?_eq_some_iff.1 h).1 (fun e => ?_)).trans h
  obtain ⟨_, o, ho, hc⟩ := hr k e.symm
  rw [h] at ho
  cases ho
  rcases hc with hc | ⟨cs', fr', hc⟩
  · cases hc
  · cases hc; exact ht rfl
theorem turn_row {B B0 s k : Nat} {e T : TypeId} {W W' : World} {row : Option Nat} {v : Value} {xs : List Value} (hg : W.grownBy W' row)
    (hr : ∀ r, row = some r → B ≤ r ∧ ∃ o : Obj, W.heap[r]? = some o ∧ (o.isCells = false ∨ ∃ cs fr, o = .cells cs T fr)) (h : W.ownsRow B0 e s v k xs) (ht : e ≠ T) : W'.ownsRow B0 e s v k xs := by
  refine ⟨h.1, ?_⟩
  rcases h.2 with hn | ⟨g, cap, cur, rfl, hB, hg', rest⟩
  · exact .inl hn
  · exact .inr ⟨g, cap, cur, rfl, hB, turn_keep hg hr hg' ht, rest⟩
theorem turn_below {B n₀ : Nat} {T : TypeId} {w W W' : World} {row : Option Nat} (hg : W.grownBy W' row)
    (hr : ∀ r, row = some r → B ≤ r ∧ ∃ o : Obj, W.heap[r]? = some o ∧ (o.isCells = false ∨ ∃ cs fr, o = .cells cs T fr)) (hB : n₀ ≤ B) (hn : n₀ ≤ W.heap.size) (h : Below n₀ w W) : Below n₀ w W' :=
  h.grown hg hn (fun k e => Nat.le_trans hB (hr k e).1)
/-- What a step leaves as it was that writes the boxes Bs and a row of T at or beyond base. -/
structure LeavesT (T : TypeId) (Bs : Nat → Prop) (base : Nat) (W W' : World) : Prop where
  size : W.heap.size ≤ W'.heap.size
  same : ∀ (j : Nat) (o : Obj), W.heap[j]? = some o → ¬ Bs j → (j < base ∨ ∀ cs fr, o ≠ .cells cs T fr) → W'.heap[j]? = some o
theorem LeavesT.trans {T : TypeId} {Bs : Nat → Prop} {base : Nat} {X Y Z : World} (h : LeavesT T Bs base X Y) (k : LeavesT T Bs base Y Z) : LeavesT T Bs base X Z :=
  ⟨Nat.le_trans h.size k.size, fun j o hj hb ho => k.same j o (h.same j o hj hb ho) hb ho⟩
theorem LeavesT.below {T : TypeId} {Bs : Nat → Prop} {base : Nat} {W W' : World} (h : Below W.heap.size W W') : LeavesT T Bs base W W' :=
  ⟨h.size, fun j o hj _ _ => (h.block j (Array.getElem?_eq_some_iff.1 hj).1).trans hj⟩
theorem LeavesT.setCell {T : TypeId} {Bs : Nat → Prop} {base : Nat} (W : World) {B : Nat} (hB : Bs B) (u : Value) : LeavesT T Bs base W (W.setCell ⟨B, 0, none⟩ u) :=
  ⟨(KeepsWalks.setCell W _ u).size, fun j o hj hb _ => (Below.heap_setCell W ⟨B, 0, none⟩ u j (fun e => by subst e; exact hb hB)).trans hj⟩
theorem LeavesT.alloc {T : TypeId} {Bs : Nat → Prop} {base : Nat} (W : World) (o : Obj) : LeavesT T Bs base W (W.alloc o) :=
  ⟨by simp, fun j o' hj _ _ => (Below.heap_alloc W o j (Array.getElem?_eq_some_iff.1 hj).1).trans hj⟩
theorem LeavesT.append {T : TypeId} {Bs : Nat → Prop} {base s : Nat} {W w1 : World} {v : Value} {k : Nat} {xs : List Value} (hrow : W.ownsRow base T s v k xs) (hgrow : W.grownBy w1 v.ownBlock) : LeavesT T Bs base W w1 := by
  refine ⟨hgrow.size, fun j o hj hb ho => (hgrow.block j (Array.getElem?_eq_some_iff.1 hj).1 ?_).trans hj⟩
  rcases hrow.2 with ⟨rfl, _⟩ | ⟨g, cap, cur, rfl, hbg, hg, _⟩
  · simp [Value.ownBlock]
  · intro e'
    obtain rfl : j = g := by simpa [Value.ownBlock] using e'
    rcases ho with h | h
    · omega
    · rw [hg] at hj; cases hj; exact h _ _ rfl
theorem LeavesT.keeps {T : TypeId} {Bs : Nat → Prop} {base B : Nat} {W W' : World} (h : LeavesT T Bs base W W') (hb : ∀ j, Bs j → j < B) : KeepsFrom B W W' :=
  ⟨h.size, fun j o hB hj ho => h.same j o hj (fun hh => by have := hb j hh; omega) (.inr (fun cs fr e => by subst e; cases ho))⟩
/-- What a round keeps: what lay below, and the boxes named. -/
structure KP (n₀ : Nat) (Bs : Nat → Prop) (W W' : World) : Prop where
  below : Below n₀ W W'
  box : ∀ (k : Nat) (o : Obj), Bs k → W.heap[k]? = some o → W'.heap[k]? = some o
theorem KP.refl (n₀ : Nat) (Bs : Nat → Prop) (W : World) : KP n₀ Bs W W := ⟨Below.refl _ _, fun _ _ _ h => h⟩
theorem KP.trans {n₀ : Nat} {Bs : Nat → Prop} {A B C : World} (h : KP n₀ Bs A B) (k : KP n₀ Bs B C) : KP n₀ Bs A C := ⟨h.below.trans k.below, fun i o hi ho => k.box i o hi (h.box i o hi ho)⟩
theorem KP.of_below {n₀ : Nat} {Bs : Nat → Prop} {W W' : World} (hn : n₀ ≤ W.heap.size) (h : Below W.heap.size W W') : KP n₀ Bs W W' :=
  ⟨h.mono hn, fun k o _ hk => (h.block k (Array.getElem?_eq_some_iff.1 hk).1).trans hk⟩
end Go.Proofs.YtfkmfccdhmnllaaDoor
end

section
namespace Go.Proofs.YtfkmfccdhmnllaaDoor
open Go.RowKit Go Go.Sort
set_option linter.unusedVariables false
set_option maxRecDepth 20000

attribute [local go_sem] Oper.semAt_some
theorem text_nilb (k : List UInt8) : ((text k).toList == []) = (k == []) := by rw [text_toList]
theorem key_nil {k : List UInt8} (h : (k == []) = true) : keyS k = 2 := by
  have : k = [] := by simpa using h
  unfold keyS; rw [if_pos this]
theorem key_long {k : List UInt8} (h : (k == []) = false) (h2 : 32 < k.length) : keyS k = 3 := by
  have : ¬ k = [] := by simpa using h
  unfold keyS; rw [if_neg this, if_pos h2]
theorem key_ok {k : List UInt8} (h : (k == []) = false) (h2 : ¬ 32 < k.length) : keyS k = 0 := by
  have : ¬ k = [] := by simpa using h
  unfold keyS; rw [if_neg this, if_neg h2]

/-- Between two rounds; how a round may leave. -/
def GoodI (gs : List Grp) (cs : List Cl) (n₀ base : Nat) (w : World) (xs : List Nat) (W : World) : Prop :=
  Boxed W (n₀ + 1) 35 (.int .i64 0) ∧ (∀ j, j < xs.length → cgAt gs cs j = true) ∧ Below n₀ w W ∧ base ≤ W.heap.size
def GoodX (gs : List Grp) (cs : List Cl) (m n₀ base : Nat) (w : World) (c : Code) (xs : List Nat) (W : World) : Prop :=
  c = .ret ∧ Boxed W (n₀ + 1) 35 (.int .i64 80) ∧ (∃ j, j < m ∧ cgAt gs cs j = false) ∧ Below n₀ w W ∧ base ≤ W.heap.size
theorem GoodI.own {gs : List Grp} {cs : List Cl} {n₀ base B : Nat} {w : World} (h1 : n₀ ≤ B) (h2 : n₀ ≤ base) : OwnT B 65 (GoodI gs cs n₀ base w) := by
  rintro xs X Y row ⟨hb, hx, hw, hs⟩ hg hr
  exact ⟨turn_keep hg hr hb (by decide), hx, turn_below hg hr h1 (Nat.le_trans h2 hs) hw, Nat.le_trans hs hg.size⟩
theorem GoodX.own {gs : List Grp} {cs : List Cl} {m n₀ base B : Nat} {w : World} (c : Code) (h1 : n₀ ≤ B) (h2 : n₀ ≤ base) : OwnFrom B (GoodX gs cs m n₀ base w c) := by
  have : OwnT B 65 (GoodX gs cs m n₀ base w c) := by
    rintro xs X Y row ⟨hc, hb, hx, hw, hs⟩ hg hr
    exact ⟨hc, turn_keep hg hr hb (by decide), hx, turn_below hg hr h1 (Nat.le_trans h2 hs) hw, Nat.le_trans hs hg.size⟩
  exact this.from
/-- A round's own place: at a block's head. -/
def placeA (gs : List Grp) (cs : List Cl) (k : Nat) : Array Value := #[.int .i64 (k : Int), .int .i64 (gs.getD k ([], 0)).2, .int .i64 (cs.getD k Cl.zero).n, .int .i64 (cs.getD k Cl.zero).s, .int .i64 (cs.getD k Cl.zero).a, .int .i64 (cs.getD k Cl.zero).b, .bool (cs.getD k Cl.zero).g, .string (text (cs.getD k Cl.zero).t), .int .i64 (cs.getD k Cl.zero).d, .int .i64 (cs.getD k Cl.zero).e]
def PlaceA (gs : List Grp) (cs : List Cl) (tm : Nat → Nat → Array Value) (k : Nat) (a' : Act) (W : World) : Prop := ∃ q, W.heap[q]? = some (.cells (placeA gs cs k) 110 (0, 0)) ∧ a' = { tmps := tm q k, defers := [] }
theorem PlaceA.own {gs : List Grp} {cs : List Cl} {tm : Nat → Nat → Array Value} {B : Nat} (k : Nat) (a' : Act) : OwnFrom B (fun (_ : Unit) W => PlaceA gs cs tm k a' W) := by
  rintro s X Y row ⟨q, h1, h2⟩ hg hr
  refine ⟨q, (hg.block q (Array.getElem?_eq_some_iff.1 h1).1 (fun e => ?_)).trans h1, h2⟩
  obtain ⟨_, o, ho, hc⟩ := hr q e.symm
  rw [h1] at ho; cases ho; cases hc

end Go.Proofs.YtfkmfccdhmnllaaDoor
end

section
namespace Go.Proofs.YtfkmfccdhmnllaaDoor
open Go.RowKit Go Go.Sort
set_option linter.unusedVariables false
set_option maxRecDepth 20000

abbrev Fld := Int × List UInt8
/-- A list of fields that lies in memory. -/
structure Flds (w : World) (a : Option Addr) (n cap : Nat) (l : List Fld) : Prop where
  len : l.length = n
  le : n ≤ cap
  max : cap ≤ 9223372036854775807
  adr : cap = 0 ∨ ∃ b off, a = some ⟨b, off, none⟩ ∧ ∀ i, i < n → w.cell? ⟨b, off + i * 2, none⟩ = some (.int .i64 (l.getD i (0, [])).1) ∧ w.cell? ⟨b, off + i * 2 + 1, none⟩ = some (.string (text (l.getD i (0, [])).2))
theorem Flds.below {w w' : World} {a : Option Addr} {n cap : Nat} {l : List Fld} (h : Flds w a n cap l) (hb : Below w.heap.size w w') : Flds w' a n cap l := by
  refine ⟨h.len, h.le, h.max, ?_⟩
  rcases h.adr with h4 | ⟨b, off, rfl, hc⟩
  · exact .inl h4
  · refine .inr ⟨b, off, rfl, fun i hi => ?_⟩
    obtain ⟨h1, h2⟩ := hc i hi
    exact ⟨by rw [hb.cell (World.block_lt_of_cell? w _ h1)]; exact h1, by rw [hb.cell (World.block_lt_of_cell? w _ h2)]; exact h2⟩
theorem Flds.at {w : World} {a : Option Addr} {n cap : Nat} {l : List Fld} (h : Flds w a n cap l) {k : Nat} (hk : k < n) :
    ∃ b off, a = some ⟨b, off, none⟩ ∧ ∀ W, Below w.heap.size w W → W.cell? ⟨b, off + k * 2, none⟩ = some (.int .i64 (l.getD k (0, [])).1) ∧ W.cell? ⟨b, off + k * 2 + 1, none⟩ = some (.string (text (l.getD k (0, [])).2)) := by
  have := h.le
  rcases h.adr with h4 | ⟨b, off, rfl, hc⟩
  · omega
  · exact ⟨b, off, rfl, fun W hb => ⟨by rw [hb.cell (World.block_lt_of_cell? w _ (hc k hk).1)]; exact (hc k hk).1, by rw [hb.cell (World.block_lt_of_cell? w _ (hc k hk).2)]; exact (hc k hk).2⟩⟩
end Go.Proofs.YtfkmfccdhmnllaaDoor
end

section
namespace Go.Proofs.YtfkmfccdhmnllaaDoor
open Go.RowKit Go Go.Sort
set_option linter.unusedVariables false
set_option maxRecDepth 20000

theorem own_set {W : World} {q i B s k : Nat} {e t : TypeId} {cs : Array Value} {fr : Nat × Nat} {v u : Value} {xs : List Value} (h : W.heap[q]? = some (.cells cs t fr)) (ht : t ≠ e) (ho : W.ownsRow B e s v k xs) : (W.setCell ⟨q, i, none⟩ u).ownsRow B e s v k xs := by
  refine ⟨ho.1, ?_⟩
  rcases ho.2 with hn | ⟨g, cap, cur, rfl, hB, hg, rest⟩
  · exact .inl hn
  · exact .inr ⟨g, cap, cur, rfl, hB, (Below.heap_setCell W ⟨q, i, none⟩ u g (fun e' => by subst e'; rw [h] at hg; cases hg; exact ht rfl)).trans hg, rest⟩
attribute [local go_sem] Oper.semAt_some
end Go.Proofs.YtfkmfccdhmnllaaDoor
end

section
namespace Go.Proofs.YtfkmfccdhmnllaaDoor
open Go.RowKit Go Go.Sort
set_option linter.unusedVariables false
set_option maxRecDepth 20000

attribute [local go_sem] Oper.semAt_some
/-- A row's bytes up to a group. -/
def rlayN (gs : List Grp) (key : List UInt8) (cs : List Cl) : Nat → List UInt8
  | 0 => putTextS [] key
  | k + 1 => cputS (rlayN gs key cs k) (gs.getD k ([], 0)).2 (cs.getD k Cl.zero)
/-- Between two rounds. -/
def LayI (gs : List Grp) (key : List UInt8) (cs : List Cl) (n₀ G0 base : Nat) (w : World) (xs : List Nat) (W : World) : Prop :=
  ∃ vb, Boxed W G0 50 vb ∧ OwnB W n₀ 5 vb (rlayN gs key cs xs.length) ∧ Below n₀ w W ∧ base ≤ W.heap.size
theorem LayI.own {gs : List Grp} {cs : List Cl} {key : List UInt8} {n₀ G0 base B9 : Nat} {w : World} (h1 : n₀ ≤ B9) (h2 : n₀ ≤ base) : OwnT B9 65 (LayI gs key cs n₀ G0 base w) := by
  rintro xs X Y row ⟨vb, hb, ho, hw, hs⟩ hg hr
  exact ⟨vb, turn_keep hg hr hb (by decide), turn_row hg hr ho (by decide), turn_below hg hr h1 (Nat.le_trans h2 hs) hw, Nat.le_trans hs hg.size⟩

end Go.Proofs.YtfkmfccdhmnllaaDoor
end

section
namespace Go.Proofs.YtfkmfccdhmnllaaDoor
open Go.RowKit Go Go.Sort
set_option linter.unusedVariables false
set_option maxRecDepth 20000

/-- A row with cells of the call's own, and a number. -/
def RowPost (r : List UInt8 × List Cl × Int) (w : World) (e : Ending) (w' : World) : Prop :=
  ∃ v, e = .returned (.tuple #[.agg #[.string (text r.1), v], .int .i64 r.2.2]) ∧ OwnC w' w.heap.size v r.2.1 ∧ Below w.heap.size w w'
end Go.Proofs.YtfkmfccdhmnllaaDoor
end

section
namespace Go.Proofs.YtfkmfccdhmnllaaDoor
open Go.RowKit Go Go.Sort
set_option linter.unusedVariables false
set_option maxRecDepth 20000

set_option maxHeartbeats 1600000 in
theorem rkey_c (key : List UInt8) (hk : key.length ≤ 9223372036854775807) (w : World) : Calls Tryd.prog 68 #[.string (text key)] w (fun e w' => e = .returned (.int .i64 (keyS key)) ∧ w' = w) := by
  have hts := text_nilb key
  have hsz : ((text key).size : Int) = (key.length : Int) := by rw [text_size]
  have HK2 := Lib.hid (@key_nil key)
  have HK3 := Lib.hid (@key_long key)
  have HK0 := Lib.hid (@key_ok key)
  obtain ⟨K0, hK⟩ : ∃ z, keyS key = z := ⟨_, rfl⟩
  obtain ⟨kb, hkb⟩ : ∃ z, (key == []) = z := ⟨_, rfl⟩
  obtain ⟨kl, hkl⟩ : ∃ z, key.length = z := ⟨_, rfl⟩
  obtain ⟨tk, htk⟩ : ∃ z, text key = z := ⟨_, rfl⟩
  rw [hK, htk]
  simp only [hkb, hkl, hK] at HK2 HK3 HK0
  rw [hkb, htk] at hts
  rw [hkl, htk] at hsz
  clear hK hkb hkl htk hk
  cases kb with
  | true =>
    have HR := Lib.hid (HK2.out rfl)
    go_enter Tryd.func68, Tryd.ntmps68
    go_wp2
    go_ret
    exact ⟨by rw [HR.out]; rfl, rfl⟩
  | false =>
    by_cases h2 : 32 < kl
    · have h2i : (32 : Int) < (kl : Int) := by omega
      have HR := Lib.hid (HK3.out rfl h2)
      go_enter Tryd.func68, Tryd.ntmps68
      go_wp2
      go_ret
      exact ⟨by rw [HR.out]; rfl, rfl⟩
    · have h2i : ¬ (32 : Int) < (kl : Int) := by omega
      have HR := Lib.hid (HK0.out rfl h2)
      go_enter Tryd.func68, Tryd.ntmps68
      go_wp2
      go_ret
      exact ⟨by rw [HR.out]; rfl, rfl⟩

end Go.Proofs.YtfkmfccdhmnllaaDoor
end

section
namespace Go.Proofs.YtfkmfccdhmnllaaDoor
open Go.RowKit Go Go.Sort
set_option linter.unusedVariables false
set_option maxRecDepth 20000

/-- The example's schema. -/
def exG : List Grp := [([97], 1), ([98], 2)]
def schO : Obj := .cells #[.string ⟨#[97]⟩, .int .i64 1, .string ⟨#[98]⟩, .int .i64 2] 65 (0, 0)
/-- The schema in memory. -/
def SchV (v : Value) (W : World) : Prop := ∃ q, v = .slice (some ⟨q, 0, none⟩) 2 2 ∧ W.heap[q]? = some schO
theorem SchV.kept {v : Value} {X Y : World} (h : SchV v X) (hb : Below X.heap.size X Y) : SchV v Y := by
  obtain ⟨q, h1, h2⟩ := h
  exact ⟨q, h1, (hb.block _ (Array.getElem?_eq_some_iff.1 h2).1).trans h2⟩
theorem SchV.grs {v : Value} {W : World} (h : SchV v W) : ∃ q, v = .slice (some ⟨q, 0, none⟩) 2 2 ∧ Grs W (some ⟨q, 0, none⟩) 2 2 exG := by
  obtain ⟨q, h1, h2⟩ := h
  refine ⟨q, h1, rfl, Nat.le_refl _, by omega, .inr ⟨q, 0, rfl, fun i hi => ?_⟩⟩
  have hc := fun j => cell_of_row W q j #[.string ⟨#[97]⟩, .int .i64 1, .string ⟨#[98]⟩, .int .i64 2] 65 (0, 0) h2
  rcases (by omega : i = 0 ∨ i = 1) with rfl | rfl
  · exact ⟨(hc 0).trans rfl, (hc 1).trans rfl⟩
  · exact ⟨(hc 2).trans rfl, (hc 3).trans rfl⟩
end Go.Proofs.YtfkmfccdhmnllaaDoor
end

section
namespace Go.Proofs.YtfkmfccdhmnllaaDoor
open Go.RowKit Go Go.Sort
set_option linter.unusedVariables false
set_option maxRecDepth 20000

/-- A sum that is asked about up to 5000. -/
def satN (n k : Nat) : Nat := if n + k ≤ 5000 then n + k else 5001
theorem satN_le (n k : Nat) : satN n k ≤ 5001 := by unfold satN; split <;> omega
theorem satN_full {n : Nat} (h : 5000 < n) (k : Nat) : satN n k = 5001 := by unfold satN; rw [if_neg (by omega)]
set_option maxHeartbeats 1600000 in
theorem radd_c (n k : Nat) (hn : n ≤ 5001) (hk : k ≤ 9223372036854775807) (w : World) : Calls Tryd.prog 27 #[.int .i64 (n : Int), .int .i64 (k : Int), .int .i64 5000] w (fun e w' => e = .returned (.int .i64 ((satN n k : Nat) : Int)) ∧ w = w') := by
  obtain ⟨R, hR⟩ : ∃ R, satN n k = R := ⟨_, rfl⟩
  rw [hR]
  unfold satN at hR
  by_cases h1 : 5000 < n
  · have h1i : (5000 : Int) < (n : Int) := by omega
    obtain rfl : 5001 = R := by rw [← hR, if_neg (by omega)]
    clear hR
    go_enter Tryd.func27, Tryd.ntmps27
    go_wp2
    go_ret
    exact ⟨rfl, rfl⟩
  · have h1i : ¬ (5000 : Int) < (n : Int) := by omega
    by_cases h2 : 5000 < k
    · have h2i : (5000 : Int) < (k : Int) := by omega
      obtain rfl : 5001 = R := by rw [← hR, if_neg (by omega)]
      clear hR
      go_enter Tryd.func27, Tryd.ntmps27
      go_wp2
      go_ret
      exact ⟨rfl, rfl⟩
    · have h2i : ¬ (5000 : Int) < (k : Int) := by omega
      have hs1 : 5000 - (k : Int) ≤ 9223372036854775807 := by omega
      have hs2 : -9223372036854775808 ≤ 5000 - (k : Int) := by omega
      by_cases h3 : n + k ≤ 5000
      · have h3i : ¬ 5000 - (k : Int) < (n : Int) := by omega
        have HR := Lib.hid (show (n : Int) + (k : Int) = (R : Int) by rw [← hR, if_pos h3]; omega)
        have ha1 : (n : Int) + (k : Int) ≤ 9223372036854775807 := by omega
        clear hR
        go_enter Tryd.func27, Tryd.ntmps27
        go_wp2
        go_ret
        exact ⟨by rw [← HR.out]; go_num, rfl⟩
      · have h3i : 5000 - (k : Int) < (n : Int) := by omega
        obtain rfl : 5001 = R := by rw [← hR, if_neg (by omega)]
        clear hR
        go_enter Tryd.func27, Tryd.ntmps27
        go_wp2
        go_ret
        exact ⟨rfl, rfl⟩
end Go.Proofs.YtfkmfccdhmnllaaDoor
end

section
namespace Go.Proofs.YtfkmfccdhmnllaaDoor
open Go.RowKit Go Go.Sort
set_option linter.unusedVariables false
set_option maxRecDepth 20000

/-- Rows in memory, one behind the other. -/
def RowsAt (W : World) (q : Nat) (rows : List (List UInt8 × List Cl)) : Prop :=
  ∀ i, i < rows.length → ∃ a m c, W.cell? ⟨q, i * 2, none⟩ = some (.string (text (rows.getD i ([], [])).1)) ∧ W.cell? ⟨q, i * 2 + 1, none⟩ = some (.slice a m c) ∧ Cls W a m c (rows.getD i ([], [])).2
theorem RowsAt.below {W W' : World} {q : Nat} {rows : List (List UInt8 × List Cl)} (h : RowsAt W q rows) (hb : Below W.heap.size W W') : RowsAt W' q rows := by
  intro i hi
  obtain ⟨a, m, c, h1, h2, h3⟩ := h i hi
  exact ⟨a, m, c, by rw [hb.cell (World.block_lt_of_cell? W _ h1)]; exact h1, by rw [hb.cell (World.block_lt_of_cell? W _ h2)]; exact h2, h3.below hb⟩
end Go.Proofs.YtfkmfccdhmnllaaDoor
end

section
namespace Go.Proofs.YtfkmfccdhmnllaaDoor
open Go.RowKit Go Go.Sort
set_option linter.unusedVariables false
set_option maxRecDepth 20000

theorem heap_below {W W' : World} {q : Nat} {o : Obj} (h : W.heap[q]? = some o) (hb : Below W.heap.size W W') : W'.heap[q]? = some o := (hb.block _ (Array.getElem?_eq_some_iff.1 h).1).trans h
/-- New and View, as a law's walk wants them. -/
theorem RowPost.cells {r : List UInt8 × List Cl × Int} {w : World} {e : Ending} {w' : World} (h : RowPost r w e w') : ∃ a c, e = .returned (.tuple #[.agg #[.string (text r.1), .slice a r.2.1.length c], .int .i64 r.2.2]) ∧ Cls w' a r.2.1.length c r.2.1 ∧ Below w.heap.size w w' := by
  obtain ⟨v, rfl, ho, hb⟩ := h
  obtain ⟨a, c, rfl, hc⟩ := ho.cls
  exact ⟨a, c, rfl, hc, hb⟩
end Go.Proofs.YtfkmfccdhmnllaaDoor
end

section
namespace Go.Proofs.YtfkmfccdhmnllaaDoor
open Go.RowKit Go Go.Sort
set_option linter.unusedVariables false
set_option maxRecDepth 20000

/-- A write: key, group, whether it is gone, value. -/
structure Wr where
  k : List UInt8
  i : Int
  g : Bool
  v : List UInt8
def Wr.zero : Wr := ⟨[], 0, false, []⟩
def Wr.arr (c : Wr) : Array Value := #[.string (text c.k), .int .i64 c.i, .bool c.g, .string (text c.v)]
theorem wr_size (c : Wr) : c.arr.size = 4 := rfl
/-- A list of writes in memory; one of the call's own. -/
abbrev Wrs := Ls 4 Wr.arr Wr.zero
abbrev OwnW := OwnL 4 31 Wr.arr
theorem wr_at {W : World} {b o : Nat} {c : Wr} (h : ∀ j v, c.arr[j]? = some v → W.cell? ⟨b, o + j, none⟩ = some v) : W.cell? ⟨b, o, none⟩ = some (.string (text c.k)) ∧ W.cell? ⟨b, o + 1, none⟩ = some (.int .i64 c.i) ∧ W.cell? ⟨b, o + 2, none⟩ = some (.bool c.g) ∧ W.cell? ⟨b, o + 3, none⟩ = some (.string (text c.v)) :=
  ⟨h 0 _ rfl, h 1 _ rfl, h 2 _ rfl, h 3 _ rfl⟩
theorem Wrs.place {w : World} {a : Option Addr} {n cap : Nat} {l : List Wr} (h : Wrs w a n cap l) {k : Nat} (hk : k < n) : ∃ b off, a = some ⟨b, off, none⟩ ∧ ∀ W, Below w.heap.size w W → W.cell? ⟨b, off + k * 4, none⟩ = some (.string (text (l.getD k Wr.zero).k)) ∧ W.cell? ⟨b, off + k * 4 + 1, none⟩ = some (.int .i64 (l.getD k Wr.zero).i) ∧ W.cell? ⟨b, off + k * 4 + 2, none⟩ = some (.bool (l.getD k Wr.zero).g) ∧ W.cell? ⟨b, off + k * 4 + 3, none⟩ = some (.string (text (l.getD k Wr.zero).v)) := by
  obtain ⟨b, off, rfl, hat⟩ := h.at hk
  exact ⟨b, off, rfl, fun W hb => wr_at (hat W hb)⟩
theorem OwnL.wrs {w : World} {B : Nat} {v : Value} {l : List Wr} (h : OwnW w B v l) : ∃ a cap, v = .slice a l.length cap ∧ Wrs w a l.length cap l := h.ls wr_size
theorem wr_cells {W : World} {q : Nat} {k : List UInt8} {i : Int} {g : Bool} {v : List UInt8} (h : W.heap[q]? = some (.cells #[.string (text k), .int .i64 i, .bool g, .string (text v)] 31 (0, 0))) : W.cell? ⟨q, 0, none⟩ = some (.string (text k)) ∧ W.cell? ⟨q, 1, none⟩ = some (.int .i64 i) ∧ W.cell? ⟨q, 2, none⟩ = some (.bool g) ∧ W.cell? ⟨q, 3, none⟩ = some (.string (text v)) := by
  refine ⟨?_, ?_, ?_, ?_⟩ <;> (rw [cell_of_row _ q _ _ _ (0, 0) h]; rfl)
theorem Tryd.infoW : (Tryd.prog.info? 31).map (fun i => (i.zero, i.size, i.bytes)) = some (some (.agg #[.string ⟨#[]⟩, .int .i64 0, .bool false, .string ⟨#[]⟩]), 4, 48) := by kernel_rfl
/-- append(l, w), l of the call's own. -/
theorem wpList_append_wr {w : World} {ops : Array Oper} {rest : List Oper} {o : Oper} {ac : Act} {Q : Exit → Act → World → Prop} (hgd : o.guard = none) (os ox : Operand)
    (ho : o.op = .call { callee := .builtin .append, args := #[os, ox], argTypes := #[27, 27] })
    {base : Nat} {u : Value} {l : List Wr} (hs : ac.eval os = u) (hown : OwnW w base u l) (k : List UInt8) (i : Int) (g : Bool) (v : List UInt8) {e9 : TypeId}
    (hx : ac.eval ox = .slice (some ⟨w.heap.size, 0, none⟩) 1 1) (h63 : l.length ≤ 1000000000) (hbase : base ≤ w.heap.size)
    (h : ∀ v' w', OwnW w' base v' (l ++ [⟨k, i, g, v⟩]) → (w.alloc (.cells #[.string (text k), .int .i64 i, .bool g, .string (text v)] e9)).grownBy w' u.ownBlock → wpList Tryd.prog ops Q rest (ac.put o.dst v') w') :
    wpList Tryd.prog ops Q (o :: rest) ac (w.alloc (.cells #[.string (text k), .int .i64 i, .bool g, .string (text v)] e9)) := by
  obtain ⟨i0, hi, hz0, hz1, hz2⟩ := info_parts Tryd.infoW
  refine wpList_append_el hgd os ox 27 31 i0 _ 48 ho Tryd.underlying27 hi hz0 hz1 hz2 rfl (by decide) hs hown ⟨k, i, g, v⟩ rfl rfl ?_ hx (by unfold maxLen; omega) (by omega) hbase h
  intro u hu
  have hu : u ∈ [Value.string (text k), .int .i64 i, .bool g, .string (text v)] := hu
  simp only [List.mem_cons, List.not_mem_nil, or_false] at hu
  rcases hu with rfl | rfl | rfl | rfl <;> rfl
/-- P12's order of writes: by key, then by group. -/
def aheadS (a b : Wr) : Bool := if (a.k == b.k) = false then Op.bytesLess a.k b.k else decide (a.i < b.i)

set_option maxHeartbeats 3200000 in
theorem rahead_c (k : List UInt8) (i : Int) (g : Bool) (v : List UInt8) (k' : List UInt8) (i' : Int) (g' : Bool) (v' : List UInt8) (w : World) : Calls Tryd.prog 40 #[.agg #[.string (text k), .int .i64 i, .bool g, .string (text v)], .agg #[.string (text k'), .int .i64 i', .bool g', .string (text v')]] w (Tells (.bool (aheadS ⟨k, i, g, v⟩ ⟨k', i', g', v'⟩)) w) := by
  have hp := heap_below (heap_alloc_new w (.cells #[.string (text k), .int .i64 i, .bool g, .string (text v)] 31)) (alloc_below (w.alloc (.cells #[.string (text k), .int .i64 i, .bool g, .string (text v)] 31)) (.cells #[.string (text k'), .int .i64 i', .bool g', .string (text v')] 31))
  have hq := heap_alloc_new (w.alloc (.cells #[.string (text k), .int .i64 i, .bool g, .string (text v)] 31)) (.cells #[.string (text k'), .int .i64 i', .bool g', .string (text v')] 31)
  simp only [World.size_alloc] at hq
  have HB := Lib.hid ((alloc_below w (.cells #[.string (text k), .int .i64 i, .bool g, .string (text v)] 31)).alloc (by simp) (.cells #[.string (text k'), .int .i64 i', .bool g', .string (text v')] 31))
  have HV := Lib.hid (show aheadS ⟨k, i, g, v⟩ ⟨k', i', g', v'⟩ = if (k == k') = false then Op.bytesLess k k' else decide (i < i') from rfl)
  obtain ⟨r, hr⟩ : ∃ r, aheadS ⟨k, i, g, v⟩ ⟨k', i', g', v'⟩ = r := ⟨_, rfl⟩
  rw [hr] at HV ⊢
  have hte := text_eqb k k'
  have htl := text_lss k k'
  obtain ⟨p0, p1, -⟩ := wr_cells hp
  obtain ⟨q0, q1, -⟩ := wr_cells hq
  obtain ⟨u, hu⟩ : ∃ u, text k = u := ⟨_, rfl⟩
  obtain ⟨u', hu'⟩ : ∃ u, text k' = u := ⟨_, rfl⟩
  simp only [hu, hu'] at hte htl HB p0 p1 q0 q1 ⊢
  clear hp hq hr hu hu'
  cases q3 : (k == k') with
  | false =>
    rw [q3] at HV hte
    obtain ⟨q5, hq5⟩ : ∃ q, Op.bytesLess k k' = q := ⟨_, rfl⟩
    rw [hq5] at HV htl
    clear q3 hq5
    go_enter Tryd.func40, Tryd.ntmps40
    go_wp2
    go_ret
    exact ⟨by rw [HV.out]; rfl, HB.out⟩
  | true =>
    rw [q3] at HV hte
    clear q3 htl
    go_enter Tryd.func40, Tryd.ntmps40
    go_wp2
    go_ret
    exact ⟨by rw [HV.out]; rfl, HB.out⟩
end Go.Proofs.YtfkmfccdhmnllaaDoor
end

section
namespace Go.Proofs.YtfkmfccdhmnllaaDoor
open Go.RowKit Go Go.Sort
set_option linter.unusedVariables false
set_option maxRecDepth 20000

theorem bys_from {W : World} {a : Option Addr} {n cap : Nat} {l : List UInt8} (h : Bys W a n cap l) {q : Nat} (hq : q ≤ n) :
    ∃ a', (∀ W', (Instr.slice 50 (.slice a n cap) (some (.int .i64 (q : Int))) none none).run Tryd.prog W' = .ok (.slice a' (n - q) (cap - q)) W') ∧
      (∀ W', (Instr.sliceAt 50 (.slice a n cap) (some (.int .i64 (q : Int))) none none).run Tryd.prog W' = .ok (.slice a' (n - q) (cap - q)) W') ∧ Bys W a' (n - q) (cap - q) (l.drop q) := by
  have hle := h.le
  have he : Tryd.prog.elem 50 = 5 := by kernel_rfl
  obtain ⟨i0, hi, hz0, hz1, hz2⟩ := info_parts Tryd.info5
  have key : ∃ a', (∀ W', (Instr.slice 50 (.slice a n cap) (some (.int .i64 (q : Int))) none none).run Tryd.prog W' = .ok (.slice a' (n - q) (cap - q)) W') ∧ Bys W a' (n - q) (cap - q) (l.drop q) := by
    by_cases hc : cap = q
    · refine ⟨a, fun W' => ?_, h.dropEnd hq hc⟩
      rw [run_slice_l W' 50 a n cap (by kernel_rfl) .i64 (q : Int) (by omega) (by omega), he]
      have hsz : (sizeOf 5).run Tryd.prog W' = .ok 1 W' := by simp [sizeOf, typeInfo, hi, hz1, go_sem]
      rw [hsz]
      simp only [Result.andThen_ok, sliced, Int.toNat_natCast, Nat.mul_one]
      rw [if_pos hc]
    · refine ⟨a.map (fun x => x.add q), fun W' => ?_, h.drop hq⟩
      rw [run_slice_l W' 50 a n cap (by kernel_rfl) .i64 (q : Int) (by omega) (by omega), he]
      have hsz : (sizeOf 5).run Tryd.prog W' = .ok 1 W' := by simp [sizeOf, typeInfo, hi, hz1, go_sem]
      rw [hsz]
      simp only [Result.andThen_ok, sliced, Int.toNat_natCast, Nat.mul_one]
      rw [if_neg hc]
  obtain ⟨a', h1, h2⟩ := key
  refine ⟨a', h1, fun W' => ?_, h2⟩
  rw [run_sliceAt_slice _ _ _ _ _ _ (by kernel_rfl)]
  exact h1 W'
theorem textS_ok (l : List UInt8) (m : Int) (h : (textS l m).2.2 = 0) : ∃ q : Nat, (textS l m).2.1 = (q : Int) ∧ q ≤ l.length ∧ ((textS l m).1.length : Int) ≤ m := by
  unfold textS at h ⊢
  by_cases he : (getS l).2.2 = 0
  · obtain ⟨q, hq, hq1, hq2, hv0, hv1⟩ := getS_ok l he
    rw [if_neg (by omega)] at h ⊢
    by_cases c1 : m < (getS l).1
    · rw [if_pos c1] at h; cases h
    · rw [if_neg c1] at h ⊢
      by_cases c2 : (l.length : Int) - (getS l).2.1 < (getS l).1
      · rw [if_pos c2] at h; cases h
      · rw [if_neg c2]
        refine ⟨q + (getS l).1.toNat, ?_, by omega, ?_⟩
        · simp only []; omega
        · simp only [List.length_take]; omega
  · rw [if_pos he] at h; exact absurd h he
/-- The write with which bytes begin, and where it ends. -/
def wgetS (l : List UInt8) : Option (Wr × Nat) :=
  if ¬ (textS l 32).2.2 = 0 then none
  else if ¬ (getS (l.drop (textS l 32).2.1.toNat)).2.2 = 0 then none
  else if ¬ (getS (l.drop ((textS l 32).2.1.toNat + (getS (l.drop (textS l 32).2.1.toNat)).2.1.toNat))).2.2 = 0 then none
  else if 1 < (getS (l.drop ((textS l 32).2.1.toNat + (getS (l.drop (textS l 32).2.1.toNat)).2.1.toNat))).1 then none
  else if (getS (l.drop ((textS l 32).2.1.toNat + (getS (l.drop (textS l 32).2.1.toNat)).2.1.toNat))).1 = 1 then
    some (⟨(textS l 32).1, (getS (l.drop (textS l 32).2.1.toNat)).1, true, []⟩, (textS l 32).2.1.toNat + (getS (l.drop (textS l 32).2.1.toNat)).2.1.toNat + (getS (l.drop ((textS l 32).2.1.toNat + (getS (l.drop (textS l 32).2.1.toNat)).2.1.toNat))).2.1.toNat)
  else
    if ¬ (textS (l.drop ((textS l 32).2.1.toNat + (getS (l.drop (textS l 32).2.1.toNat)).2.1.toNat + (getS (l.drop ((textS l 32).2.1.toNat + (getS (l.drop (textS l 32).2.1.toNat)).2.1.toNat))).2.1.toNat)) 64).2.2 = 0 then none
    else some (⟨(textS l 32).1, (getS (l.drop (textS l 32).2.1.toNat)).1, false, (textS (l.drop ((textS l 32).2.1.toNat + (getS (l.drop (textS l 32).2.1.toNat)).2.1.toNat + (getS (l.drop ((textS l 32).2.1.toNat + (getS (l.drop (textS l 32).2.1.toNat)).2.1.toNat))).2.1.toNat)) 64).1⟩,
      (textS l 32).2.1.toNat + (getS (l.drop (textS l 32).2.1.toNat)).2.1.toNat + (getS (l.drop ((textS l 32).2.1.toNat + (getS (l.drop (textS l 32).2.1.toNat)).2.1.toNat))).2.1.toNat + (textS (l.drop ((textS l 32).2.1.toNat + (getS (l.drop (textS l 32).2.1.toNat)).2.1.toNat + (getS (l.drop ((textS l 32).2.1.toNat + (getS (l.drop (textS l 32).2.1.toNat)).2.1.toNat))).2.1.toNat)) 64).2.1.toNat)
section
variable {l t v : List UInt8} {q1 q2 q3 q4 : Nat} {i g k f : Int}
theorem wget_1 (h : textS l 32 = (t, k, f)) (hf : ¬ f = 0) : wgetS l = none := by unfold wgetS; rw [h, if_pos hf]
theorem wget_2 (h1 : textS l 32 = (t, (q1 : Int), 0)) (h : getS (l.drop q1) = (i, k, f)) (hf : ¬ f = 0) : wgetS l = none := by
  unfold wgetS; simp only [h1, Int.toNat_natCast, h]; simp [hf]
theorem wget_3 (h1 : textS l 32 = (t, (q1 : Int), 0)) (h2 : getS (l.drop q1) = (i, (q2 : Int), 0)) (h : getS (l.drop (q1 + q2)) = (g, k, f)) (hf : ¬ f = 0) : wgetS l = none := by
  unfold wgetS; simp only [h1, Int.toNat_natCast, h2, h]; simp [hf]
theorem wget_4 (h1 : textS l 32 = (t, (q1 : Int), 0)) (h2 : getS (l.drop q1) = (i, (q2 : Int), 0)) (h : getS (l.drop (q1 + q2)) = (g, k, 0)) (hf : 1 < g) : wgetS l = none := by
  unfold wgetS; simp only [h1, Int.toNat_natCast, h2, h]; simp [hf]
theorem wget_5 (h1 : textS l 32 = (t, (q1 : Int), 0)) (h2 : getS (l.drop q1) = (i, (q2 : Int), 0)) (h : getS (l.drop (q1 + q2)) = (1, (q3 : Int), 0)) : wgetS l = some (⟨t, i, true, []⟩, q1 + q2 + q3) := by
  unfold wgetS; simp only [h1, Int.toNat_natCast, h2, h]; simp
theorem wget_6 (h1 : textS l 32 = (t, (q1 : Int), 0)) (h2 : getS (l.drop q1) = (i, (q2 : Int), 0)) (h3 : getS (l.drop (q1 + q2)) = (g, (q3 : Int), 0)) (hg : ¬ 1 < g) (hg1 : ¬ g = 1) (h : textS (l.drop (q1 + q2 + q3)) 64 = (v, k, f)) (hf : ¬ f = 0) : wgetS l = none := by
  unfold wgetS; simp only [h1, Int.toNat_natCast, h2, h3, h]; simp [hf, hg, hg1]
theorem wget_7 (h1 : textS l 32 = (t, (q1 : Int), 0)) (h2 : getS (l.drop q1) = (i, (q2 : Int), 0)) (h3 : getS (l.drop (q1 + q2)) = (g, (q3 : Int), 0)) (hg : ¬ 1 < g) (hg1 : ¬ g = 1) (h : textS (l.drop (q1 + q2 + q3)) 64 = (v, (q4 : Int), 0)) : wgetS l = some (⟨t, i, false, v⟩, q1 + q2 + q3 + q4) := by
  unfold wgetS; simp only [h1, Int.toNat_natCast, h2, h3, h]; simp [hg, hg1]
end
theorem wr_set {W : World} {q : Nat} {x0 x1 x2 x3 : Value} (h : W.heap[q]? = some (.cells #[x0, x1, x2, x3] 31 (0, 0))) (a b c d : Value) : ((((W.setCell ⟨q, 0, none⟩ a).setCell ⟨q, 1, none⟩ b).setCell ⟨q, 2, none⟩ c).setCell ⟨q, 3, none⟩ d).heap[q]? = some (.cells #[a, b, c, d] 31 (0, 0)) := by
  have h0 := heap_setCell_same W q 0 _ _ a h
  have h1 := heap_setCell_same _ q 1 _ _ b h0
  have h2 := heap_setCell_same _ q 2 _ _ c h1
  have h3 := heap_setCell_same _ q 3 _ _ d h2
  exact h3.trans rfl
theorem wr_any {W : World} {q : Nat} {x0 x1 x2 x3 : Value} (h : W.heap[q]? = some (.cells #[x0, x1, x2, x3] 31 (0, 0))) : (W.cell? ⟨q, 0, none⟩ = some x0 ∧ W.cell? ⟨q, 1, none⟩ = some x1 ∧ W.cell? ⟨q, 2, none⟩ = some x2 ∧ W.cell? ⟨q, 3, none⟩ = some x3) ∧ ∀ i, W.frozen? ⟨q, i, none⟩ = false := by
  refine ⟨⟨?_, ?_, ?_, ?_⟩, fun i => frozen_of_row _ q i _ _ h⟩ <;> (rw [cell_of_row _ q _ _ _ (0, 0) h]; rfl)
/-- A write off bytes, how many, and whether there is one. -/
def WGetPost (r : Option (Wr × Nat)) (w : World) (e : Ending) (w' : World) : Prop := ∃ (c : Wr) (k : Int) (ok : Bool), e = .returned (.tuple #[.agg c.arr, .int .i64 k, .bool ok]) ∧ Below w.heap.size w w' ∧ (ok = false → r = none) ∧ (ok = true → ∃ q : Nat, k = (q : Int) ∧ r = some (c, q))

set_option maxRecDepth 100000 in
set_option maxHeartbeats 12800000 in
theorem rwget_c {w : World} {ad : Option Addr} {m cap : Nat} {l : List UInt8} (hl : Bys w ad m cap l) : Calls Tryd.prog 86 #[.slice ad m cap] w (WGetPost (wgetS l) w) := by
  have hlen := hl.len
  have hle := hl.le
  have hmx := hl.max
  have hb := (alloc_below w (.cells #[.string ⟨#[]⟩, .int .i64 0, .bool false, .string ⟨#[]⟩] 31)).alloc (by simp) (.cells #[.string ⟨#[]⟩, .int .i64 0, .bool false, .string ⟨#[]⟩] 31)
  have hz : ((w.alloc (.cells #[.string ⟨#[]⟩, .int .i64 0, .bool false, .string ⟨#[]⟩] 31)).alloc (.cells #[.string ⟨#[]⟩, .int .i64 0, .bool false, .string ⟨#[]⟩] 31)).heap[w.heap.size]? = some (.cells #[.string ⟨#[]⟩, .int .i64 0, .bool false, .string ⟨#[]⟩] 31 (0, 0)) := (Below.heap_alloc _ _ _ (by simp)).trans (heap_alloc_new w _)
  have hq := heap_alloc_new (w.alloc (.cells #[.string ⟨#[]⟩, .int .i64 0, .bool false, .string ⟨#[]⟩] 31)) (.cells #[.string ⟨#[]⟩, .int .i64 0, .bool false, .string ⟨#[]⟩] 31)
  simp only [World.size_alloc] at hq
  have HLW := Lib.hid (fun W (h : Below w.heap.size w W) => hl.below h)
  obtain ⟨RV, hRV⟩ : ∃ z, wgetS l = z := ⟨_, rfl⟩
  rw [hRV]
  have HRV := Lib.hid hRV
  have htok := textS_ok l 32
  have hGT := fun W (h : Below w.heap.size w W) => rgettext_c (hl.below h) 32 (by omega) (by omega)
  obtain ⟨⟨t, kt, ft⟩, ht⟩ : ∃ z, textS l 32 = z := ⟨_, rfl⟩
  rw [ht] at htok
  simp only [ht] at hGT htok
  unfold RetT at hGT
  have HT := Lib.hid ht
  have HGT := Lib.hid hGT
  clear hRV ht hGT hl
  go_enter Tryd.func86, Tryd.ntmps86
  go_upto_region 2 with (fail)
  obtain ⟨B, hB⟩ : ∃ z, w.heap.size = z := ⟨_, rfl⟩
  have HBe := Lib.hid hB
  rw [hB] at hz hq ⊢
  clear hB
  generalize (w.alloc (.cells #[.string ⟨#[]⟩, .int .i64 0, .bool false, .string ⟨#[]⟩] 31)).alloc (.cells #[.string ⟨#[]⟩, .int .i64 0, .bool false, .string ⟨#[]⟩] 31) = W1 at *
  have HB1 := Lib.hid hb
  have HZ1 := Lib.hid hz
  have HQ1 := Lib.hid hq
  clear hz hq hb
  go_upto_region 3 with (go_at_call 116; (with_reducible refine (HGT.out _ HB1.out).mono ?_); rintro e9 w9 ⟨rfl, rfl⟩)
  by_cases h1 : ft = 0
  · subst h1
    obtain ⟨q1, hq1, hl1, -⟩ := htok (by first | rfl | trivial)
    subst hq1
    have hqm1 : q1 ≤ m := by omega
    obtain ⟨a1, hs1, hs2, hy1⟩ := bys_from (HLW.out W1 HB1.out) hqm1
    clear htok hs1 hs2 hy1 HGT
    obtain ⟨⟨x0, x1, x2, x3⟩, xf⟩ := wr_any HQ1.out
    go_upto_region 6 with (fail)
    have hq9 : (W1.setCell ⟨B + 1, 0, none⟩ (.string (text t))).heap[B + 1]? = some (.cells #[.string (text t), .int .i64 0, .bool false, .string ⟨#[]⟩] 31 (0, 0)) := (heap_setCell_same W1 (B + 1) 0 _ _ _ HQ1.out).trans rfl
    have hz9 := (Below.heap_setCell W1 ⟨B + 1, 0, none⟩ (.string (text t)) B (by simp)).trans HZ1.out
    have hb9 := HB1.out.setCell (p := ⟨B + 1, 0, none⟩) (by have := HBe.out; simp; omega) (.string (text t))
    generalize W1.setCell ⟨B + 1, 0, none⟩ (.string (text t)) = W2 at *
    have HB2 := Lib.hid hb9
    have HZ2 := Lib.hid hz9
    have HQ2 := Lib.hid hq9
    clear hq9 hz9 hb9 x0 x1 x2 x3 xf HB1 HZ1 HQ1
    obtain ⟨a1, hs1, hs2, hy1⟩ := bys_from (HLW.out W2 HB2.out) hqm1
    have hgok := getS_ok (l.drop q1)
    have hG := rget_c hy1
    obtain ⟨⟨i, k2, f2⟩, hg2⟩ : ∃ z, getS (l.drop q1) = z := ⟨_, rfl⟩
    rw [hg2] at hG hgok
    unfold Ret3 at hG
    simp only [List.length_drop, hlen] at hG hgok
    have HG := Lib.hid hG
    have HG2 := Lib.hid hg2
    clear hG hg2 hy1
    go_upto_region 7 with (go_at_call 83; (with_reducible refine HG.out.mono ?_); rintro e9 w9 ⟨rfl, rfl⟩)
    clear hs1 hs2 HG
    by_cases h2 : f2 = 0
    · subst h2
      obtain ⟨q2, hq2, hk1, hk2, hi0, hi1⟩ := hgok (by first | rfl | trivial)
      subst hq2
      have hqm2 : q1 + q2 ≤ m := by omega
      have hsum2 : (q1 : Int) + (q2 : Int) ≤ 9223372036854775807 := by omega
      obtain ⟨⟨x0, x1, x2, x3⟩, xf⟩ := wr_any HQ2.out
      go_upto_region 10 with (fail)
      have hq9 : (W2.setCell ⟨B + 1, 1, none⟩ (.int .i64 i)).heap[B + 1]? = some (.cells #[.string (text t), .int .i64 i, .bool false, .string ⟨#[]⟩] 31 (0, 0)) := (heap_setCell_same W2 (B + 1) 1 _ _ _ HQ2.out).trans rfl
      have hz9 := (Below.heap_setCell W2 ⟨B + 1, 1, none⟩ (.int .i64 i) B (by simp)).trans HZ2.out
      have hb9 := HB2.out.setCell (p := ⟨B + 1, 1, none⟩) (by have := HBe.out; simp; omega) (.int .i64 i)
      generalize W2.setCell ⟨B + 1, 1, none⟩ (.int .i64 i) = W3 at *
      have HB3 := Lib.hid hb9
      have HZ3 := Lib.hid hz9
      have HQ3 := Lib.hid hq9
      clear hq9 hz9 hb9 x0 x1 x2 x3 xf HB2 HZ2 HQ2
      go_upto_region 11 with (fail)
      obtain ⟨a1, hs1, hs2, hy1⟩ := bys_from (HLW.out W3 HB3.out) hqm2
      have hgok3 := getS_ok (l.drop (q1 + q2))
      have hG := rget_c hy1
      obtain ⟨⟨g, k3, f3⟩, hg3⟩ : ∃ z, getS (l.drop (q1 + q2)) = z := ⟨_, rfl⟩
      rw [hg3] at hG hgok3
      unfold Ret3 at hG
      simp only [List.length_drop, hlen] at hG hgok3
      have HG := Lib.hid hG
      have HG3 := Lib.hid hg3
      have hc2 : ((q1 + q2 : Nat) : Int) = (q1 : Int) + (q2 : Int) := by omega
      rw [hc2] at hs1 hs2
      clear hG hg3 hy1 hgok hc2
      go_upto_region 12 with (go_at_call 83; (with_reducible refine HG.out.mono ?_); rintro e9 w9 ⟨rfl, rfl⟩)
      clear hs1 hs2 HG
      by_cases h3 : f3 = 0
      · subst h3
        obtain ⟨q3, hq3, hk31, hk32, hg0, hg1⟩ := hgok3 (by first | rfl | trivial)
        subst hq3
        by_cases h4 : 1 < g
        · have HRR := Lib.hid (show RV = none by rw [← HRV.out]; exact wget_4 HT.out HG2.out HG3.out h4)
          obtain ⟨⟨x0, x1, x2, x3⟩, xf⟩ := wr_any HQ3.out
          obtain ⟨⟨z0, z1, z2, z3⟩, zf⟩ := wr_any HZ3.out
          have HSB := Lib.hid (wr_set HZ3.out (.string (text t)) (.int .i64 i) (.bool false) (.string (text [])))
          have HBB := Lib.hid ((((HB3.out.setCell (p := ⟨B, 0, none⟩) (by have := HBe.out; simp; omega) (.string (text t))).setCell (p := ⟨B, 1, none⟩) (by have := HBe.out; simp; omega) (.int .i64 i)).setCell (p := ⟨B, 2, none⟩) (by have := HBe.out; simp; omega) (.bool false)).setCell (p := ⟨B, 3, none⟩) (by have := HBe.out; simp; omega) (.string (text [])))
          go_wp2
          refine bodyPost_ret (res_cell_tmp2 rfl _ _ B 31 _ (0, 0) _ (.int .i64 0) (.bool false) rfl rfl rfl HSB.out Tryd.underlying31 rfl (by kernel_rfl)) rfl ⟨⟨t, i, false, []⟩, 0, false, rfl, HBB.out, fun _ => HRR.out, fun h => by cases h⟩
        · have hqm3 : q1 + q2 + q3 ≤ m := by omega
          have hsum3 : (q1 : Int) + (q2 : Int) + (q3 : Int) ≤ 9223372036854775807 := by omega
          obtain ⟨⟨x0, x1, x2, x3⟩, xf⟩ := wr_any HQ3.out
          go_upto_region 15 with (fail)
          by_cases h5 : g = 1
          · subst h5
            have HRR := Lib.hid (show RV = some (⟨t, i, true, []⟩, q1 + q2 + q3) by rw [← HRV.out]; exact wget_5 HT.out HG2.out HG3.out)
            go_upto_region 16 with (fail)
            have hq9 : (W3.setCell ⟨B + 1, 2, none⟩ (.bool true)).heap[B + 1]? = some (.cells #[.string (text t), .int .i64 i, .bool true, .string ⟨#[]⟩] 31 (0, 0)) := (heap_setCell_same W3 (B + 1) 2 _ _ _ HQ3.out).trans rfl
            have hz9 := (Below.heap_setCell W3 ⟨B + 1, 2, none⟩ (.bool true) B (by simp)).trans HZ3.out
            have hb9 := HB3.out.setCell (p := ⟨B + 1, 2, none⟩) (by have := HBe.out; simp; omega) (.bool true)
            generalize W3.setCell ⟨B + 1, 2, none⟩ (.bool true) = W4 at *
            have HB4 := Lib.hid hb9
            have HZ4 := Lib.hid hz9
            have HQ4 := Lib.hid hq9
            clear hq9 hz9 hb9 x0 x1 x2 x3 xf HB3 HZ3 HQ3
            obtain ⟨⟨x0, x1, x2, x3⟩, xf⟩ := wr_any HQ4.out
            obtain ⟨⟨z0, z1, z2, z3⟩, zf⟩ := wr_any HZ4.out
            have HSB := Lib.hid (wr_set HZ4.out (.string (text t)) (.int .i64 i) (.bool true) (.string (text [])))
            have HBB := Lib.hid ((((HB4.out.setCell (p := ⟨B, 0, none⟩) (by have := HBe.out; simp; omega) (.string (text t))).setCell (p := ⟨B, 1, none⟩) (by have := HBe.out; simp; omega) (.int .i64 i)).setCell (p := ⟨B, 2, none⟩) (by have := HBe.out; simp; omega) (.bool true)).setCell (p := ⟨B, 3, none⟩) (by have := HBe.out; simp; omega) (.string (text [])))
            go_wp2
            refine bodyPost_ret (res_cell_tmp2 rfl _ _ B 31 _ (0, 0) _ (.int .i64 ((q1 : Int) + (q2 : Int) + (q3 : Int))) (.bool true) rfl rfl rfl HSB.out Tryd.underlying31 rfl (by kernel_rfl)) rfl ⟨⟨t, i, true, []⟩, ((q1 : Int) + (q2 : Int) + (q3 : Int)), true, rfl, HBB.out, (fun h => by cases h), fun _ => ⟨q1 + q2 + q3, by omega, HRR.out⟩⟩
          · have hge : (g == 1) = false := by simpa using h5
            go_upto_region 16 with (fail)
            have hq9 : (W3.setCell ⟨B + 1, 2, none⟩ (.bool false)).heap[B + 1]? = some (.cells #[.string (text t), .int .i64 i, .bool false, .string ⟨#[]⟩] 31 (0, 0)) := (heap_setCell_same W3 (B + 1) 2 _ _ _ HQ3.out).trans rfl
            have hz9 := (Below.heap_setCell W3 ⟨B + 1, 2, none⟩ (.bool false) B (by simp)).trans HZ3.out
            have hb9 := HB3.out.setCell (p := ⟨B + 1, 2, none⟩) (by have := HBe.out; simp; omega) (.bool false)
            generalize W3.setCell ⟨B + 1, 2, none⟩ (.bool false) = W4 at *
            have HB4 := Lib.hid hb9
            have HZ4 := Lib.hid hz9
            have HQ4 := Lib.hid hq9
            clear hq9 hz9 hb9 x0 x1 x2 x3 xf HB3 HZ3 HQ3
            obtain ⟨a1, hs1, hs2, hy1⟩ := bys_from (HLW.out W4 HB4.out) hqm3
            have htok4 := textS_ok (l.drop (q1 + q2 + q3)) 64
            have hG := rgettext_c hy1 64 (by omega) (by omega)
            obtain ⟨⟨v, k4, f4⟩, hg4⟩ : ∃ z, textS (l.drop (q1 + q2 + q3)) 64 = z := ⟨_, rfl⟩
            rw [hg4] at hG htok4
            unfold RetT at hG
            simp only [List.length_drop, hlen] at hG htok4
            have HG := Lib.hid hG
            have HG4 := Lib.hid hg4
            have hc3 : ((q1 + q2 + q3 : Nat) : Int) = (q1 : Int) + (q2 : Int) + (q3 : Int) := by omega
            rw [hc3] at hs1 hs2
            clear hG hg4 hy1 hgok3 hc3
            obtain ⟨⟨x0, x1, x2, x3⟩, xf⟩ := wr_any HQ4.out
            go_upto_region 18 with (go_at_call 116; (with_reducible refine HG.out.mono ?_); rintro e9 w9 ⟨rfl, rfl⟩)
            clear hs1 hs2 HG x0 x1 x2 x3 xf
            by_cases h6 : f4 = 0
            · subst h6
              obtain ⟨q4, hq4, hk41, -⟩ := htok4 (by first | rfl | trivial)
              subst hq4
              have hsum4 : (q1 : Int) + (q2 : Int) + (q3 : Int) + (q4 : Int) ≤ 9223372036854775807 := by omega
              have HRR := Lib.hid (show RV = some (⟨t, i, false, v⟩, q1 + q2 + q3 + q4) by rw [← HRV.out]; exact wget_7 HT.out HG2.out HG3.out (by omega) h5 HG4.out)
              obtain ⟨⟨x0, x1, x2, x3⟩, xf⟩ := wr_any HQ4.out
              go_upto_region 21 with (fail)
              have hq9 : (W4.setCell ⟨B + 1, 3, none⟩ (.string (text v))).heap[B + 1]? = some (.cells #[.string (text t), .int .i64 i, .bool false, .string (text v)] 31 (0, 0)) := (heap_setCell_same W4 (B + 1) 3 _ _ _ HQ4.out).trans rfl
              have hz9 := (Below.heap_setCell W4 ⟨B + 1, 3, none⟩ (.string (text v)) B (by simp)).trans HZ4.out
              have hb9 := HB4.out.setCell (p := ⟨B + 1, 3, none⟩) (by have := HBe.out; simp; omega) (.string (text v))
              generalize W4.setCell ⟨B + 1, 3, none⟩ (.string (text v)) = W5 at *
              have HB5 := Lib.hid hb9
              have HZ5 := Lib.hid hz9
              have HQ5 := Lib.hid hq9
              clear hq9 hz9 hb9 x0 x1 x2 x3 xf HB4 HZ4 HQ4
              obtain ⟨⟨x0, x1, x2, x3⟩, xf⟩ := wr_any HQ5.out
              obtain ⟨⟨z0, z1, z2, z3⟩, zf⟩ := wr_any HZ5.out
              have HSB := Lib.hid (wr_set HZ5.out (.string (text t)) (.int .i64 i) (.bool false) (.string (text v)))
              have HBB := Lib.hid ((((HB5.out.setCell (p := ⟨B, 0, none⟩) (by have := HBe.out; simp; omega) (.string (text t))).setCell (p := ⟨B, 1, none⟩) (by have := HBe.out; simp; omega) (.int .i64 i)).setCell (p := ⟨B, 2, none⟩) (by have := HBe.out; simp; omega) (.bool false)).setCell (p := ⟨B, 3, none⟩) (by have := HBe.out; simp; omega) (.string (text v)))
              go_wp2
              refine bodyPost_ret (res_cell_tmp2 rfl _ _ B 31 _ (0, 0) _ (.int .i64 ((q1 : Int) + (q2 : Int) + (q3 : Int) + (q4 : Int))) (.bool true) rfl rfl rfl HSB.out Tryd.underlying31 rfl (by kernel_rfl)) rfl ⟨⟨t, i, false, v⟩, ((q1 : Int) + (q2 : Int) + (q3 : Int) + (q4 : Int)), true, rfl, HBB.out, (fun h => by cases h), fun _ => ⟨q1 + q2 + q3 + q4, by omega, HRR.out⟩⟩
            · have h6n : (f4 != 0) = true := by simpa using h6
              have HRR := Lib.hid (show RV = none by rw [← HRV.out]; exact wget_6 HT.out HG2.out HG3.out (by omega) h5 HG4.out h6)
              obtain ⟨⟨x0, x1, x2, x3⟩, xf⟩ := wr_any HQ4.out
              obtain ⟨⟨z0, z1, z2, z3⟩, zf⟩ := wr_any HZ4.out
              have HSB := Lib.hid (wr_set HZ4.out (.string (text t)) (.int .i64 i) (.bool false) (.string (text [])))
              have HBB := Lib.hid ((((HB4.out.setCell (p := ⟨B, 0, none⟩) (by have := HBe.out; simp; omega) (.string (text t))).setCell (p := ⟨B, 1, none⟩) (by have := HBe.out; simp; omega) (.int .i64 i)).setCell (p := ⟨B, 2, none⟩) (by have := HBe.out; simp; omega) (.bool false)).setCell (p := ⟨B, 3, none⟩) (by have := HBe.out; simp; omega) (.string (text [])))
              go_wp2
              refine bodyPost_ret (res_cell_tmp2 rfl _ _ B 31 _ (0, 0) _ (.int .i64 0) (.bool false) rfl rfl rfl HSB.out Tryd.underlying31 rfl (by kernel_rfl)) rfl ⟨⟨t, i, false, []⟩, 0, false, rfl, HBB.out, fun _ => HRR.out, fun h => by cases h⟩
      · have h3n : (f3 != 0) = true := by simpa using h3
        have HRR := Lib.hid (show RV = none by rw [← HRV.out]; exact wget_3 HT.out HG2.out HG3.out h3)
        obtain ⟨⟨x0, x1, x2, x3⟩, xf⟩ := wr_any HQ3.out
        obtain ⟨⟨z0, z1, z2, z3⟩, zf⟩ := wr_any HZ3.out
        have HSB := Lib.hid (wr_set HZ3.out (.string (text t)) (.int .i64 i) (.bool false) (.string (text [])))
        have HBB := Lib.hid ((((HB3.out.setCell (p := ⟨B, 0, none⟩) (by have := HBe.out; simp; omega) (.string (text t))).setCell (p := ⟨B, 1, none⟩) (by have := HBe.out; simp; omega) (.int .i64 i)).setCell (p := ⟨B, 2, none⟩) (by have := HBe.out; simp; omega) (.bool false)).setCell (p := ⟨B, 3, none⟩) (by have := HBe.out; simp; omega) (.string (text [])))
        go_wp2
        refine bodyPost_ret (res_cell_tmp2 rfl _ _ B 31 _ (0, 0) _ (.int .i64 0) (.bool false) rfl rfl rfl HSB.out Tryd.underlying31 rfl (by kernel_rfl)) rfl ⟨⟨t, i, false, []⟩, 0, false, rfl, HBB.out, fun _ => HRR.out, fun h => by cases h⟩
    · have h2n : (f2 != 0) = true := by simpa using h2
      have HRR := Lib.hid (show RV = none by rw [← HRV.out]; exact wget_2 HT.out HG2.out h2)
      obtain ⟨⟨x0, x1, x2, x3⟩, xf⟩ := wr_any HQ2.out
      obtain ⟨⟨z0, z1, z2, z3⟩, zf⟩ := wr_any HZ2.out
      have HSB := Lib.hid (wr_set HZ2.out (.string (text t)) (.int .i64 0) (.bool false) (.string (text [])))
      have HBB := Lib.hid ((((HB2.out.setCell (p := ⟨B, 0, none⟩) (by have := HBe.out; simp; omega) (.string (text t))).setCell (p := ⟨B, 1, none⟩) (by have := HBe.out; simp; omega) (.int .i64 0)).setCell (p := ⟨B, 2, none⟩) (by have := HBe.out; simp; omega) (.bool false)).setCell (p := ⟨B, 3, none⟩) (by have := HBe.out; simp; omega) (.string (text [])))
      go_wp2
      refine bodyPost_ret (res_cell_tmp2 rfl _ _ B 31 _ (0, 0) _ (.int .i64 0) (.bool false) rfl rfl rfl HSB.out Tryd.underlying31 rfl (by kernel_rfl)) rfl ⟨⟨t, 0, false, []⟩, 0, false, rfl, HBB.out, fun _ => HRR.out, fun h => by cases h⟩
  · have h1n : (ft != 0) = true := by simpa using h1
    have HRR := Lib.hid (show RV = none by rw [← HRV.out]; exact wget_1 HT.out h1)
    obtain ⟨⟨x0, x1, x2, x3⟩, xf⟩ := wr_any HQ1.out
    obtain ⟨⟨z0, z1, z2, z3⟩, zf⟩ := wr_any HZ1.out
    have HSB := Lib.hid (wr_set HZ1.out (.string (text [])) (.int .i64 0) (.bool false) (.string (text [])))
    have HBB := Lib.hid ((((HB1.out.setCell (p := ⟨B, 0, none⟩) (by have := HBe.out; simp; omega) (.string (text []))).setCell (p := ⟨B, 1, none⟩) (by have := HBe.out; simp; omega) (.int .i64 0)).setCell (p := ⟨B, 2, none⟩) (by have := HBe.out; simp; omega) (.bool false)).setCell (p := ⟨B, 3, none⟩) (by have := HBe.out; simp; omega) (.string (text [])))
    go_wp2
    refine bodyPost_ret (res_cell_tmp2 rfl _ _ B 31 _ (0, 0) _ (.int .i64 0) (.bool false) rfl rfl rfl HSB.out Tryd.underlying31 rfl (by kernel_rfl)) rfl ⟨⟨[], 0, false, []⟩, 0, false, rfl, HBB.out, fun _ => HRR.out, fun h => by cases h⟩
end Go.Proofs.YtfkmfccdhmnllaaDoor
end

section
namespace Go.Proofs.YtfkmfccdhmnllaaDoor
open Go.RowKit Go Go.Sort
set_option linter.unusedVariables false
set_option maxRecDepth 20000

/-- Which write may be, by a schema of n groups. -/
def mayS (n : Nat) (c : Wr) : Bool := decide (keyS c.k = 0) && (decide (0 ≤ c.i) && (decide (c.i < (n : Int)) && (decide (c.v.length ≤ 64) && (!c.g || c.v == []))))
set_option maxHeartbeats 3200000 in
theorem rwrite_c {w : World} {x : Option Addr} {n1 cap : Nat} (hle : n1 ≤ cap) (hmax : cap ≤ 9223372036854775807) (k : List UInt8) (i : Int) (g : Bool) (v : List UInt8) (hk : k.length ≤ 9223372036854775807) (hvl : v.length ≤ 9223372036854775807) :
    Calls Tryd.prog 39 #[.slice x n1 cap, .agg #[.string (text k), .int .i64 i, .bool g, .string (text v)]] w (Tells (.bool (mayS n1 ⟨k, i, g, v⟩)) w) := by
  have hp := heap_alloc_new w (.cells #[.string (text k), .int .i64 i, .bool g, .string (text v)] 31)
  have HB := Lib.hid (alloc_below w (.cells #[.string (text k), .int .i64 i, .bool g, .string (text v)] 31))
  have HV0 := Lib.hid (show mayS n1 ⟨k, i, g, v⟩ = (decide (keyS k = 0) && (decide (0 ≤ i) && (decide (i < (n1 : Int)) && (decide (v.length ≤ 64) && (!g || v == []))))) from rfl)
  obtain ⟨r, hr⟩ : ∃ r, mayS n1 ⟨k, i, g, v⟩ = r := ⟨_, rfl⟩
  rw [hr] at HV0 ⊢
  have hkk := fun W => rkey_c k hk W
  have htn := text_nilb v
  have hsz : ((text v).size : Int) = (v.length : Int) := by rw [text_size]
  obtain ⟨p0, p1, p2, p3⟩ := wr_cells hp
  obtain ⟨K0, hK⟩ : ∃ z, keyS k = z := ⟨_, rfl⟩
  obtain ⟨vb, hvb⟩ : ∃ z, (v == []) = z := ⟨_, rfl⟩
  obtain ⟨vl, hvl2⟩ : ∃ z, v.length = z := ⟨_, rfl⟩
  obtain ⟨tv, htv⟩ : ∃ z, text v = z := ⟨_, rfl⟩
  obtain ⟨tk, htk⟩ : ∃ z, text k = z := ⟨_, rfl⟩
  simp only [hK, htk] at hkk
  rw [hK, hvb, hvl2] at HV0
  rw [hvb] at htn
  rw [hvl2] at hsz
  simp only [htv, htk] at htn hsz p0 p1 p2 p3 HB ⊢
  have HK := Lib.hid hkk
  clear hp hr hkk hK hvb hvl2 htv htk hk hvl
  by_cases h0 : K0 = 0
  · have h0e : (K0 == 0) = true := by simpa using h0
    by_cases h1 : 0 ≤ i
    · by_cases h2 : i < (n1 : Int)
      · by_cases h3 : vl ≤ 64
        · have h3i : (vl : Int) ≤ 64 := by omega
          cases g with
          | false =>
            have HV := Lib.hid (show r = true by rw [HV0.out]; simp [h0, h1, h2, h3])
            clear h0 HV0 htn
            go_enter Tryd.func39, Tryd.ntmps39
            go_wp2_with (go_at_call 68; (with_reducible refine (HK.out _).mono ?_); rintro e9 w9 ⟨rfl, rfl⟩)
            go_ret
            exact ⟨by rw [HV.out]; rfl, HB.out⟩
          | true =>
            have HV := Lib.hid (show r = vb by rw [HV0.out]; simp [h0, h1, h2, h3])
            clear h0 HV0
            cases vb with
            | true =>
              go_enter Tryd.func39, Tryd.ntmps39
              go_wp2_with (go_at_call 68; (with_reducible refine (HK.out _).mono ?_); rintro e9 w9 ⟨rfl, rfl⟩)
              go_ret
              exact ⟨by rw [HV.out]; rfl, HB.out⟩
            | false =>
              go_enter Tryd.func39, Tryd.ntmps39
              go_wp2_with (go_at_call 68; (with_reducible refine (HK.out _).mono ?_); rintro e9 w9 ⟨rfl, rfl⟩)
              go_ret
              exact ⟨by rw [HV.out]; rfl, HB.out⟩
        · have h3i : ¬ (vl : Int) ≤ 64 := by omega
          have HV := Lib.hid (show r = false by rw [HV0.out]; simp [h3])
          clear h0 HV0 htn
          go_enter Tryd.func39, Tryd.ntmps39
          go_wp2_with (go_at_call 68; (with_reducible refine (HK.out _).mono ?_); rintro e9 w9 ⟨rfl, rfl⟩)
          go_ret
          exact ⟨by rw [HV.out]; rfl, HB.out⟩
      · have HV := Lib.hid (show r = false by rw [HV0.out]; simp [h2])
        clear h0 HV0 htn
        go_enter Tryd.func39, Tryd.ntmps39
        go_wp2_with (go_at_call 68; (with_reducible refine (HK.out _).mono ?_); rintro e9 w9 ⟨rfl, rfl⟩)
        go_ret
        exact ⟨by rw [HV.out]; rfl, HB.out⟩
    · have HV := Lib.hid (show r = false by rw [HV0.out]; simp [h1])
      clear h0 HV0 htn
      go_enter Tryd.func39, Tryd.ntmps39
      go_wp2_with (go_at_call 68; (with_reducible refine (HK.out _).mono ?_); rintro e9 w9 ⟨rfl, rfl⟩)
      go_ret
      exact ⟨by rw [HV.out]; rfl, HB.out⟩
  · have h0e : (K0 == 0) = false := by simpa using h0
    have HV := Lib.hid (show r = false by rw [HV0.out]; simp [h0])
    clear h0 HV0 htn
    go_enter Tryd.func39, Tryd.ntmps39
    go_wp2_with (go_at_call 68; (with_reducible refine (HK.out _).mono ?_); rintro e9 w9 ⟨rfl, rfl⟩)
    go_ret
    exact ⟨by rw [HV.out]; rfl, HB.out⟩
end Go.Proofs.YtfkmfccdhmnllaaDoor
end

section
namespace Go.Proofs.YtfkmfccdhmnllaaDoor
open Go.RowKit Go Go.Sort
set_option linter.unusedVariables false
set_option maxRecDepth 20000

/-- What of a change's head may not be. -/
def headBad (site seq n s a b : Int) (m : Nat) : Bool :=
  (site != 1 && site != 2) || decide (seq < 1) || decide (1099511627776 < seq) || !sgood n s || (s != site) || !vgood a b || ((if site = 1 then a else b) != seq) || decide ((m : Int) < 1) || decide (8 < (m : Int))
/-- What a guarded operation tells. -/
def vIf (b need : Bool) (v : Value) : Value := if b = need then v else undef
theorem vIf_tt (v : Value) : vIf true true v = v := rfl
theorem vIf_ff (v : Value) : vIf false false v = v := rfl
theorem vIf_tf (v : Value) : vIf true false v = undef := rfl
theorem vIf_ft (v : Value) : vIf false true v = undef := rfl
/-- Whether the write at a place may be there. -/
def wAt (n1 : Nat) (l : List Wr) (k : Nat) : Bool := mayS n1 (l.getD k Wr.zero) && (decide (k = 0) || aheadS (l.getD (k - 1) Wr.zero) (l.getD k Wr.zero))
def chgoodS (gs : List Grp) (site seq n s a b : Int) (l : List Wr) : Int := if ¬ pgoodS gs = 0 then pgoodS gs else if headBad site seq n s a b l.length = true then 120 else if (List.range l.length).all (wAt gs.length l) = true then 0 else 120
theorem ch_pol {gs : List Grp} {site seq n s a b : Int} {l : List Wr} (h : ¬ pgoodS gs = 0) : chgoodS gs site seq n s a b l = pgoodS gs := by unfold chgoodS; rw [if_pos h]
theorem ch_head {gs : List Grp} {site seq n s a b : Int} {l : List Wr} (h : pgoodS gs = 0) (h2 : headBad site seq n s a b l.length = true) : chgoodS gs site seq n s a b l = 120 := by unfold chgoodS; rw [if_neg (not_not_intro h), if_pos h2]
theorem ch_bad {gs : List Grp} {site seq n s a b : Int} {l : List Wr} (h : pgoodS gs = 0) (h2 : headBad site seq n s a b l.length = false) {k : Nat} (hk : k < l.length) (hb : wAt gs.length l k = false) : chgoodS gs site seq n s a b l = 120 := by
  unfold chgoodS
  rw [if_neg (not_not_intro h), if_neg (by rw [h2]; decide), if_neg]
  intro ha
  have := List.all_eq_true.1 ha k (List.mem_range.2 hk)
  rw [hb] at this
  cases this
theorem ch_yes {gs : List Grp} {site seq n s a b : Int} {l : List Wr} (h : pgoodS gs = 0) (h2 : headBad site seq n s a b l.length = false) (ha : ∀ k, k < l.length → wAt gs.length l k = true) : chgoodS gs site seq n s a b l = 0 := by
  unfold chgoodS
  rw [if_neg (not_not_intro h), if_neg (by rw [h2]; decide), if_pos]
  exact List.all_eq_true.2 fun k hk => ha k (List.mem_range.1 hk)
theorem ch_inv {gs : List Grp} {site seq n s a b : Int} {l : List Wr} (h : chgoodS gs site seq n s a b l = 0) : pgoodS gs = 0 ∧ headBad site seq n s a b l.length = false ∧ ∀ k, k < l.length → wAt gs.length l k = true := by
  unfold chgoodS at h
  by_cases h1 : pgoodS gs = 0
  · rw [if_neg (not_not_intro h1)] at h
    by_cases h2 : headBad site seq n s a b l.length = true
    · rw [if_pos h2] at h; cases h
    · rw [if_neg h2] at h
      by_cases h3 : (List.range l.length).all (wAt gs.length l) = true
      · exact ⟨h1, by simpa using h2, fun k hk => List.all_eq_true.1 h3 k (List.mem_range.2 hk)⟩
      · rw [if_neg h3] at h; cases h
  · rw [if_pos h1] at h; exact absurd h h1
theorem ch_cells {W : World} {q : Nat} {site seq n s a b : Int} {x2 : Option Addr} {m cap2 : Nat} (h : W.heap[q]? = some (.cells #[.int .i64 site, .int .i64 seq, .int .i64 n, .int .i64 s, .int .i64 a, .int .i64 b, .slice x2 m cap2] 29 (0, 0))) :
    W.cell? ⟨q, 0, none⟩ = some (.int .i64 site) ∧ W.cell? ⟨q, 1, none⟩ = some (.int .i64 seq) ∧ W.cell? ⟨q, 2, none⟩ = some (.int .i64 n) ∧ W.cell? ⟨q, 3, none⟩ = some (.int .i64 s) ∧ W.cell? ⟨q, 4, none⟩ = some (.int .i64 a) ∧ W.cell? ⟨q, 5, none⟩ = some (.int .i64 b) ∧ W.cell? ⟨q, 6, none⟩ = some (.slice x2 m cap2) := by
  refine ⟨?_, ?_, ?_, ?_, ?_, ?_, ?_⟩ <;> (rw [cell_of_row _ q _ _ _ (0, 0) h]; rfl)
theorem wr_mem {l : List Wr} {k : Nat} (h : k < l.length) : l.getD k Wr.zero ∈ l := by
  rw [List.getD_eq_getElem?_getD, List.getElem?_eq_getElem h]; exact List.getElem_mem _
/-- The writes are short. -/
def WShort (l : List Wr) : Prop := ∀ c ∈ l, c.k.length ≤ 9223372036854775807 ∧ c.v.length ≤ 9223372036854775807

set_option maxRecDepth 100000 in
set_option maxHeartbeats 12800000 in
theorem rchgood_c {w : World} {x x2 : Option Addr} {n1 cap m cap2 : Nat} {gs : List Grp} {l : List Wr} (hg : Grs w x n1 cap gs) (hs : ∀ g ∈ gs, g.1.length ≤ 9223372036854775807) (hl : Wrs w x2 m cap2 l) (hx : WShort l) (site seq n s a b : Int) :
    Calls Tryd.prog 14 #[.slice x n1 cap, .agg #[.int .i64 site, .int .i64 seq, .int .i64 n, .int .i64 s, .int .i64 a, .int .i64 b, .slice x2 m cap2]] w (Tells (.int .i64 (chgoodS gs site seq n s a b l)) w) := by
  have hgl := hg.len
  have hll := hl.len
  have hle1 := hg.le
  have hmax1 := hg.max
  have hle2 := hl.le
  have hmax2 := hl.max
  have HPG := Lib.hid (fun W (h : Below w.heap.size w W) => rpgood_c (hg.below h) hs)
  have HL := Lib.hid hl
  have HXS := Lib.hid hx
  have H0 := Lib.hid (@ch_pol gs site seq n s a b l)
  have H1 := Lib.hid (@ch_head gs site seq n s a b l)
  have H2 := Lib.hid (fun (h : pgoodS gs = 0) (h2 : headBad site seq n s a b l.length = false) (k : Nat) => @ch_bad gs site seq n s a b l h h2 k)
  have H3 := Lib.hid (@ch_yes gs site seq n s a b l)
  have HHB := Lib.hid (show headBad site seq n s a b m = ((site != 1 && site != 2) || decide (seq < 1) || decide (1099511627776 < seq) || !sgood n s || (s != site) || !vgood a b || ((if site = 1 then a else b) != seq) || decide ((m : Int) < 1) || decide (8 < (m : Int))) from rfl)
  obtain ⟨R, hR⟩ : ∃ z, chgoodS gs site seq n s a b l = z := ⟨_, rfl⟩
  obtain ⟨P0, hP⟩ : ∃ z, pgoodS gs = z := ⟨_, rfl⟩
  obtain ⟨HD, hHD⟩ : ∃ z, headBad site seq n s a b m = z := ⟨_, rfl⟩
  rw [hR, hP] at H0
  rw [hR, hP, hll, hHD] at H1
  rw [hR, hP, hll, hHD, hgl] at H2 H3
  rw [hHD] at HHB
  simp only [hP] at HPG
  rw [hR]
  have hr := heap_alloc_new w (.cells #[.int .i64 site, .int .i64 seq, .int .i64 n, .int .i64 s, .int .i64 a, .int .i64 b, .slice x2 m cap2] 29)
  have hb := alloc_below w (.cells #[.int .i64 site, .int .i64 seq, .int .i64 n, .int .i64 s, .int .i64 a, .int .i64 b, .slice x2 m cap2] 29)
  clear hR hP hHD hg hs hl hx
  go_enter Tryd.func14, Tryd.ntmps14
  go_upto_region 1 with (fail)
  obtain ⟨B, hB⟩ : ∃ q, w.heap.size = q := ⟨_, rfl⟩
  rw [hB] at hr ⊢
  clear hB
  generalize w.alloc (.cells #[.int .i64 site, .int .i64 seq, .int .i64 n, .int .i64 s, .int .i64 a, .int .i64 b, .slice x2 m cap2] 29) = W1 at *
  have HR1 := Lib.hid hr
  have HB1 := Lib.hid hb
  clear hr hb
  go_upto_region 2 with (go_at_call 36; (with_reducible refine (HPG.out _ HB1.out).mono ?_); rintro e9 w2 ⟨rfl, hb2⟩)
  have HB2 := Lib.hid (HB1.out.trans (hb2.mono HB1.out.size))
  have HR2 := Lib.hid (heap_below HR1.out hb2)
  clear hb2 HB1 HR1 HPG
  by_cases h0 : P0 = 0
  · subst h0
    have H1a := Lib.hid (H1.out (by first | rfl | trivial))
    have H2a := Lib.hid (H2.out (by first | rfl | trivial))
    have H3a := Lib.hid (H3.out (by first | rfl | trivial))
    have HCW := Lib.hid (fun W (h : Below w2.heap.size w2 W) => ch_cells (heap_below HR2.out h))
    have HSG := Lib.hid (fun W => rsgood_c n s W)
    have HVG := Lib.hid (fun W => rvgood_c a b W)
    obtain ⟨SG, hSG⟩ : ∃ z, sgood n s = z := ⟨_, rfl⟩
    obtain ⟨VG, hVG⟩ : ∃ z, vgood a b = z := ⟨_, rfl⟩
    rw [hSG, hVG] at HHB
    simp only [hSG] at HSG
    simp only [hVG] at HVG
    obtain ⟨q1, hq1⟩ : ∃ z, (site != 1) = z := ⟨_, rfl⟩
    obtain ⟨q2, hq2⟩ : ∃ z, (site != 2) = z := ⟨_, rfl⟩
    obtain ⟨q3, hq3⟩ : ∃ z, decide (seq < 1) = z := ⟨_, rfl⟩
    obtain ⟨q4, hq4⟩ : ∃ z, decide (1099511627776 < seq) = z := ⟨_, rfl⟩
    obtain ⟨q6, hq6⟩ : ∃ z, (s != site) = z := ⟨_, rfl⟩
    obtain ⟨q8, hq8⟩ : ∃ z, ((if site = 1 then a else b) != seq) = z := ⟨_, rfl⟩
    obtain ⟨q9, hq9⟩ : ∃ z, decide ((m : Int) < 1) = z := ⟨_, rfl⟩
    obtain ⟨q10, hq10⟩ : ∃ z, decide (8 < (m : Int)) = z := ⟨_, rfl⟩
    rw [hq1, hq2, hq3, hq4, hq6, hq8, hq9, hq10] at HHB
    obtain ⟨A, hA⟩ : ∃ z, (q1 && q2) = z := ⟨_, rfl⟩
    have HA9 := Lib.hid hA
    rw [hA] at HHB
    obtain ⟨Bb, hBb⟩ : ∃ z, (A || q3) = z := ⟨_, rfl⟩
    have HBb9 := Lib.hid hBb
    rw [hBb] at HHB
    obtain ⟨C, hC⟩ : ∃ z, (Bb || q4) = z := ⟨_, rfl⟩
    have HC9 := Lib.hid hC
    rw [hC] at HHB
    obtain ⟨D, hD⟩ : ∃ z, (C || !SG) = z := ⟨_, rfl⟩
    have HD9 := Lib.hid hD
    rw [hD] at HHB
    obtain ⟨E, hE⟩ : ∃ z, (D || q6) = z := ⟨_, rfl⟩
    have HE9 := Lib.hid hE
    rw [hE] at HHB
    obtain ⟨F, hF⟩ : ∃ z, (E || !VG) = z := ⟨_, rfl⟩
    have HF9 := Lib.hid hF
    rw [hF] at HHB
    obtain ⟨G, hG⟩ : ∃ z, (F || q8) = z := ⟨_, rfl⟩
    have HG9 := Lib.hid hG
    rw [hG] at HHB
    obtain ⟨H, hH⟩ : ∃ z, (G || q9) = z := ⟨_, rfl⟩
    have HH9 := Lib.hid hH
    rw [hH] at HHB
    have HI9 := Lib.hid HHB.out.symm
    have HSITE := Lib.hid (show F = false → ∃ (z : Nat) (VV : Int), site - 1 = (z : Int) ∧ z < 2 ∧ (VV != seq) = q8 ∧ -9223372036854775808 ≤ site - 1 ∧ site - 1 ≤ 9223372036854775807 ∧ ((z = 0 ∧ VV = a) ∨ (z = 1 ∧ VV = b)) from fun hFF => by
      have hA0 : A = false := by
        rw [← hF, ← hE, ← hD, ← hC, ← hBb] at hFF
        cases A with
        | false => rfl
        | true => simp at hFF
      rw [← hA] at hA0
      have : site = 1 ∨ site = 2 := by
        rw [← hq1, ← hq2] at hA0
        simp at hA0
        omega
      rcases this with rfl | rfl
      · exact ⟨0, a, by decide, by decide, by rw [← hq8]; rfl, by decide, by decide, .inl ⟨rfl, rfl⟩⟩
      · exact ⟨1, b, by decide, by decide, by rw [← hq8]; rfl, by decide, by decide, .inr ⟨rfl, rfl⟩⟩)
    clear HHB hA hBb hC hD hE hF hG hH
    obtain ⟨zz, VV, hzz⟩ : ∃ (z : Nat) (VV : Int), (F = false → site - 1 = (z : Int) ∧ z < 2 ∧ (VV != seq) = q8 ∧ -9223372036854775808 ≤ site - 1 ∧ site - 1 ≤ 9223372036854775807 ∧ ((z = 0 ∧ VV = a) ∨ (z = 1 ∧ VV = b))) := by
      cases hF : F with
      | true => exact ⟨0, 0, fun h => by cases h⟩
      | false =>
        obtain ⟨z, VV, h⟩ := HSITE.out hF
        exact ⟨z, VV, fun _ => h⟩
    have HZZ := Lib.hid hzz
    clear hzz HSITE hq8
    clear hSG hVG H0 H1 H2 H3
    go_upto_region 4 with (fail)
    refine wp_region_flow [none, none, none, none, none, none, none, none, none, none, none, none, some 0, some 1, some 2, some 3, some 4, some 5, some 6, some 7, some 8, some 9, some 10, some 11, some 12, some 13, some 14, some 15, some 16, some 17, some 18, some 19, some 20, some 21, some 22, some 23, some 24, some 25, some 26, some 27, some 28, some 29, some 30, some 31, some 32, some 33, some 34, some 35, some 36, some 37, some 38, some 39, some 40, some 41, some 42, some 43, some 44, some 45, some 46, some 47, some 48, some 49, some 50, some 51, some 52, some 53, some 54, some 55, some 56, some 57, some 58, some 59, some 60, none, none, none, none, none, none, none, none, none, none, none, none, none, none, none, none, none, none, none, none, none, none, none, none, none, none, none, none, none, none, none, none, none, none] (fun i => [undef, undef, undef, undef, undef, undef, undef, undef, undef, undef, undef, undef, undef, undef, undef, undef, undef, undef, undef, undef, undef, undef, undef, undef, undef, undef, undef, undef, undef, undef, undef, undef, undef, undef, undef, undef, undef, undef, undef, undef, undef, undef, undef, undef, undef, undef, undef, undef, undef, undef, undef, undef, undef, undef, undef, undef, undef, undef, undef, undef, undef].getD i undef) [(fun v _ => v = .pointer (some ⟨B, 0, none⟩)), (fun v _ => v = .int .i64 site), (fun v _ => v = .bool q1), (fun v _ => v = .bool q1), (fun v _ => v = vIf q1 true (.pointer (some ⟨B, 0, none⟩))), (fun v _ => v = vIf q1 true (.int .i64 site)), (fun v _ => v = vIf q1 true (.bool q2)), (fun v _ => v = .bool A), (fun v _ => v = .bool A), (fun v _ => v = vIf A false (.pointer (some ⟨B, 1, none⟩))), (fun v _ => v = vIf A false (.int .i64 seq)), (fun v _ => v = vIf A false (.bool q3)), (fun v _ => v = .bool Bb), (fun v _ => v = .bool Bb), (fun v _ => v = vIf Bb false (.pointer (some ⟨B, 1, none⟩))), (fun v _ => v = vIf Bb false (.int .i64 seq)), (fun v _ => v = vIf Bb false (.bool q4)), (fun v _ => v = .bool C), (fun v _ => v = .bool C), (fun v _ => v = vIf C false (.pointer (some ⟨B, 2, none⟩))), (fun v _ => v = vIf C false (.agg #[.int .i64 n, .int .i64 s])), (fun v _ => v = vIf C false (.bool SG)), (fun v _ => v = vIf C false (.bool (!SG))), (fun v _ => v = .bool D), (fun v _ => v = .bool D), (fun v _ => v = vIf D false (.pointer (some ⟨B, 2, none⟩))), (fun v _ => v = vIf D false (.pointer (some ⟨B, 3, none⟩))), (fun v _ => v = vIf D false (.int .i64 s)), (fun v _ => v = vIf D false (.pointer (some ⟨B, 0, none⟩))), (fun v _ => v = vIf D false (.int .i64 site)), (fun v _ => v = vIf D false (.bool q6)), (fun v _ => v = .bool E), (fun v _ => v = .bool E), (fun v _ => v = vIf E false (.pointer (some ⟨B, 4, none⟩))), (fun v _ => v = vIf E false (.agg #[.int .i64 a, .int .i64 b])), (fun v _ => v = vIf E false (.bool VG)), (fun v _ => v = vIf E false (.bool (!VG))), (fun v _ => v = .bool F), (fun v _ => v = .bool F), (fun v _ => v = vIf F false (.pointer (some ⟨B, 0, none⟩))), (fun v _ => v = vIf F false (.int .i64 site)), (fun v _ => v = vIf F false (.int .i64 (zz : Int))), (fun v _ => v = vIf F false (.pointer (some ⟨B, 4, none⟩))), (fun v _ => v = vIf F false (.pointer (some ⟨B, 4 + zz, none⟩))), (fun v _ => v = vIf F false (.int .i64 VV)), (fun v _ => v = vIf F false (.pointer (some ⟨B, 1, none⟩))), (fun v _ => v = vIf F false (.int .i64 seq)), (fun v _ => v = vIf F false (.bool q8)), (fun v _ => v = .bool G), (fun v _ => v = .bool G), (fun v _ => v = vIf G false (.pointer (some ⟨B, 6, none⟩))), (fun v _ => v = vIf G false (.slice x2 m cap2)), (fun v _ => v = vIf G false (.int .i64 (m : Int))), (fun v _ => v = vIf G false (.bool q9)), (fun v _ => v = .bool H), (fun v _ => v = .bool H), (fun v _ => v = vIf H false (.pointer (some ⟨B, 6, none⟩))), (fun v _ => v = vIf H false (.slice x2 m cap2)), (fun v _ => v = vIf H false (.int .i64 (m : Int))), (fun v _ => v = vIf H false (.bool q10)), (fun v _ => v = .bool HD)] (by kernel_rfl) (by kernel_rfl) rfl rfl rfl ?_ ?_ ?_
    · intro g hg v X Y hX hY hv
      simp only [List.mem_cons, List.not_mem_nil, or_false] at hg
      rcases hg with rfl | rfl | rfl | rfl | rfl | rfl | rfl | rfl | rfl | rfl | rfl | rfl | rfl | rfl | rfl | rfl | rfl | rfl | rfl | rfl | rfl | rfl | rfl | rfl | rfl | rfl | rfl | rfl | rfl | rfl | rfl | rfl | rfl | rfl | rfl | rfl | rfl | rfl | rfl | rfl | rfl | rfl | rfl | rfl | rfl | rfl | rfl | rfl | rfl | rfl | rfl | rfl | rfl | rfl | rfl | rfl | rfl | rfl | rfl | rfl | rfl
      all_goals first
        | exact hv
        | exact hv.kept hY
    · simp only [flowOps, and_true]
      refine ⟨?_, ?_, ?_, ?_, ?_, ?_, ?_, ?_, ?_, ?_, ?_, ?_, ?_, ?_, ?_, ?_, ?_, ?_, ?_, ?_, ?_, ?_, ?_, ?_, ?_, ?_, ?_, ?_, ?_, ?_, ?_, ?_, ?_, ?_, ?_, ?_, ?_, ?_, ?_, ?_, ?_, ?_, ?_, ?_, ?_, ?_, ?_, ?_, ?_, ?_, ?_, ?_, ?_, ?_, ?_, ?_, ?_, ?_, ?_, ?_, ?_⟩
      · intro xs W hW hn
        simp only [flowAct, List.zipWith_cons_cons, List.zipWith_nil_left]
        go_wp2_with (fail)
        exact ⟨rfl, _, rfl, Below.refl _ _, rfl⟩
      · intro xs W hW hn
        obtain ⟨c0, c1, c2, c3, c4, c5, c6⟩ := HCW.out W hW
        simp [flowNeeds, Region.binds] at hn
        simp only [flowAct, List.zipWith_cons_cons, List.zipWith_nil_left]
        try simp only [hn]
        go_wp2_with (fail)
        all_goals exact ⟨rfl, _, rfl, Below.refl _ _, rfl⟩
      · intro xs W hW hn
        simp [flowNeeds, Region.binds] at hn
        simp only [flowAct, List.zipWith_cons_cons, List.zipWith_nil_left]
        try simp only [hn]
        have hqq := hq1
        go_wp2_with (fail)
        all_goals exact ⟨rfl, _, rfl, Below.refl _ _, rfl⟩
      · intro xs W hW hn
        simp [flowNeeds, Region.binds] at hn
        simp only [flowAct, List.zipWith_cons_cons, List.zipWith_nil_left]
        try simp only [hn]
        go_wp2_with (fail)
        all_goals exact ⟨rfl, _, rfl, Below.refl _ _, rfl⟩
      · intro xs W hW hn
        simp [flowNeeds, Region.binds] at hn
        simp only [flowAct, List.zipWith_cons_cons, List.zipWith_nil_left]
        cases hq : q1 with
        | true =>
          try rw [hq] at hn
          repeat rw [vIf_tt] at hn
          repeat rw [vIf_ff] at hn
          repeat rw [vIf_tf] at hn
          repeat rw [vIf_ft] at hn
          try simp at hn
          try simp only [hn]
          go_wp2_with (fail)
          exact ⟨rfl, _, rfl, Below.refl _ _, by first | rfl | simp [vIf]⟩
        | false =>
          try rw [hq] at hn
          repeat rw [vIf_tt] at hn
          repeat rw [vIf_ff] at hn
          repeat rw [vIf_tf] at hn
          repeat rw [vIf_ft] at hn
          try simp at hn
          try simp only [hn]
          go_wp2_with (fail)
          exact ⟨rfl, _, rfl, Below.refl _ _, by first | rfl | simp [vIf]⟩
      · intro xs W hW hn
        obtain ⟨c0, c1, c2, c3, c4, c5, c6⟩ := HCW.out W hW
        simp [flowNeeds, Region.binds] at hn
        simp only [flowAct, List.zipWith_cons_cons, List.zipWith_nil_left]
        cases hq : q1 with
        | true =>
          try rw [hq] at hn
          repeat rw [vIf_tt] at hn
          repeat rw [vIf_ff] at hn
          repeat rw [vIf_tf] at hn
          repeat rw [vIf_ft] at hn
          try simp at hn
          try simp only [hn]
          go_wp2_with (fail)
          exact ⟨rfl, _, rfl, Below.refl _ _, by first | rfl | simp [vIf]⟩
        | false =>
          try rw [hq] at hn
          repeat rw [vIf_tt] at hn
          repeat rw [vIf_ff] at hn
          repeat rw [vIf_tf] at hn
          repeat rw [vIf_ft] at hn
          try simp at hn
          try simp only [hn]
          go_wp2_with (fail)
          exact ⟨rfl, _, rfl, Below.refl _ _, by first | rfl | simp [vIf]⟩
      · intro xs W hW hn
        simp [flowNeeds, Region.binds] at hn
        simp only [flowAct, List.zipWith_cons_cons, List.zipWith_nil_left]
        cases hq : q1 with
        | true =>
          try rw [hq] at hn
          repeat rw [vIf_tt] at hn
          repeat rw [vIf_ff] at hn
          repeat rw [vIf_tf] at hn
          repeat rw [vIf_ft] at hn
          try simp at hn
          try simp only [hn]
          go_wp2_with (fail)
          exact ⟨rfl, _, rfl, Below.refl _ _, by first | rfl | simp [vIf]⟩
        | false =>
          try rw [hq] at hn
          repeat rw [vIf_tt] at hn
          repeat rw [vIf_ff] at hn
          repeat rw [vIf_tf] at hn
          repeat rw [vIf_ft] at hn
          try simp at hn
          try simp only [hn]
          go_wp2_with (fail)
          exact ⟨rfl, _, rfl, Below.refl _ _, by first | rfl | simp [vIf]⟩
      · intro xs W hW hn
        simp [flowNeeds, Region.binds] at hn
        simp only [flowAct, List.zipWith_cons_cons, List.zipWith_nil_left]
        cases hq : q1 with
        | true =>
          try rw [hq] at hn
          repeat rw [vIf_tt] at hn
          repeat rw [vIf_ff] at hn
          repeat rw [vIf_tf] at hn
          repeat rw [vIf_ft] at hn
          try simp at hn
          simp only [hn]
          go_wp2_with (fail)
          exact ⟨rfl, _, rfl, Below.refl _ _, by rw [← HA9.out, hq]; first | rfl | simp⟩
        | false =>
          try rw [hq] at hn
          repeat rw [vIf_tt] at hn
          repeat rw [vIf_ff] at hn
          repeat rw [vIf_tf] at hn
          repeat rw [vIf_ft] at hn
          try simp at hn
          simp only [hn]
          go_wp2_with (fail)
          exact ⟨rfl, _, rfl, Below.refl _ _, by rw [← HA9.out, hq]; first | rfl | simp⟩
      · intro xs W hW hn
        simp [flowNeeds, Region.binds] at hn
        simp only [flowAct, List.zipWith_cons_cons, List.zipWith_nil_left]
        try simp only [hn]
        go_wp2_with (fail)
        all_goals exact ⟨rfl, _, rfl, Below.refl _ _, rfl⟩
      · intro xs W hW hn
        simp [flowNeeds, Region.binds] at hn
        simp only [flowAct, List.zipWith_cons_cons, List.zipWith_nil_left]
        cases hq : A with
        | true =>
          try rw [hq] at hn
          repeat rw [vIf_tt] at hn
          repeat rw [vIf_ff] at hn
          repeat rw [vIf_tf] at hn
          repeat rw [vIf_ft] at hn
          try simp at hn
          try simp only [hn]
          go_wp2_with (fail)
          exact ⟨rfl, _, rfl, Below.refl _ _, by first | rfl | simp [vIf]⟩
        | false =>
          try rw [hq] at hn
          repeat rw [vIf_tt] at hn
          repeat rw [vIf_ff] at hn
          repeat rw [vIf_tf] at hn
          repeat rw [vIf_ft] at hn
          try simp at hn
          try simp only [hn]
          go_wp2_with (fail)
          exact ⟨rfl, _, rfl, Below.refl _ _, by first | rfl | simp [vIf]⟩
      · intro xs W hW hn
        obtain ⟨c0, c1, c2, c3, c4, c5, c6⟩ := HCW.out W hW
        simp [flowNeeds, Region.binds] at hn
        simp only [flowAct, List.zipWith_cons_cons, List.zipWith_nil_left]
        cases hq : A with
        | true =>
          try rw [hq] at hn
          repeat rw [vIf_tt] at hn
          repeat rw [vIf_ff] at hn
          repeat rw [vIf_tf] at hn
          repeat rw [vIf_ft] at hn
          try simp at hn
          try simp only [hn]
          go_wp2_with (fail)
          exact ⟨rfl, _, rfl, Below.refl _ _, by first | rfl | simp [vIf]⟩
        | false =>
          try rw [hq] at hn
          repeat rw [vIf_tt] at hn
          repeat rw [vIf_ff] at hn
          repeat rw [vIf_tf] at hn
          repeat rw [vIf_ft] at hn
          try simp at hn
          try simp only [hn]
          go_wp2_with (fail)
          exact ⟨rfl, _, rfl, Below.refl _ _, by first | rfl | simp [vIf]⟩
      · intro xs W hW hn
        simp [flowNeeds, Region.binds] at hn
        simp only [flowAct, List.zipWith_cons_cons, List.zipWith_nil_left]
        cases hq : A with
        | true =>
          try rw [hq] at hn
          repeat rw [vIf_tt] at hn
          repeat rw [vIf_ff] at hn
          repeat rw [vIf_tf] at hn
          repeat rw [vIf_ft] at hn
          try simp at hn
          try simp only [hn]
          go_wp2_with (fail)
          exact ⟨rfl, _, rfl, Below.refl _ _, by first | rfl | simp [vIf]⟩
        | false =>
          try rw [hq] at hn
          repeat rw [vIf_tt] at hn
          repeat rw [vIf_ff] at hn
          repeat rw [vIf_tf] at hn
          repeat rw [vIf_ft] at hn
          try simp at hn
          try simp only [hn]
          go_wp2_with (fail)
          exact ⟨rfl, _, rfl, Below.refl _ _, by first | rfl | simp [vIf]⟩
      · intro xs W hW hn
        simp [flowNeeds, Region.binds] at hn
        simp only [flowAct, List.zipWith_cons_cons, List.zipWith_nil_left]
        cases hq : A with
        | true =>
          try rw [hq] at hn
          repeat rw [vIf_tt] at hn
          repeat rw [vIf_ff] at hn
          repeat rw [vIf_tf] at hn
          repeat rw [vIf_ft] at hn
          try simp at hn
          simp only [hn]
          go_wp2_with (fail)
          exact ⟨rfl, _, rfl, Below.refl _ _, by rw [← HBb9.out, hq]; first | rfl | simp⟩
        | false =>
          try rw [hq] at hn
          repeat rw [vIf_tt] at hn
          repeat rw [vIf_ff] at hn
          repeat rw [vIf_tf] at hn
          repeat rw [vIf_ft] at hn
          try simp at hn
          simp only [hn]
          go_wp2_with (fail)
          exact ⟨rfl, _, rfl, Below.refl _ _, by rw [← HBb9.out, hq]; first | rfl | simp⟩
      · intro xs W hW hn
        simp [flowNeeds, Region.binds] at hn
        simp only [flowAct, List.zipWith_cons_cons, List.zipWith_nil_left]
        try simp only [hn]
        go_wp2_with (fail)
        all_goals exact ⟨rfl, _, rfl, Below.refl _ _, rfl⟩
      · intro xs W hW hn
        simp [flowNeeds, Region.binds] at hn
        simp only [flowAct, List.zipWith_cons_cons, List.zipWith_nil_left]
        cases hq : Bb with
        | true =>
          try rw [hq] at hn
          repeat rw [vIf_tt] at hn
          repeat rw [vIf_ff] at hn
          repeat rw [vIf_tf] at hn
          repeat rw [vIf_ft] at hn
          try simp at hn
          try simp only [hn]
          go_wp2_with (fail)
          exact ⟨rfl, _, rfl, Below.refl _ _, by first | rfl | simp [vIf]⟩
        | false =>
          try rw [hq] at hn
          repeat rw [vIf_tt] at hn
          repeat rw [vIf_ff] at hn
          repeat rw [vIf_tf] at hn
          repeat rw [vIf_ft] at hn
          try simp at hn
          try simp only [hn]
          go_wp2_with (fail)
          exact ⟨rfl, _, rfl, Below.refl _ _, by first | rfl | simp [vIf]⟩
      · intro xs W hW hn
        obtain ⟨c0, c1, c2, c3, c4, c5, c6⟩ := HCW.out W hW
        simp [flowNeeds, Region.binds] at hn
        simp only [flowAct, List.zipWith_cons_cons, List.zipWith_nil_left]
        cases hq : Bb with
        | true =>
          try rw [hq] at hn
          repeat rw [vIf_tt] at hn
          repeat rw [vIf_ff] at hn
          repeat rw [vIf_tf] at hn
          repeat rw [vIf_ft] at hn
          try simp at hn
          try simp only [hn]
          go_wp2_with (fail)
          exact ⟨rfl, _, rfl, Below.refl _ _, by first | rfl | simp [vIf]⟩
        | false =>
          try rw [hq] at hn
          repeat rw [vIf_tt] at hn
          repeat rw [vIf_ff] at hn
          repeat rw [vIf_tf] at hn
          repeat rw [vIf_ft] at hn
          try simp at hn
          try simp only [hn]
          go_wp2_with (fail)
          exact ⟨rfl, _, rfl, Below.refl _ _, by first | rfl | simp [vIf]⟩
      · intro xs W hW hn
        simp [flowNeeds, Region.binds] at hn
        simp only [flowAct, List.zipWith_cons_cons, List.zipWith_nil_left]
        cases hq : Bb with
        | true =>
          try rw [hq] at hn
          repeat rw [vIf_tt] at hn
          repeat rw [vIf_ff] at hn
          repeat rw [vIf_tf] at hn
          repeat rw [vIf_ft] at hn
          try simp at hn
          try simp only [hn]
          go_wp2_with (fail)
          exact ⟨rfl, _, rfl, Below.refl _ _, by first | rfl | simp [vIf]⟩
        | false =>
          try rw [hq] at hn
          repeat rw [vIf_tt] at hn
          repeat rw [vIf_ff] at hn
          repeat rw [vIf_tf] at hn
          repeat rw [vIf_ft] at hn
          try simp at hn
          try simp only [hn]
          go_wp2_with (fail)
          exact ⟨rfl, _, rfl, Below.refl _ _, by first | rfl | simp [vIf]⟩
      · intro xs W hW hn
        simp [flowNeeds, Region.binds] at hn
        simp only [flowAct, List.zipWith_cons_cons, List.zipWith_nil_left]
        cases hq : Bb with
        | true =>
          try rw [hq] at hn
          repeat rw [vIf_tt] at hn
          repeat rw [vIf_ff] at hn
          repeat rw [vIf_tf] at hn
          repeat rw [vIf_ft] at hn
          try simp at hn
          simp only [hn]
          go_wp2_with (fail)
          exact ⟨rfl, _, rfl, Below.refl _ _, by rw [← HC9.out, hq]; first | rfl | simp⟩
        | false =>
          try rw [hq] at hn
          repeat rw [vIf_tt] at hn
          repeat rw [vIf_ff] at hn
          repeat rw [vIf_tf] at hn
          repeat rw [vIf_ft] at hn
          try simp at hn
          simp only [hn]
          go_wp2_with (fail)
          exact ⟨rfl, _, rfl, Below.refl _ _, by rw [← HC9.out, hq]; first | rfl | simp⟩
      · intro xs W hW hn
        simp [flowNeeds, Region.binds] at hn
        simp only [flowAct, List.zipWith_cons_cons, List.zipWith_nil_left]
        try simp only [hn]
        go_wp2_with (fail)
        all_goals exact ⟨rfl, _, rfl, Below.refl _ _, rfl⟩
      · intro xs W hW hn
        simp [flowNeeds, Region.binds] at hn
        simp only [flowAct, List.zipWith_cons_cons, List.zipWith_nil_left]
        cases hq : C with
        | true =>
          try rw [hq] at hn
          repeat rw [vIf_tt] at hn
          repeat rw [vIf_ff] at hn
          repeat rw [vIf_tf] at hn
          repeat rw [vIf_ft] at hn
          try simp at hn
          try simp only [hn]
          go_wp2_with (fail)
          exact ⟨rfl, _, rfl, Below.refl _ _, by first | rfl | simp [vIf]⟩
        | false =>
          try rw [hq] at hn
          repeat rw [vIf_tt] at hn
          repeat rw [vIf_ff] at hn
          repeat rw [vIf_tf] at hn
          repeat rw [vIf_ft] at hn
          try simp at hn
          try simp only [hn]
          go_wp2_with (fail)
          exact ⟨rfl, _, rfl, Below.refl _ _, by first | rfl | simp [vIf]⟩
      · intro xs W hW hn
        obtain ⟨c0, c1, c2, c3, c4, c5, c6⟩ := HCW.out W hW
        simp [flowNeeds, Region.binds] at hn
        simp only [flowAct, List.zipWith_cons_cons, List.zipWith_nil_left]
        cases hq : C with
        | true =>
          try rw [hq] at hn
          repeat rw [vIf_tt] at hn
          repeat rw [vIf_ff] at hn
          repeat rw [vIf_tf] at hn
          repeat rw [vIf_ft] at hn
          try simp at hn
          try simp only [hn]
          go_wp2_with (fail)
          exact ⟨rfl, _, rfl, Below.refl _ _, by first | rfl | simp [vIf]⟩
        | false =>
          try rw [hq] at hn
          repeat rw [vIf_tt] at hn
          repeat rw [vIf_ff] at hn
          repeat rw [vIf_tf] at hn
          repeat rw [vIf_ft] at hn
          try simp at hn
          try simp only [hn]
          go_wp2_with (fail)
          exact ⟨rfl, _, rfl, Below.refl _ _, by first | rfl | simp [vIf]⟩
      · intro xs W hW hn
        simp [flowNeeds, Region.binds] at hn
        simp only [flowAct, List.zipWith_cons_cons, List.zipWith_nil_left]
        cases hq : C with
        | true =>
          try rw [hq] at hn
          repeat rw [vIf_tt] at hn
          repeat rw [vIf_ff] at hn
          repeat rw [vIf_tf] at hn
          repeat rw [vIf_ft] at hn
          try simp at hn
          try simp only [hn]
          go_wp2_with (fail)
          exact ⟨rfl, _, rfl, Below.refl _ _, by first | rfl | simp [vIf]⟩
        | false =>
          try rw [hq] at hn
          repeat rw [vIf_tt] at hn
          repeat rw [vIf_ff] at hn
          repeat rw [vIf_tf] at hn
          repeat rw [vIf_ft] at hn
          try simp at hn
          try simp only [hn]
          go_wp2_with (go_at_call 37; (with_reducible refine (HSG.out _).mono ?_); rintro e9 w9 ⟨rfl, hb9⟩)
          all_goals exact ⟨rfl, _, rfl, hb9, by first | rfl | simp [vIf]⟩
      · intro xs W hW hn
        simp [flowNeeds, Region.binds] at hn
        simp only [flowAct, List.zipWith_cons_cons, List.zipWith_nil_left]
        cases hq : C with
        | true =>
          try rw [hq] at hn
          repeat rw [vIf_tt] at hn
          repeat rw [vIf_ff] at hn
          repeat rw [vIf_tf] at hn
          repeat rw [vIf_ft] at hn
          try simp at hn
          try simp only [hn]
          go_wp2_with (fail)
          exact ⟨rfl, _, rfl, Below.refl _ _, by first | rfl | simp [vIf]⟩
        | false =>
          try rw [hq] at hn
          repeat rw [vIf_tt] at hn
          repeat rw [vIf_ff] at hn
          repeat rw [vIf_tf] at hn
          repeat rw [vIf_ft] at hn
          try simp at hn
          try simp only [hn]
          go_wp2_with (fail)
          exact ⟨rfl, _, rfl, Below.refl _ _, by first | rfl | simp [vIf]⟩
      · intro xs W hW hn
        simp [flowNeeds, Region.binds] at hn
        simp only [flowAct, List.zipWith_cons_cons, List.zipWith_nil_left]
        cases hq : C with
        | true =>
          try rw [hq] at hn
          repeat rw [vIf_tt] at hn
          repeat rw [vIf_ff] at hn
          repeat rw [vIf_tf] at hn
          repeat rw [vIf_ft] at hn
          try simp at hn
          simp only [hn]
          go_wp2_with (fail)
          exact ⟨rfl, _, rfl, Below.refl _ _, by rw [← HD9.out, hq]; first | rfl | simp⟩
        | false =>
          try rw [hq] at hn
          repeat rw [vIf_tt] at hn
          repeat rw [vIf_ff] at hn
          repeat rw [vIf_tf] at hn
          repeat rw [vIf_ft] at hn
          try simp at hn
          simp only [hn]
          go_wp2_with (fail)
          exact ⟨rfl, _, rfl, Below.refl _ _, by rw [← HD9.out, hq]; first | rfl | simp⟩
      · intro xs W hW hn
        simp [flowNeeds, Region.binds] at hn
        simp only [flowAct, List.zipWith_cons_cons, List.zipWith_nil_left]
        try simp only [hn]
        go_wp2_with (fail)
        all_goals exact ⟨rfl, _, rfl, Below.refl _ _, rfl⟩
      · intro xs W hW hn
        simp [flowNeeds, Region.binds] at hn
        simp only [flowAct, List.zipWith_cons_cons, List.zipWith_nil_left]
        cases hq : D with
        | true =>
          try rw [hq] at hn
          repeat rw [vIf_tt] at hn
          repeat rw [vIf_ff] at hn
          repeat rw [vIf_tf] at hn
          repeat rw [vIf_ft] at hn
          try simp at hn
          try simp only [hn]
          go_wp2_with (fail)
          exact ⟨rfl, _, rfl, Below.refl _ _, by first | rfl | simp [vIf]⟩
        | false =>
          try rw [hq] at hn
          repeat rw [vIf_tt] at hn
          repeat rw [vIf_ff] at hn
          repeat rw [vIf_tf] at hn
          repeat rw [vIf_ft] at hn
          try simp at hn
          try simp only [hn]
          go_wp2_with (fail)
          exact ⟨rfl, _, rfl, Below.refl _ _, by first | rfl | simp [vIf]⟩
      · intro xs W hW hn
        simp [flowNeeds, Region.binds] at hn
        simp only [flowAct, List.zipWith_cons_cons, List.zipWith_nil_left]
        cases hq : D with
        | true =>
          try rw [hq] at hn
          repeat rw [vIf_tt] at hn
          repeat rw [vIf_ff] at hn
          repeat rw [vIf_tf] at hn
          repeat rw [vIf_ft] at hn
          try simp at hn
          try simp only [hn]
          go_wp2_with (fail)
          exact ⟨rfl, _, rfl, Below.refl _ _, by first | rfl | simp [vIf]⟩
        | false =>
          try rw [hq] at hn
          repeat rw [vIf_tt] at hn
          repeat rw [vIf_ff] at hn
          repeat rw [vIf_tf] at hn
          repeat rw [vIf_ft] at hn
          try simp at hn
          try simp only [hn]
          go_wp2_with (fail)
          exact ⟨rfl, _, rfl, Below.refl _ _, by first | rfl | simp [vIf]⟩
      · intro xs W hW hn
        obtain ⟨c0, c1, c2, c3, c4, c5, c6⟩ := HCW.out W hW
        simp [flowNeeds, Region.binds] at hn
        simp only [flowAct, List.zipWith_cons_cons, List.zipWith_nil_left]
        cases hq : D with
        | true =>
          try rw [hq] at hn
          repeat rw [vIf_tt] at hn
          repeat rw [vIf_ff] at hn
          repeat rw [vIf_tf] at hn
          repeat rw [vIf_ft] at hn
          try simp at hn
          try simp only [hn]
          go_wp2_with (fail)
          exact ⟨rfl, _, rfl, Below.refl _ _, by first | rfl | simp [vIf]⟩
        | false =>
          try rw [hq] at hn
          repeat rw [vIf_tt] at hn
          repeat rw [vIf_ff] at hn
          repeat rw [vIf_tf] at hn
          repeat rw [vIf_ft] at hn
          try simp at hn
          try simp only [hn]
          go_wp2_with (fail)
          exact ⟨rfl, _, rfl, Below.refl _ _, by first | rfl | simp [vIf]⟩
      · intro xs W hW hn
        simp [flowNeeds, Region.binds] at hn
        simp only [flowAct, List.zipWith_cons_cons, List.zipWith_nil_left]
        cases hq : D with
        | true =>
          try rw [hq] at hn
          repeat rw [vIf_tt] at hn
          repeat rw [vIf_ff] at hn
          repeat rw [vIf_tf] at hn
          repeat rw [vIf_ft] at hn
          try simp at hn
          try simp only [hn]
          go_wp2_with (fail)
          exact ⟨rfl, _, rfl, Below.refl _ _, by first | rfl | simp [vIf]⟩
        | false =>
          try rw [hq] at hn
          repeat rw [vIf_tt] at hn
          repeat rw [vIf_ff] at hn
          repeat rw [vIf_tf] at hn
          repeat rw [vIf_ft] at hn
          try simp at hn
          try simp only [hn]
          go_wp2_with (fail)
          exact ⟨rfl, _, rfl, Below.refl _ _, by first | rfl | simp [vIf]⟩
      · intro xs W hW hn
        obtain ⟨c0, c1, c2, c3, c4, c5, c6⟩ := HCW.out W hW
        simp [flowNeeds, Region.binds] at hn
        simp only [flowAct, List.zipWith_cons_cons, List.zipWith_nil_left]
        cases hq : D with
        | true =>
          try rw [hq] at hn
          repeat rw [vIf_tt] at hn
          repeat rw [vIf_ff] at hn
          repeat rw [vIf_tf] at hn
          repeat rw [vIf_ft] at hn
          try simp at hn
          try simp only [hn]
          go_wp2_with (fail)
          exact ⟨rfl, _, rfl, Below.refl _ _, by first | rfl | simp [vIf]⟩
        | false =>
          try rw [hq] at hn
          repeat rw [vIf_tt] at hn
          repeat rw [vIf_ff] at hn
          repeat rw [vIf_tf] at hn
          repeat rw [vIf_ft] at hn
          try simp at hn
          try simp only [hn]
          go_wp2_with (fail)
          exact ⟨rfl, _, rfl, Below.refl _ _, by first | rfl | simp [vIf]⟩
      · intro xs W hW hn
        simp [flowNeeds, Region.binds] at hn
        simp only [flowAct, List.zipWith_cons_cons, List.zipWith_nil_left]
        cases hq : D with
        | true =>
          try rw [hq] at hn
          repeat rw [vIf_tt] at hn
          repeat rw [vIf_ff] at hn
          repeat rw [vIf_tf] at hn
          repeat rw [vIf_ft] at hn
          try simp at hn
          try simp only [hn]
          go_wp2_with (fail)
          exact ⟨rfl, _, rfl, Below.refl _ _, by first | rfl | simp [vIf]⟩
        | false =>
          try rw [hq] at hn
          repeat rw [vIf_tt] at hn
          repeat rw [vIf_ff] at hn
          repeat rw [vIf_tf] at hn
          repeat rw [vIf_ft] at hn
          try simp at hn
          try simp only [hn]
          go_wp2_with (fail)
          exact ⟨rfl, _, rfl, Below.refl _ _, by first | rfl | simp [vIf]⟩
      · intro xs W hW hn
        simp [flowNeeds, Region.binds] at hn
        simp only [flowAct, List.zipWith_cons_cons, List.zipWith_nil_left]
        cases hq : D with
        | true =>
          try rw [hq] at hn
          repeat rw [vIf_tt] at hn
          repeat rw [vIf_ff] at hn
          repeat rw [vIf_tf] at hn
          repeat rw [vIf_ft] at hn
          try simp at hn
          simp only [hn]
          go_wp2_with (fail)
          exact ⟨rfl, _, rfl, Below.refl _ _, by rw [← HE9.out, hq]; first | rfl | simp⟩
        | false =>
          try rw [hq] at hn
          repeat rw [vIf_tt] at hn
          repeat rw [vIf_ff] at hn
          repeat rw [vIf_tf] at hn
          repeat rw [vIf_ft] at hn
          try simp at hn
          simp only [hn]
          go_wp2_with (fail)
          exact ⟨rfl, _, rfl, Below.refl _ _, by rw [← HE9.out, hq]; first | rfl | simp⟩
      · intro xs W hW hn
        simp [flowNeeds, Region.binds] at hn
        simp only [flowAct, List.zipWith_cons_cons, List.zipWith_nil_left]
        try simp only [hn]
        go_wp2_with (fail)
        all_goals exact ⟨rfl, _, rfl, Below.refl _ _, rfl⟩
      · intro xs W hW hn
        simp [flowNeeds, Region.binds] at hn
        simp only [flowAct, List.zipWith_cons_cons, List.zipWith_nil_left]
        cases hq : E with
        | true =>
          try rw [hq] at hn
          repeat rw [vIf_tt] at hn
          repeat rw [vIf_ff] at hn
          repeat rw [vIf_tf] at hn
          repeat rw [vIf_ft] at hn
          try simp at hn
          try simp only [hn]
          go_wp2_with (fail)
          exact ⟨rfl, _, rfl, Below.refl _ _, by first | rfl | simp [vIf]⟩
        | false =>
          try rw [hq] at hn
          repeat rw [vIf_tt] at hn
          repeat rw [vIf_ff] at hn
          repeat rw [vIf_tf] at hn
          repeat rw [vIf_ft] at hn
          try simp at hn
          try simp only [hn]
          go_wp2_with (fail)
          exact ⟨rfl, _, rfl, Below.refl _ _, by first | rfl | simp [vIf]⟩
      · intro xs W hW hn
        obtain ⟨c0, c1, c2, c3, c4, c5, c6⟩ := HCW.out W hW
        simp [flowNeeds, Region.binds] at hn
        simp only [flowAct, List.zipWith_cons_cons, List.zipWith_nil_left]
        cases hq : E with
        | true =>
          try rw [hq] at hn
          repeat rw [vIf_tt] at hn
          repeat rw [vIf_ff] at hn
          repeat rw [vIf_tf] at hn
          repeat rw [vIf_ft] at hn
          try simp at hn
          try simp only [hn]
          go_wp2_with (fail)
          exact ⟨rfl, _, rfl, Below.refl _ _, by first | rfl | simp [vIf]⟩
        | false =>
          try rw [hq] at hn
          repeat rw [vIf_tt] at hn
          repeat rw [vIf_ff] at hn
          repeat rw [vIf_tf] at hn
          repeat rw [vIf_ft] at hn
          try simp at hn
          try simp only [hn]
          go_wp2_with (fail)
          exact ⟨rfl, _, rfl, Below.refl _ _, by first | rfl | simp [vIf]⟩
      · intro xs W hW hn
        simp [flowNeeds, Region.binds] at hn
        simp only [flowAct, List.zipWith_cons_cons, List.zipWith_nil_left]
        cases hq : E with
        | true =>
          try rw [hq] at hn
          repeat rw [vIf_tt] at hn
          repeat rw [vIf_ff] at hn
          repeat rw [vIf_tf] at hn
          repeat rw [vIf_ft] at hn
          try simp at hn
          try simp only [hn]
          go_wp2_with (fail)
          exact ⟨rfl, _, rfl, Below.refl _ _, by first | rfl | simp [vIf]⟩
        | false =>
          try rw [hq] at hn
          repeat rw [vIf_tt] at hn
          repeat rw [vIf_ff] at hn
          repeat rw [vIf_tf] at hn
          repeat rw [vIf_ft] at hn
          try simp at hn
          try simp only [hn]
          go_wp2_with (go_at_call 38; (with_reducible refine (HVG.out _).mono ?_); rintro e9 w9 ⟨rfl, hb9⟩)
          all_goals exact ⟨rfl, _, rfl, hb9, by first | rfl | simp [vIf]⟩
      · intro xs W hW hn
        simp [flowNeeds, Region.binds] at hn
        simp only [flowAct, List.zipWith_cons_cons, List.zipWith_nil_left]
        cases hq : E with
        | true =>
          try rw [hq] at hn
          repeat rw [vIf_tt] at hn
          repeat rw [vIf_ff] at hn
          repeat rw [vIf_tf] at hn
          repeat rw [vIf_ft] at hn
          try simp at hn
          try simp only [hn]
          go_wp2_with (fail)
          exact ⟨rfl, _, rfl, Below.refl _ _, by first | rfl | simp [vIf]⟩
        | false =>
          try rw [hq] at hn
          repeat rw [vIf_tt] at hn
          repeat rw [vIf_ff] at hn
          repeat rw [vIf_tf] at hn
          repeat rw [vIf_ft] at hn
          try simp at hn
          try simp only [hn]
          go_wp2_with (fail)
          exact ⟨rfl, _, rfl, Below.refl _ _, by first | rfl | simp [vIf]⟩
      · intro xs W hW hn
        simp [flowNeeds, Region.binds] at hn
        simp only [flowAct, List.zipWith_cons_cons, List.zipWith_nil_left]
        cases hq : E with
        | true =>
          try rw [hq] at hn
          repeat rw [vIf_tt] at hn
          repeat rw [vIf_ff] at hn
          repeat rw [vIf_tf] at hn
          repeat rw [vIf_ft] at hn
          try simp at hn
          simp only [hn]
          go_wp2_with (fail)
          exact ⟨rfl, _, rfl, Below.refl _ _, by rw [← HF9.out, hq]; first | rfl | simp⟩
        | false =>
          try rw [hq] at hn
          repeat rw [vIf_tt] at hn
          repeat rw [vIf_ff] at hn
          repeat rw [vIf_tf] at hn
          repeat rw [vIf_ft] at hn
          try simp at hn
          simp only [hn]
          go_wp2_with (fail)
          exact ⟨rfl, _, rfl, Below.refl _ _, by rw [← HF9.out, hq]; first | rfl | simp⟩
      · intro xs W hW hn
        simp [flowNeeds, Region.binds] at hn
        simp only [flowAct, List.zipWith_cons_cons, List.zipWith_nil_left]
        try simp only [hn]
        go_wp2_with (fail)
        all_goals exact ⟨rfl, _, rfl, Below.refl _ _, rfl⟩
      · intro xs W hW hn
        simp [flowNeeds, Region.binds] at hn
        simp only [flowAct, List.zipWith_cons_cons, List.zipWith_nil_left]
        cases hq : F with
        | true =>
          try rw [hq] at hn
          repeat rw [vIf_tt] at hn
          repeat rw [vIf_ff] at hn
          repeat rw [vIf_tf] at hn
          repeat rw [vIf_ft] at hn
          try simp at hn
          try simp only [hn]
          go_wp2_with (fail)
          exact ⟨rfl, _, rfl, Below.refl _ _, by first | rfl | simp [vIf]⟩
        | false =>
          try rw [hq] at hn
          repeat rw [vIf_tt] at hn
          repeat rw [vIf_ff] at hn
          repeat rw [vIf_tf] at hn
          repeat rw [vIf_ft] at hn
          try simp at hn
          try simp only [hn]
          go_wp2_with (fail)
          exact ⟨rfl, _, rfl, Below.refl _ _, by first | rfl | simp [vIf]⟩
      · intro xs W hW hn
        obtain ⟨c0, c1, c2, c3, c4, c5, c6⟩ := HCW.out W hW
        simp [flowNeeds, Region.binds] at hn
        simp only [flowAct, List.zipWith_cons_cons, List.zipWith_nil_left]
        cases hq : F with
        | true =>
          try rw [hq] at hn
          repeat rw [vIf_tt] at hn
          repeat rw [vIf_ff] at hn
          repeat rw [vIf_tf] at hn
          repeat rw [vIf_ft] at hn
          try simp at hn
          try simp only [hn]
          go_wp2_with (fail)
          exact ⟨rfl, _, rfl, Below.refl _ _, by first | rfl | simp [vIf]⟩
        | false =>
          try rw [hq] at hn
          repeat rw [vIf_tt] at hn
          repeat rw [vIf_ff] at hn
          repeat rw [vIf_tf] at hn
          repeat rw [vIf_ft] at hn
          try simp at hn
          try simp only [hn]
          go_wp2_with (fail)
          exact ⟨rfl, _, rfl, Below.refl _ _, by first | rfl | simp [vIf]⟩
      · intro xs W hW hn
        simp [flowNeeds, Region.binds] at hn
        simp only [flowAct, List.zipWith_cons_cons, List.zipWith_nil_left]
        cases hq : F with
        | true =>
          try rw [hq] at hn
          repeat rw [vIf_tt] at hn
          repeat rw [vIf_ff] at hn
          repeat rw [vIf_tf] at hn
          repeat rw [vIf_ft] at hn
          try simp at hn
          try simp only [hn]
          go_wp2_with (fail)
          exact ⟨rfl, _, rfl, Below.refl _ _, by first | rfl | simp [vIf]⟩
        | false =>
          try rw [hq] at hn
          repeat rw [vIf_tt] at hn
          repeat rw [vIf_ff] at hn
          repeat rw [vIf_tf] at hn
          repeat rw [vIf_ft] at hn
          try simp at hn
          try simp only [hn]
          obtain ⟨z1, z2, z3, z4, z5, z8⟩ := HZZ.out hq
          clear z8 z3
          go_wp2_with (fail)
          exact ⟨rfl, _, rfl, Below.refl _ _, by first | rfl | (simp [vIf, z1])⟩
      · intro xs W hW hn
        simp [flowNeeds, Region.binds] at hn
        simp only [flowAct, List.zipWith_cons_cons, List.zipWith_nil_left]
        cases hq : F with
        | true =>
          try rw [hq] at hn
          repeat rw [vIf_tt] at hn
          repeat rw [vIf_ff] at hn
          repeat rw [vIf_tf] at hn
          repeat rw [vIf_ft] at hn
          try simp at hn
          try simp only [hn]
          go_wp2_with (fail)
          exact ⟨rfl, _, rfl, Below.refl _ _, by first | rfl | simp [vIf]⟩
        | false =>
          try rw [hq] at hn
          repeat rw [vIf_tt] at hn
          repeat rw [vIf_ff] at hn
          repeat rw [vIf_tf] at hn
          repeat rw [vIf_ft] at hn
          try simp at hn
          try simp only [hn]
          go_wp2_with (fail)
          exact ⟨rfl, _, rfl, Below.refl _ _, by first | rfl | simp [vIf]⟩
      · intro xs W hW hn
        simp [flowNeeds, Region.binds] at hn
        simp only [flowAct, List.zipWith_cons_cons, List.zipWith_nil_left]
        cases hq : F with
        | true =>
          try rw [hq] at hn
          repeat rw [vIf_tt] at hn
          repeat rw [vIf_ff] at hn
          repeat rw [vIf_tf] at hn
          repeat rw [vIf_ft] at hn
          try simp at hn
          try simp only [hn]
          go_wp2_with (fail)
          exact ⟨rfl, _, rfl, Below.refl _ _, by first | rfl | simp [vIf]⟩
        | false =>
          try rw [hq] at hn
          repeat rw [vIf_tt] at hn
          repeat rw [vIf_ff] at hn
          repeat rw [vIf_tf] at hn
          repeat rw [vIf_ft] at hn
          try simp at hn
          try simp only [hn]
          obtain ⟨z1, z2, z3, z4, z5, z8⟩ := HZZ.out hq
          have z6 : (zz : Int) < 2 := by omega
          clear z8 z3
          go_wp2_with (fail)
          exact ⟨rfl, _, rfl, Below.refl _ _, by first | rfl | simp [vIf]⟩
      · intro xs W hW hn
        obtain ⟨c0, c1, c2, c3, c4, c5, c6⟩ := HCW.out W hW
        simp [flowNeeds, Region.binds] at hn
        simp only [flowAct, List.zipWith_cons_cons, List.zipWith_nil_left]
        cases hq : F with
        | true =>
          try rw [hq] at hn
          repeat rw [vIf_tt] at hn
          repeat rw [vIf_ff] at hn
          repeat rw [vIf_tf] at hn
          repeat rw [vIf_ft] at hn
          try simp at hn
          try simp only [hn]
          go_wp2_with (fail)
          exact ⟨rfl, _, rfl, Below.refl _ _, by first | rfl | simp [vIf]⟩
        | false =>
          try rw [hq] at hn
          repeat rw [vIf_tt] at hn
          repeat rw [vIf_ff] at hn
          repeat rw [vIf_tf] at hn
          repeat rw [vIf_ft] at hn
          try simp at hn
          try simp only [hn]
          obtain ⟨z1, z2, z3, z4, z5, z8⟩ := HZZ.out hq
          have z7 : W.cell? ⟨B, 4 + zz, none⟩ = some (.int .i64 VV) := by
            rcases z8 with ⟨h, h2⟩ | ⟨h, h2⟩
            · rw [h, h2]; exact c4
            · rw [h, h2]; exact c5
          clear z8 z3
          go_wp2_with (fail)
          exact ⟨rfl, _, rfl, Below.refl _ _, by first | rfl | simp [vIf]⟩
      · intro xs W hW hn
        simp [flowNeeds, Region.binds] at hn
        simp only [flowAct, List.zipWith_cons_cons, List.zipWith_nil_left]
        cases hq : F with
        | true =>
          try rw [hq] at hn
          repeat rw [vIf_tt] at hn
          repeat rw [vIf_ff] at hn
          repeat rw [vIf_tf] at hn
          repeat rw [vIf_ft] at hn
          try simp at hn
          try simp only [hn]
          go_wp2_with (fail)
          exact ⟨rfl, _, rfl, Below.refl _ _, by first | rfl | simp [vIf]⟩
        | false =>
          try rw [hq] at hn
          repeat rw [vIf_tt] at hn
          repeat rw [vIf_ff] at hn
          repeat rw [vIf_tf] at hn
          repeat rw [vIf_ft] at hn
          try simp at hn
          try simp only [hn]
          go_wp2_with (fail)
          exact ⟨rfl, _, rfl, Below.refl _ _, by first | rfl | simp [vIf]⟩
      · intro xs W hW hn
        obtain ⟨c0, c1, c2, c3, c4, c5, c6⟩ := HCW.out W hW
        simp [flowNeeds, Region.binds] at hn
        simp only [flowAct, List.zipWith_cons_cons, List.zipWith_nil_left]
        cases hq : F with
        | true =>
          try rw [hq] at hn
          repeat rw [vIf_tt] at hn
          repeat rw [vIf_ff] at hn
          repeat rw [vIf_tf] at hn
          repeat rw [vIf_ft] at hn
          try simp at hn
          try simp only [hn]
          go_wp2_with (fail)
          exact ⟨rfl, _, rfl, Below.refl _ _, by first | rfl | simp [vIf]⟩
        | false =>
          try rw [hq] at hn
          repeat rw [vIf_tt] at hn
          repeat rw [vIf_ff] at hn
          repeat rw [vIf_tf] at hn
          repeat rw [vIf_ft] at hn
          try simp at hn
          try simp only [hn]
          go_wp2_with (fail)
          exact ⟨rfl, _, rfl, Below.refl _ _, by first | rfl | simp [vIf]⟩
      · intro xs W hW hn
        simp [flowNeeds, Region.binds] at hn
        simp only [flowAct, List.zipWith_cons_cons, List.zipWith_nil_left]
        cases hq : F with
        | true =>
          try rw [hq] at hn
          repeat rw [vIf_tt] at hn
          repeat rw [vIf_ff] at hn
          repeat rw [vIf_tf] at hn
          repeat rw [vIf_ft] at hn
          try simp at hn
          try simp only [hn]
          go_wp2_with (fail)
          exact ⟨rfl, _, rfl, Below.refl _ _, by first | rfl | simp [vIf]⟩
        | false =>
          try rw [hq] at hn
          repeat rw [vIf_tt] at hn
          repeat rw [vIf_ff] at hn
          repeat rw [vIf_tf] at hn
          repeat rw [vIf_ft] at hn
          try simp at hn
          try simp only [hn]
          obtain ⟨z1, z2, z3, z4, z5, z8⟩ := HZZ.out hq
          clear z8
          go_wp2_with (fail)
          exact ⟨rfl, _, rfl, Below.refl _ _, by first | rfl | simp [vIf]⟩
      · intro xs W hW hn
        simp [flowNeeds, Region.binds] at hn
        simp only [flowAct, List.zipWith_cons_cons, List.zipWith_nil_left]
        cases hq : F with
        | true =>
          try rw [hq] at hn
          repeat rw [vIf_tt] at hn
          repeat rw [vIf_ff] at hn
          repeat rw [vIf_tf] at hn
          repeat rw [vIf_ft] at hn
          try simp at hn
          simp only [hn]
          go_wp2_with (fail)
          exact ⟨rfl, _, rfl, Below.refl _ _, by rw [← HG9.out, hq]; first | rfl | simp⟩
        | false =>
          try rw [hq] at hn
          repeat rw [vIf_tt] at hn
          repeat rw [vIf_ff] at hn
          repeat rw [vIf_tf] at hn
          repeat rw [vIf_ft] at hn
          try simp at hn
          simp only [hn]
          go_wp2_with (fail)
          exact ⟨rfl, _, rfl, Below.refl _ _, by rw [← HG9.out, hq]; first | rfl | simp⟩
      · intro xs W hW hn
        simp [flowNeeds, Region.binds] at hn
        simp only [flowAct, List.zipWith_cons_cons, List.zipWith_nil_left]
        try simp only [hn]
        go_wp2_with (fail)
        all_goals exact ⟨rfl, _, rfl, Below.refl _ _, rfl⟩
      · intro xs W hW hn
        simp [flowNeeds, Region.binds] at hn
        simp only [flowAct, List.zipWith_cons_cons, List.zipWith_nil_left]
        cases hq : G with
        | true =>
          try rw [hq] at hn
          repeat rw [vIf_tt] at hn
          repeat rw [vIf_ff] at hn
          repeat rw [vIf_tf] at hn
          repeat rw [vIf_ft] at hn
          try simp at hn
          try simp only [hn]
          go_wp2_with (fail)
          exact ⟨rfl, _, rfl, Below.refl _ _, by first | rfl | simp [vIf]⟩
        | false =>
          try rw [hq] at hn
          repeat rw [vIf_tt] at hn
          repeat rw [vIf_ff] at hn
          repeat rw [vIf_tf] at hn
          repeat rw [vIf_ft] at hn
          try simp at hn
          try simp only [hn]
          go_wp2_with (fail)
          exact ⟨rfl, _, rfl, Below.refl _ _, by first | rfl | simp [vIf]⟩
      · intro xs W hW hn
        obtain ⟨c0, c1, c2, c3, c4, c5, c6⟩ := HCW.out W hW
        simp [flowNeeds, Region.binds] at hn
        simp only [flowAct, List.zipWith_cons_cons, List.zipWith_nil_left]
        cases hq : G with
        | true =>
          try rw [hq] at hn
          repeat rw [vIf_tt] at hn
          repeat rw [vIf_ff] at hn
          repeat rw [vIf_tf] at hn
          repeat rw [vIf_ft] at hn
          try simp at hn
          try simp only [hn]
          go_wp2_with (fail)
          exact ⟨rfl, _, rfl, Below.refl _ _, by first | rfl | simp [vIf]⟩
        | false =>
          try rw [hq] at hn
          repeat rw [vIf_tt] at hn
          repeat rw [vIf_ff] at hn
          repeat rw [vIf_tf] at hn
          repeat rw [vIf_ft] at hn
          try simp at hn
          try simp only [hn]
          go_wp2_with (fail)
          exact ⟨rfl, _, rfl, Below.refl _ _, by first | rfl | simp [vIf]⟩
      · intro xs W hW hn
        simp [flowNeeds, Region.binds] at hn
        simp only [flowAct, List.zipWith_cons_cons, List.zipWith_nil_left]
        cases hq : G with
        | true =>
          try rw [hq] at hn
          repeat rw [vIf_tt] at hn
          repeat rw [vIf_ff] at hn
          repeat rw [vIf_tf] at hn
          repeat rw [vIf_ft] at hn
          try simp at hn
          try simp only [hn]
          go_wp2_with (fail)
          exact ⟨rfl, _, rfl, Below.refl _ _, by first | rfl | simp [vIf]⟩
        | false =>
          try rw [hq] at hn
          repeat rw [vIf_tt] at hn
          repeat rw [vIf_ff] at hn
          repeat rw [vIf_tf] at hn
          repeat rw [vIf_ft] at hn
          try simp at hn
          try simp only [hn]
          go_wp2_with (fail)
          exact ⟨rfl, _, rfl, Below.refl _ _, by first | rfl | simp [vIf]⟩
      · intro xs W hW hn
        simp [flowNeeds, Region.binds] at hn
        simp only [flowAct, List.zipWith_cons_cons, List.zipWith_nil_left]
        cases hq : G with
        | true =>
          try rw [hq] at hn
          repeat rw [vIf_tt] at hn
          repeat rw [vIf_ff] at hn
          repeat rw [vIf_tf] at hn
          repeat rw [vIf_ft] at hn
          try simp at hn
          try simp only [hn]
          go_wp2_with (fail)
          exact ⟨rfl, _, rfl, Below.refl _ _, by first | rfl | simp [vIf]⟩
        | false =>
          try rw [hq] at hn
          repeat rw [vIf_tt] at hn
          repeat rw [vIf_ff] at hn
          repeat rw [vIf_tf] at hn
          repeat rw [vIf_ft] at hn
          try simp at hn
          try simp only [hn]
          go_wp2_with (fail)
          exact ⟨rfl, _, rfl, Below.refl _ _, by first | rfl | simp [vIf]⟩
      · intro xs W hW hn
        simp [flowNeeds, Region.binds] at hn
        simp only [flowAct, List.zipWith_cons_cons, List.zipWith_nil_left]
        cases hq : G with
        | true =>
          try rw [hq] at hn
          repeat rw [vIf_tt] at hn
          repeat rw [vIf_ff] at hn
          repeat rw [vIf_tf] at hn
          repeat rw [vIf_ft] at hn
          try simp at hn
          simp only [hn]
          go_wp2_with (fail)
          exact ⟨rfl, _, rfl, Below.refl _ _, by rw [← HH9.out, hq]; first | rfl | simp⟩
        | false =>
          try rw [hq] at hn
          repeat rw [vIf_tt] at hn
          repeat rw [vIf_ff] at hn
          repeat rw [vIf_tf] at hn
          repeat rw [vIf_ft] at hn
          try simp at hn
          simp only [hn]
          go_wp2_with (fail)
          exact ⟨rfl, _, rfl, Below.refl _ _, by rw [← HH9.out, hq]; first | rfl | simp⟩
      · intro xs W hW hn
        simp [flowNeeds, Region.binds] at hn
        simp only [flowAct, List.zipWith_cons_cons, List.zipWith_nil_left]
        try simp only [hn]
        go_wp2_with (fail)
        all_goals exact ⟨rfl, _, rfl, Below.refl _ _, rfl⟩
      · intro xs W hW hn
        simp [flowNeeds, Region.binds] at hn
        simp only [flowAct, List.zipWith_cons_cons, List.zipWith_nil_left]
        cases hq : H with
        | true =>
          try rw [hq] at hn
          repeat rw [vIf_tt] at hn
          repeat rw [vIf_ff] at hn
          repeat rw [vIf_tf] at hn
          repeat rw [vIf_ft] at hn
          try simp at hn
          try simp only [hn]
          go_wp2_with (fail)
          exact ⟨rfl, _, rfl, Below.refl _ _, by first | rfl | simp [vIf]⟩
        | false =>
          try rw [hq] at hn
          repeat rw [vIf_tt] at hn
          repeat rw [vIf_ff] at hn
          repeat rw [vIf_tf] at hn
          repeat rw [vIf_ft] at hn
          try simp at hn
          try simp only [hn]
          go_wp2_with (fail)
          exact ⟨rfl, _, rfl, Below.refl _ _, by first | rfl | simp [vIf]⟩
      · intro xs W hW hn
        obtain ⟨c0, c1, c2, c3, c4, c5, c6⟩ := HCW.out W hW
        simp [flowNeeds, Region.binds] at hn
        simp only [flowAct, List.zipWith_cons_cons, List.zipWith_nil_left]
        cases hq : H with
        | true =>
          try rw [hq] at hn
          repeat rw [vIf_tt] at hn
          repeat rw [vIf_ff] at hn
          repeat rw [vIf_tf] at hn
          repeat rw [vIf_ft] at hn
          try simp at hn
          try simp only [hn]
          go_wp2_with (fail)
          exact ⟨rfl, _, rfl, Below.refl _ _, by first | rfl | simp [vIf]⟩
        | false =>
          try rw [hq] at hn
          repeat rw [vIf_tt] at hn
          repeat rw [vIf_ff] at hn
          repeat rw [vIf_tf] at hn
          repeat rw [vIf_ft] at hn
          try simp at hn
          try simp only [hn]
          go_wp2_with (fail)
          exact ⟨rfl, _, rfl, Below.refl _ _, by first | rfl | simp [vIf]⟩
      · intro xs W hW hn
        simp [flowNeeds, Region.binds] at hn
        simp only [flowAct, List.zipWith_cons_cons, List.zipWith_nil_left]
        cases hq : H with
        | true =>
          try rw [hq] at hn
          repeat rw [vIf_tt] at hn
          repeat rw [vIf_ff] at hn
          repeat rw [vIf_tf] at hn
          repeat rw [vIf_ft] at hn
          try simp at hn
          try simp only [hn]
          go_wp2_with (fail)
          exact ⟨rfl, _, rfl, Below.refl _ _, by first | rfl | simp [vIf]⟩
        | false =>
          try rw [hq] at hn
          repeat rw [vIf_tt] at hn
          repeat rw [vIf_ff] at hn
          repeat rw [vIf_tf] at hn
          repeat rw [vIf_ft] at hn
          try simp at hn
          try simp only [hn]
          go_wp2_with (fail)
          exact ⟨rfl, _, rfl, Below.refl _ _, by first | rfl | simp [vIf]⟩
      · intro xs W hW hn
        simp [flowNeeds, Region.binds] at hn
        simp only [flowAct, List.zipWith_cons_cons, List.zipWith_nil_left]
        cases hq : H with
        | true =>
          try rw [hq] at hn
          repeat rw [vIf_tt] at hn
          repeat rw [vIf_ff] at hn
          repeat rw [vIf_tf] at hn
          repeat rw [vIf_ft] at hn
          try simp at hn
          try simp only [hn]
          go_wp2_with (fail)
          exact ⟨rfl, _, rfl, Below.refl _ _, by first | rfl | simp [vIf]⟩
        | false =>
          try rw [hq] at hn
          repeat rw [vIf_tt] at hn
          repeat rw [vIf_ff] at hn
          repeat rw [vIf_tf] at hn
          repeat rw [vIf_ft] at hn
          try simp at hn
          try simp only [hn]
          go_wp2_with (fail)
          exact ⟨rfl, _, rfl, Below.refl _ _, by first | rfl | simp [vIf]⟩
      · intro xs W hW hn
        simp [flowNeeds, Region.binds] at hn
        simp only [flowAct, List.zipWith_cons_cons, List.zipWith_nil_left]
        cases hq : H with
        | true =>
          try rw [hq] at hn
          repeat rw [vIf_tt] at hn
          repeat rw [vIf_ff] at hn
          repeat rw [vIf_tf] at hn
          repeat rw [vIf_ft] at hn
          try simp at hn
          simp only [hn]
          go_wp2_with (fail)
          exact ⟨rfl, _, rfl, Below.refl _ _, by rw [← HI9.out, hq]; first | rfl | simp⟩
        | false =>
          try rw [hq] at hn
          repeat rw [vIf_tt] at hn
          repeat rw [vIf_ff] at hn
          repeat rw [vIf_tf] at hn
          repeat rw [vIf_ft] at hn
          try simp at hn
          simp only [hn]
          go_wp2_with (fail)
          exact ⟨rfl, _, rfl, Below.refl _ _, by rw [← HI9.out, hq]; first | rfl | simp⟩
    · intro xs W hW hall
      simp only [flowAll, and_true, Nat.zero_add, Nat.reduceAdd] at hall
      obtain ⟨-, -, -, -, -, -, -, -, -, -, -, -, -, -, -, -, -, -, -, -, -, -, -, -, -, -, -, -, -, -, -, -, -, -, -, -, -, -, -, -, -, -, -, -, -, -, -, -, -, -, -, -, -, -, -, -, -, -, -, -, e60⟩ := hall
      simp only [flowAct, List.zipWith_cons_cons, List.zipWith_nil_left]
      simp only [e60]
      have HB3 := Lib.hid (HB2.out.trans (hW.mono HB2.out.size))
      have HR3 := Lib.hid (heap_below HR2.out hW)
      clear e60 hW HB2 HR2 HCW HSG HVG HZZ HA9 HBb9 HC9 HD9 HE9 HF9 HG9 HH9 HI9 hq1 hq2 hq3 hq4 hq6 hq9 hq10
      rename_i W3i
      obtain ⟨W3, hW3⟩ : ∃ X, W = X := ⟨_, rfl⟩
      rw [hW3] at HB3 HR3 ⊢
      clear hW3
      cases HD with
      | true =>
        have HRR := Lib.hid (H1a.out (by first | rfl | trivial))
        clear H1a H2a H3a
        go_wp2
        go_ret
        exact ⟨by rw [HRR.out]; rfl, HB3.out⟩
      | false =>
        have H2b := Lib.hid (H2a.out (by first | rfl | trivial))
        have H3b := Lib.hid (H3a.out (by first | rfl | trivial))
        clear H1a H2a H3a
        go_wp2
        go_loopw [6] (fun i wr => ∃ k : Nat, k ≤ m ∧ i = .int .i64 (k : Int) ∧ (∀ j, j < k → wAt n1 l j = true) ∧ Below w.heap.size w wr ∧ wr.heap[B]? = some (.cells #[.int .i64 site, .int .i64 seq, .int .i64 n, .int .i64 s, .int .i64 a, .int .i64 b, .slice x2 m cap2] 29 (0, 0))) (fun i _ => m - (intOf i).toNat)
        case atStart => exact ⟨0, by omega, rfl, fun j hj => by omega, HB3.out, HR3.out⟩
        case round =>
          clear HB3 HR3
          obtain ⟨k, hk, rfl, ha, hB, hr⟩ := hrel
          obtain ⟨c0, c1, c2, c3, c4, c5, c6⟩ := ch_cells hr
          have HA := Lib.hid ha
          have HBr := Lib.hid hB
          have HRr := Lib.hid hr
          clear ha hB hr
          by_cases hlt : k < m
          · have hki : (k : Int) < (m : Int) := by omega
            have hkc : (k : Int) < (cap2 : Int) := by omega
            obtain ⟨bk, off, rfl, hat⟩ := HL.out.place hlt
            have hxs := HXS.out _ (wr_mem (k := k) (by rw [hll]; exact hlt))
            have hwa : wAt n1 l k = (mayS n1 (l.getD k Wr.zero) && (decide (k = 0) || aheadS (l.getD (k - 1) Wr.zero) (l.getD k Wr.zero))) := rfl
            have HWA := Lib.hid hwa
            have HPL := Lib.hid (fun (j : Nat) (hj : j < m) => HL.out.place hj)
            obtain ⟨y, hy⟩ : ∃ y, l.getD k Wr.zero = y := ⟨_, rfl⟩
            rw [hy] at hat hxs HWA
            obtain ⟨kx, ix, gx, vx⟩ := y
            simp only at hat hxs
            have hwc := fun W => rwrite_c (w := W) (x := x) hle1 hmax1 kx ix gx vx hxs.1 hxs.2
            obtain ⟨q, hq⟩ : ∃ z, mayS n1 ⟨kx, ix, gx, vx⟩ = z := ⟨_, rfl⟩
            rw [hq] at HWA
            simp only [hq] at hwc
            have HWC := Lib.hid hwc
            have HPW := Lib.hid (fun W (h : Below wr.heap.size wr W) => hat W (HBr.out.trans (h.mono HBr.out.size)))
            have HCL := Lib.hid (fun W (h : Below wr.heap.size wr W) => ch_cells (heap_below HRr.out h))
            have HY := Lib.hid hy
            clear hat hxs hwa hwc hq hy
            go_upto_region 9 with (fail)
            clear c0 c1 c2 c3 c4 c5 c6
            cases q with
            | false =>
              have HRR := Lib.hid (H2b.out k hlt (by rw [HWA.out]; rfl))
              clear HWA
              refine wp_region_flow [none, none, none, none, none, none, none, none, none, none, none, none, none, none, none, none, none, none, none, none, none, none, none, none, none, none, none, none, none, none, none, none, none, none, none, none, none, none, none, none, none, none, none, none, none, none, none, none, none, none, none, none, none, none, none, none, none, none, none, none, none, none, none, none, none, none, none, none, none, none, none, none, none, none, none, none, none, none, none, none, some 0, some 1, some 2, some 3, some 4, some 5, some 6, some 7, some 8, some 9, some 10, some 11, some 12, some 13, some 14, some 15, some 16, some 17, some 18, some 19, some 20, some 21, some 22, some 23, some 24, some 25, some 26] (fun i => [u80, u81, u82, u83, u84, u85, u86, u87, u88, u89, u90, u91, u92, u93, u94, u95, u96, u97, u98, u99, u100, u101, u102, u103, u104, u105, u106].getD i undef) [(fun v _ => v = .slice x n1 cap), (fun v _ => v = .pointer (some ⟨B, 6, none⟩)), (fun v _ => v = .slice (some ⟨bk, off, none⟩) m cap2), (fun v _ => v = .int .i64 (k : Int)), (fun v _ => v = .pointer (some ⟨bk, off + k * 4, none⟩)), (fun v _ => v = .agg #[.string (text kx), .int .i64 ix, .bool gx, .string (text vx)]), (fun v _ => v = .bool false), (fun v _ => v = .bool true), (fun v _ => v = .bool true), (fun v _ => v = undef), (fun v _ => v = undef), (fun v _ => v = undef), (fun v _ => v = undef), (fun v _ => v = undef), (fun v _ => v = undef), (fun v _ => v = undef), (fun v _ => v = undef), (fun v _ => v = undef), (fun v _ => v = undef), (fun v _ => v = undef), (fun v _ => v = undef), (fun v _ => v = undef), (fun v _ => v = undef), (fun v _ => v = undef), (fun v _ => v = undef), (fun v _ => v = undef), (fun v _ => v = .bool true)] (by kernel_rfl) (by kernel_rfl) rfl rfl rfl ?_ ?_ ?_
              · intro g hg v X Y hX hY hv
                simp only [List.mem_cons, List.not_mem_nil, or_false] at hg
                rcases hg with rfl | rfl | rfl | rfl | rfl | rfl | rfl | rfl | rfl | rfl | rfl | rfl | rfl | rfl | rfl | rfl | rfl | rfl | rfl | rfl | rfl | rfl | rfl | rfl | rfl | rfl | rfl
                all_goals first
                  | exact hv
                  | exact hv.kept hY
              · simp only [flowOps, and_true]
                refine ⟨?_, ?_, ?_, ?_, ?_, ?_, ?_, ?_, ?_, ?_, ?_, ?_, ?_, ?_, ?_, ?_, ?_, ?_, ?_, ?_, ?_, ?_, ?_, ?_, ?_, ?_, ?_⟩
                · intro xs W hW hn
                  simp only [flowAct, List.zipWith_cons_cons, List.zipWith_nil_left]
                  go_wp2_with (fail)
                  exact ⟨rfl, _, rfl, Below.refl _ _, rfl⟩
                · intro xs W hW hn
                  simp only [flowAct, List.zipWith_cons_cons, List.zipWith_nil_left]
                  go_wp2_with (fail)
                  exact ⟨rfl, _, rfl, Below.refl _ _, rfl⟩
                · intro xs W hW hn
                  obtain ⟨c0, c1, c2, c3, c4, c5, c6⟩ := HCL.out W hW
                  simp [flowNeeds, Region.binds] at hn
                  simp only [flowAct, List.zipWith_cons_cons, List.zipWith_nil_left]
                  try simp only [hn]
                  go_wp2_with (fail)
                  exact ⟨rfl, _, rfl, Below.refl _ _, rfl⟩
                · intro xs W hW hn
                  simp only [flowAct, List.zipWith_cons_cons, List.zipWith_nil_left]
                  go_wp2_with (fail)
                  exact ⟨rfl, _, rfl, Below.refl _ _, rfl⟩
                · intro xs W hW hn
                  simp [flowNeeds, Region.binds] at hn
                  simp only [flowAct, List.zipWith_cons_cons, List.zipWith_nil_left]
                  try simp only [hn]
                  go_wp2_with (fail)
                  exact ⟨rfl, _, rfl, Below.refl _ _, rfl⟩
                · intro xs W hW hn
                  obtain ⟨p0, p1, p2, p3⟩ := HPW.out W hW
                  simp [flowNeeds, Region.binds] at hn
                  simp only [flowAct, List.zipWith_cons_cons, List.zipWith_nil_left]
                  try simp only [hn]
                  go_wp2_with (fail)
                  exact ⟨rfl, _, rfl, Below.refl _ _, rfl⟩
                · intro xs W hW hn
                  simp [flowNeeds, Region.binds] at hn
                  simp only [flowAct, List.zipWith_cons_cons, List.zipWith_nil_left]
                  simp only [hn]
                  go_wp2_with (go_at_call 39; (with_reducible refine (HWC.out _).mono ?_); rintro e9 w9 ⟨rfl, hb9⟩)
                  exact ⟨rfl, _, rfl, hb9, rfl⟩
                · intro xs W hW hn
                  simp [flowNeeds, Region.binds] at hn
                  simp only [flowAct, List.zipWith_cons_cons, List.zipWith_nil_left]
                  try simp only [hn]
                  go_wp2_with (fail)
                  exact ⟨rfl, _, rfl, Below.refl _ _, rfl⟩
                · intro xs W hW hn
                  simp [flowNeeds, Region.binds] at hn
                  simp only [flowAct, List.zipWith_cons_cons, List.zipWith_nil_left]
                  try simp only [hn]
                  go_wp2_with (fail)
                  exact ⟨rfl, _, rfl, Below.refl _ _, rfl⟩
                · intro xs W hW hn
                  simp [flowNeeds, Region.binds] at hn
                  simp only [flowAct, List.zipWith_cons_cons, List.zipWith_nil_left]
                  try simp only [hn]
                  go_wp2_with (fail)
                  exact ⟨rfl, _, rfl, Below.refl _ _, rfl⟩
                · intro xs W hW hn
                  simp [flowNeeds, Region.binds] at hn
                  simp only [flowAct, List.zipWith_cons_cons, List.zipWith_nil_left]
                  try simp only [hn]
                  go_wp2_with (fail)
                  exact ⟨rfl, _, rfl, Below.refl _ _, rfl⟩
                · intro xs W hW hn
                  simp [flowNeeds, Region.binds] at hn
                  simp only [flowAct, List.zipWith_cons_cons, List.zipWith_nil_left]
                  try simp only [hn]
                  go_wp2_with (fail)
                  exact ⟨rfl, _, rfl, Below.refl _ _, rfl⟩
                · intro xs W hW hn
                  simp [flowNeeds, Region.binds] at hn
                  simp only [flowAct, List.zipWith_cons_cons, List.zipWith_nil_left]
                  try simp only [hn]
                  go_wp2_with (fail)
                  exact ⟨rfl, _, rfl, Below.refl _ _, rfl⟩
                · intro xs W hW hn
                  simp [flowNeeds, Region.binds] at hn
                  simp only [flowAct, List.zipWith_cons_cons, List.zipWith_nil_left]
                  try simp only [hn]
                  go_wp2_with (fail)
                  exact ⟨rfl, _, rfl, Below.refl _ _, rfl⟩
                · intro xs W hW hn
                  simp [flowNeeds, Region.binds] at hn
                  simp only [flowAct, List.zipWith_cons_cons, List.zipWith_nil_left]
                  try simp only [hn]
                  go_wp2_with (fail)
                  exact ⟨rfl, _, rfl, Below.refl _ _, rfl⟩
                · intro xs W hW hn
                  simp [flowNeeds, Region.binds] at hn
                  simp only [flowAct, List.zipWith_cons_cons, List.zipWith_nil_left]
                  try simp only [hn]
                  go_wp2_with (fail)
                  exact ⟨rfl, _, rfl, Below.refl _ _, rfl⟩
                · intro xs W hW hn
                  simp [flowNeeds, Region.binds] at hn
                  simp only [flowAct, List.zipWith_cons_cons, List.zipWith_nil_left]
                  try simp only [hn]
                  go_wp2_with (fail)
                  exact ⟨rfl, _, rfl, Below.refl _ _, rfl⟩
                · intro xs W hW hn
                  simp [flowNeeds, Region.binds] at hn
                  simp only [flowAct, List.zipWith_cons_cons, List.zipWith_nil_left]
                  try simp only [hn]
                  go_wp2_with (fail)
                  exact ⟨rfl, _, rfl, Below.refl _ _, rfl⟩
                · intro xs W hW hn
                  simp [flowNeeds, Region.binds] at hn
                  simp only [flowAct, List.zipWith_cons_cons, List.zipWith_nil_left]
                  try simp only [hn]
                  go_wp2_with (fail)
                  exact ⟨rfl, _, rfl, Below.refl _ _, rfl⟩
                · intro xs W hW hn
                  simp [flowNeeds, Region.binds] at hn
                  simp only [flowAct, List.zipWith_cons_cons, List.zipWith_nil_left]
                  try simp only [hn]
                  go_wp2_with (fail)
                  exact ⟨rfl, _, rfl, Below.refl _ _, rfl⟩
                · intro xs W hW hn
                  simp [flowNeeds, Region.binds] at hn
                  simp only [flowAct, List.zipWith_cons_cons, List.zipWith_nil_left]
                  try simp only [hn]
                  go_wp2_with (fail)
                  exact ⟨rfl, _, rfl, Below.refl _ _, rfl⟩
                · intro xs W hW hn
                  simp [flowNeeds, Region.binds] at hn
                  simp only [flowAct, List.zipWith_cons_cons, List.zipWith_nil_left]
                  try simp only [hn]
                  go_wp2_with (fail)
                  exact ⟨rfl, _, rfl, Below.refl _ _, rfl⟩
                · intro xs W hW hn
                  simp [flowNeeds, Region.binds] at hn
                  simp only [flowAct, List.zipWith_cons_cons, List.zipWith_nil_left]
                  try simp only [hn]
                  go_wp2_with (fail)
                  exact ⟨rfl, _, rfl, Below.refl _ _, rfl⟩
                · intro xs W hW hn
                  simp [flowNeeds, Region.binds] at hn
                  simp only [flowAct, List.zipWith_cons_cons, List.zipWith_nil_left]
                  try simp only [hn]
                  go_wp2_with (fail)
                  exact ⟨rfl, _, rfl, Below.refl _ _, rfl⟩
                · intro xs W hW hn
                  simp [flowNeeds, Region.binds] at hn
                  simp only [flowAct, List.zipWith_cons_cons, List.zipWith_nil_left]
                  try simp only [hn]
                  go_wp2_with (fail)
                  exact ⟨rfl, _, rfl, Below.refl _ _, rfl⟩
                · intro xs W hW hn
                  simp [flowNeeds, Region.binds] at hn
                  simp only [flowAct, List.zipWith_cons_cons, List.zipWith_nil_left]
                  try simp only [hn]
                  go_wp2_with (fail)
                  exact ⟨rfl, _, rfl, Below.refl _ _, rfl⟩
                · intro xs W hW hn
                  simp [flowNeeds, Region.binds] at hn
                  simp only [flowAct, List.zipWith_cons_cons, List.zipWith_nil_left]
                  try simp only [hn]
                  go_wp2_with (fail)
                  exact ⟨rfl, _, rfl, Below.refl _ _, rfl⟩
              · intro xs W hW hall
                simp only [flowAll, and_true, Nat.zero_add, Nat.reduceAdd] at hall
                obtain ⟨-, -, -, -, -, -, -, -, -, -, -, -, -, -, -, -, -, -, -, -, -, -, -, -, -, -, e26⟩ := hall
                simp only [flowAct, List.zipWith_cons_cons, List.zipWith_nil_left]
                simp only [e26]
                go_wp2
                go_ret
                exact ⟨by rw [HRR.out]; rfl, HBr.out.trans (hW.mono HBr.out.size)⟩
            | true =>
              by_cases hk0 : k = 0
              · subst hk0
                have HAN := Lib.hid (show ∀ j, j < 0 + 1 → wAt n1 l j = true from fun j hj => by
                  obtain rfl : j = 0 := by omega
                  rw [HWA.out]; rfl)
                have hpz := HPW.out
                simp only [Nat.zero_mul, Nat.add_zero] at hpz
                have HPZ := Lib.hid hpz
                clear HWA hpz HPW
                refine wp_region_flow [none, none, none, none, none, none, none, none, none, none, none, none, none, none, none, none, none, none, none, none, none, none, none, none, none, none, none, none, none, none, none, none, none, none, none, none, none, none, none, none, none, none, none, none, none, none, none, none, none, none, none, none, none, none, none, none, none, none, none, none, none, none, none, none, none, none, none, none, none, none, none, none, none, none, none, none, none, none, none, none, some 0, some 1, some 2, some 3, some 4, some 5, some 6, some 7, some 8, some 9, some 10, some 11, some 12, some 13, some 14, some 15, some 16, some 17, some 18, some 19, some 20, some 21, some 22, some 23, some 24, some 25, some 26] (fun i => [u80, u81, u82, u83, u84, u85, u86, u87, u88, u89, u90, u91, u92, u93, u94, u95, u96, u97, u98, u99, u100, u101, u102, u103, u104, u105, u106].getD i undef) [(fun v _ => v = .slice x n1 cap), (fun v _ => v = .pointer (some ⟨B, 6, none⟩)), (fun v _ => v = .slice (some ⟨bk, off, none⟩) m cap2), (fun v _ => v = .int .i64 0), (fun v _ => v = .pointer (some ⟨bk, off, none⟩)), (fun v _ => v = .agg #[.string (text kx), .int .i64 ix, .bool gx, .string (text vx)]), (fun v _ => v = .bool true), (fun v _ => v = .bool false), (fun v _ => v = .bool false), (fun v _ => v = .int .i64 0), (fun v _ => v = .bool false), (fun v _ => v = .bool false), (fun v _ => v = undef), (fun v _ => v = undef), (fun v _ => v = undef), (fun v _ => v = undef), (fun v _ => v = undef), (fun v _ => v = undef), (fun v _ => v = undef), (fun v _ => v = undef), (fun v _ => v = undef), (fun v _ => v = undef), (fun v _ => v = undef), (fun v _ => v = undef), (fun v _ => v = undef), (fun v _ => v = .bool false), (fun v _ => v = .bool false)] (by kernel_rfl) (by kernel_rfl) rfl rfl rfl ?_ ?_ ?_
                · intro g hg v X Y hX hY hv
                  simp only [List.mem_cons, List.not_mem_nil, or_false] at hg
                  rcases hg with rfl | rfl | rfl | rfl | rfl | rfl | rfl | rfl | rfl | rfl | rfl | rfl | rfl | rfl | rfl | rfl | rfl | rfl | rfl | rfl | rfl | rfl | rfl | rfl | rfl | rfl | rfl
                  all_goals first
                    | exact hv
                    | exact hv.kept hY
                · simp only [flowOps, and_true]
                  refine ⟨?_, ?_, ?_, ?_, ?_, ?_, ?_, ?_, ?_, ?_, ?_, ?_, ?_, ?_, ?_, ?_, ?_, ?_, ?_, ?_, ?_, ?_, ?_, ?_, ?_, ?_, ?_⟩
                  · intro xs W hW hn
                    simp only [flowAct, List.zipWith_cons_cons, List.zipWith_nil_left]
                    go_wp2_with (fail)
                    exact ⟨rfl, _, rfl, Below.refl _ _, rfl⟩
                  · intro xs W hW hn
                    simp only [flowAct, List.zipWith_cons_cons, List.zipWith_nil_left]
                    go_wp2_with (fail)
                    exact ⟨rfl, _, rfl, Below.refl _ _, rfl⟩
                  · intro xs W hW hn
                    obtain ⟨c0, c1, c2, c3, c4, c5, c6⟩ := HCL.out W hW
                    simp [flowNeeds, Region.binds] at hn
                    simp only [flowAct, List.zipWith_cons_cons, List.zipWith_nil_left]
                    try simp only [hn]
                    go_wp2_with (fail)
                    exact ⟨rfl, _, rfl, Below.refl _ _, rfl⟩
                  · intro xs W hW hn
                    simp only [flowAct, List.zipWith_cons_cons, List.zipWith_nil_left]
                    go_wp2_with (fail)
                    exact ⟨rfl, _, rfl, Below.refl _ _, rfl⟩
                  · intro xs W hW hn
                    simp [flowNeeds, Region.binds] at hn
                    simp only [flowAct, List.zipWith_cons_cons, List.zipWith_nil_left]
                    try simp only [hn]
                    go_wp2_with (fail)
                    exact ⟨rfl, _, rfl, Below.refl _ _, rfl⟩
                  · intro xs W hW hn
                    obtain ⟨p0, p1, p2, p3⟩ := HPZ.out W hW
                    simp [flowNeeds, Region.binds] at hn
                    simp only [flowAct, List.zipWith_cons_cons, List.zipWith_nil_left]
                    try simp only [hn]
                    go_wp2_with (fail)
                    exact ⟨rfl, _, rfl, Below.refl _ _, rfl⟩
                  · intro xs W hW hn
                    simp [flowNeeds, Region.binds] at hn
                    simp only [flowAct, List.zipWith_cons_cons, List.zipWith_nil_left]
                    simp only [hn]
                    go_wp2_with (go_at_call 39; (with_reducible refine (HWC.out _).mono ?_); rintro e9 w9 ⟨rfl, hb9⟩)
                    exact ⟨rfl, _, rfl, hb9, rfl⟩
                  · intro xs W hW hn
                    simp [flowNeeds, Region.binds] at hn
                    simp only [flowAct, List.zipWith_cons_cons, List.zipWith_nil_left]
                    try simp only [hn]
                    go_wp2_with (fail)
                    exact ⟨rfl, _, rfl, Below.refl _ _, rfl⟩
                  · intro xs W hW hn
                    simp [flowNeeds, Region.binds] at hn
                    simp only [flowAct, List.zipWith_cons_cons, List.zipWith_nil_left]
                    try simp only [hn]
                    go_wp2_with (fail)
                    exact ⟨rfl, _, rfl, Below.refl _ _, rfl⟩
                  · intro xs W hW hn
                    simp [flowNeeds, Region.binds] at hn
                    simp only [flowAct, List.zipWith_cons_cons, List.zipWith_nil_left]
                    try simp only [hn]
                    go_wp2_with (fail)
                    exact ⟨rfl, _, rfl, Below.refl _ _, rfl⟩
                  · intro xs W hW hn
                    simp [flowNeeds, Region.binds] at hn
                    simp only [flowAct, List.zipWith_cons_cons, List.zipWith_nil_left]
                    try simp only [hn]
                    go_wp2_with (fail)
                    exact ⟨rfl, _, rfl, Below.refl _ _, rfl⟩
                  · intro xs W hW hn
                    simp [flowNeeds, Region.binds] at hn
                    simp only [flowAct, List.zipWith_cons_cons, List.zipWith_nil_left]
                    try simp only [hn]
                    go_wp2_with (fail)
                    exact ⟨rfl, _, rfl, Below.refl _ _, rfl⟩
                  · intro xs W hW hn
                    simp [flowNeeds, Region.binds] at hn
                    simp only [flowAct, List.zipWith_cons_cons, List.zipWith_nil_left]
                    try simp only [hn]
                    go_wp2_with (fail)
                    exact ⟨rfl, _, rfl, Below.refl _ _, rfl⟩
                  · intro xs W hW hn
                    simp [flowNeeds, Region.binds] at hn
                    simp only [flowAct, List.zipWith_cons_cons, List.zipWith_nil_left]
                    try simp only [hn]
                    go_wp2_with (fail)
                    exact ⟨rfl, _, rfl, Below.refl _ _, rfl⟩
                  · intro xs W hW hn
                    simp [flowNeeds, Region.binds] at hn
                    simp only [flowAct, List.zipWith_cons_cons, List.zipWith_nil_left]
                    try simp only [hn]
                    go_wp2_with (fail)
                    exact ⟨rfl, _, rfl, Below.refl _ _, rfl⟩
                  · intro xs W hW hn
                    simp [flowNeeds, Region.binds] at hn
                    simp only [flowAct, List.zipWith_cons_cons, List.zipWith_nil_left]
                    try simp only [hn]
                    go_wp2_with (fail)
                    exact ⟨rfl, _, rfl, Below.refl _ _, rfl⟩
                  · intro xs W hW hn
                    simp [flowNeeds, Region.binds] at hn
                    simp only [flowAct, List.zipWith_cons_cons, List.zipWith_nil_left]
                    try simp only [hn]
                    go_wp2_with (fail)
                    exact ⟨rfl, _, rfl, Below.refl _ _, rfl⟩
                  · intro xs W hW hn
                    simp [flowNeeds, Region.binds] at hn
                    simp only [flowAct, List.zipWith_cons_cons, List.zipWith_nil_left]
                    try simp only [hn]
                    go_wp2_with (fail)
                    exact ⟨rfl, _, rfl, Below.refl _ _, rfl⟩
                  · intro xs W hW hn
                    simp [flowNeeds, Region.binds] at hn
                    simp only [flowAct, List.zipWith_cons_cons, List.zipWith_nil_left]
                    try simp only [hn]
                    go_wp2_with (fail)
                    exact ⟨rfl, _, rfl, Below.refl _ _, rfl⟩
                  · intro xs W hW hn
                    simp [flowNeeds, Region.binds] at hn
                    simp only [flowAct, List.zipWith_cons_cons, List.zipWith_nil_left]
                    try simp only [hn]
                    go_wp2_with (fail)
                    exact ⟨rfl, _, rfl, Below.refl _ _, rfl⟩
                  · intro xs W hW hn
                    simp [flowNeeds, Region.binds] at hn
                    simp only [flowAct, List.zipWith_cons_cons, List.zipWith_nil_left]
                    try simp only [hn]
                    go_wp2_with (fail)
                    exact ⟨rfl, _, rfl, Below.refl _ _, rfl⟩
                  · intro xs W hW hn
                    simp [flowNeeds, Region.binds] at hn
                    simp only [flowAct, List.zipWith_cons_cons, List.zipWith_nil_left]
                    try simp only [hn]
                    go_wp2_with (fail)
                    exact ⟨rfl, _, rfl, Below.refl _ _, rfl⟩
                  · intro xs W hW hn
                    simp [flowNeeds, Region.binds] at hn
                    simp only [flowAct, List.zipWith_cons_cons, List.zipWith_nil_left]
                    try simp only [hn]
                    go_wp2_with (fail)
                    exact ⟨rfl, _, rfl, Below.refl _ _, rfl⟩
                  · intro xs W hW hn
                    simp [flowNeeds, Region.binds] at hn
                    simp only [flowAct, List.zipWith_cons_cons, List.zipWith_nil_left]
                    try simp only [hn]
                    go_wp2_with (fail)
                    exact ⟨rfl, _, rfl, Below.refl _ _, rfl⟩
                  · intro xs W hW hn
                    simp [flowNeeds, Region.binds] at hn
                    simp only [flowAct, List.zipWith_cons_cons, List.zipWith_nil_left]
                    try simp only [hn]
                    go_wp2_with (fail)
                    exact ⟨rfl, _, rfl, Below.refl _ _, rfl⟩
                  · intro xs W hW hn
                    simp [flowNeeds, Region.binds] at hn
                    simp only [flowAct, List.zipWith_cons_cons, List.zipWith_nil_left]
                    try simp only [hn]
                    go_wp2_with (fail)
                    exact ⟨rfl, _, rfl, Below.refl _ _, rfl⟩
                  · intro xs W hW hn
                    simp [flowNeeds, Region.binds] at hn
                    simp only [flowAct, List.zipWith_cons_cons, List.zipWith_nil_left]
                    try simp only [hn]
                    go_wp2_with (fail)
                    exact ⟨rfl, _, rfl, Below.refl _ _, rfl⟩
                · intro xs W hW hall
                  simp only [flowAll, and_true, Nat.zero_add, Nat.reduceAdd] at hall
                  obtain ⟨-, -, -, -, -, -, -, -, -, -, -, -, -, -, -, -, -, -, -, -, -, -, -, -, -, -, e26⟩ := hall
                  simp only [flowAct, List.zipWith_cons_cons, List.zipWith_nil_left]
                  simp only [e26]
                  go_wp2
                  go_roundw
                  case rel => exact ⟨0 + 1, by omega, by go_num, HAN.out, HBr.out.trans (hW.mono HBr.out.size), heap_below HRr.out hW⟩
                  case measure => simp [intOf]; omega
              · obtain ⟨j, rfl⟩ : ∃ j, k = j + 1 := ⟨k - 1, by omega⟩
                have hjm : j < m := by omega
                have hj0 : (0 : Int) < ((j + 1 : Nat) : Int) := by omega
                have hjc : (j : Int) < (m : Int) := by omega
                have hjc2 : (j : Int) < (cap2 : Int) := by omega
                obtain ⟨bk2, off2, e2, hat2⟩ := HPL.out j hjm
                injection e2 with e2
                injection e2 with e3 e4
                subst e3 e4
                obtain ⟨y, hy2⟩ : ∃ y, l.getD j Wr.zero = y := ⟨_, rfl⟩
                rw [show j + 1 - 1 = j from rfl, hy2] at HWA
                rw [hy2] at hat2
                obtain ⟨ky, iy, gy, vy⟩ := y
                simp only at hat2
                have hah := fun W => rahead_c ky iy gy vy kx ix gx vx W
                obtain ⟨AH, hAH⟩ : ∃ z, aheadS ⟨ky, iy, gy, vy⟩ ⟨kx, ix, gx, vx⟩ = z := ⟨_, rfl⟩
                rw [hAH] at HWA
                simp only [hAH] at hah
                have HAH := Lib.hid hah
                have HQW := Lib.hid (fun W (h : Below wr.heap.size wr W) => hat2 W (HBr.out.trans (h.mono HBr.out.size)))
                clear hat2 hah hAH hy2 hk0
                refine wp_region_flow [none, none, none, none, none, none, none, none, none, none, none, none, none, none, none, none, none, none, none, none, none, none, none, none, none, none, none, none, none, none, none, none, none, none, none, none, none, none, none, none, none, none, none, none, none, none, none, none, none, none, none, none, none, none, none, none, none, none, none, none, none, none, none, none, none, none, none, none, none, none, none, none, none, none, none, none, none, none, none, none, some 0, some 1, some 2, some 3, some 4, some 5, some 6, some 7, some 8, some 9, some 10, some 11, some 12, some 13, some 14, some 15, some 16, some 17, some 18, some 19, some 20, some 21, some 22, some 23, some 24, some 25, some 26] (fun i => [u80, u81, u82, u83, u84, u85, u86, u87, u88, u89, u90, u91, u92, u93, u94, u95, u96, u97, u98, u99, u100, u101, u102, u103, u104, u105, u106].getD i undef) [(fun v _ => v = .slice x n1 cap), (fun v _ => v = .pointer (some ⟨B, 6, none⟩)), (fun v _ => v = .slice (some ⟨bk, off, none⟩) m cap2), (fun v _ => v = .int .i64 ((j + 1 : Nat) : Int)), (fun v _ => v = .pointer (some ⟨bk, off + (j + 1) * 4, none⟩)), (fun v _ => v = .agg #[.string (text kx), .int .i64 ix, .bool gx, .string (text vx)]), (fun v _ => v = .bool true), (fun v _ => v = .bool false), (fun v _ => v = .bool false), (fun v _ => v = .int .i64 ((j + 1 : Nat) : Int)), (fun v _ => v = .bool true), (fun v _ => v = .bool true), (fun v _ => v = .pointer (some ⟨B, 6, none⟩)), (fun v _ => v = .slice (some ⟨bk, off, none⟩) m cap2), (fun v _ => v = .int .i64 ((j + 1 : Nat) : Int)), (fun v _ => v = .int .i64 (j : Int)), (fun v _ => v = .pointer (some ⟨bk, off + j * 4, none⟩)), (fun v _ => v = .agg #[.string (text ky), .int .i64 iy, .bool gy, .string (text vy)]), (fun v _ => v = .pointer (some ⟨B, 6, none⟩)), (fun v _ => v = .slice (some ⟨bk, off, none⟩) m cap2), (fun v _ => v = .int .i64 ((j + 1 : Nat) : Int)), (fun v _ => v = .pointer (some ⟨bk, off + (j + 1) * 4, none⟩)), (fun v _ => v = .agg #[.string (text kx), .int .i64 ix, .bool gx, .string (text vx)]), (fun v _ => v = .bool AH), (fun v _ => v = .bool (!AH)), (fun v _ => v = .bool (!AH)), (fun v _ => v = .bool (!AH))] (by kernel_rfl) (by kernel_rfl) rfl rfl rfl ?_ ?_ ?_
                · intro g hg v X Y hX hY hv
                  simp only [List.mem_cons, List.not_mem_nil, or_false] at hg
                  rcases hg with rfl | rfl | rfl | rfl | rfl | rfl | rfl | rfl | rfl | rfl | rfl | rfl | rfl | rfl | rfl | rfl | rfl | rfl | rfl | rfl | rfl | rfl | rfl | rfl | rfl | rfl | rfl
                  all_goals first
                    | exact hv
                    | exact hv.kept hY
                · simp only [flowOps, and_true]
                  refine ⟨?_, ?_, ?_, ?_, ?_, ?_, ?_, ?_, ?_, ?_, ?_, ?_, ?_, ?_, ?_, ?_, ?_, ?_, ?_, ?_, ?_, ?_, ?_, ?_, ?_, ?_, ?_⟩
                  · intro xs W hW hn
                    simp only [flowAct, List.zipWith_cons_cons, List.zipWith_nil_left]
                    go_wp2_with (fail)
                    exact ⟨rfl, _, rfl, Below.refl _ _, rfl⟩
                  · intro xs W hW hn
                    simp only [flowAct, List.zipWith_cons_cons, List.zipWith_nil_left]
                    go_wp2_with (fail)
                    exact ⟨rfl, _, rfl, Below.refl _ _, rfl⟩
                  · intro xs W hW hn
                    obtain ⟨c0, c1, c2, c3, c4, c5, c6⟩ := HCL.out W hW
                    simp [flowNeeds, Region.binds] at hn
                    simp only [flowAct, List.zipWith_cons_cons, List.zipWith_nil_left]
                    try simp only [hn]
                    go_wp2_with (fail)
                    exact ⟨rfl, _, rfl, Below.refl _ _, rfl⟩
                  · intro xs W hW hn
                    simp only [flowAct, List.zipWith_cons_cons, List.zipWith_nil_left]
                    go_wp2_with (fail)
                    exact ⟨rfl, _, rfl, Below.refl _ _, rfl⟩
                  · intro xs W hW hn
                    simp [flowNeeds, Region.binds] at hn
                    simp only [flowAct, List.zipWith_cons_cons, List.zipWith_nil_left]
                    try simp only [hn]
                    go_wp2_with (fail)
                    exact ⟨rfl, _, rfl, Below.refl _ _, rfl⟩
                  · intro xs W hW hn
                    obtain ⟨p0, p1, p2, p3⟩ := HPW.out W hW
                    simp [flowNeeds, Region.binds] at hn
                    simp only [flowAct, List.zipWith_cons_cons, List.zipWith_nil_left]
                    try simp only [hn]
                    go_wp2_with (fail)
                    exact ⟨rfl, _, rfl, Below.refl _ _, rfl⟩
                  · intro xs W hW hn
                    simp [flowNeeds, Region.binds] at hn
                    simp only [flowAct, List.zipWith_cons_cons, List.zipWith_nil_left]
                    simp only [hn]
                    go_wp2_with (go_at_call 39; (with_reducible refine (HWC.out _).mono ?_); rintro e9 w9 ⟨rfl, hb9⟩)
                    exact ⟨rfl, _, rfl, hb9, rfl⟩
                  · intro xs W hW hn
                    simp [flowNeeds, Region.binds] at hn
                    simp only [flowAct, List.zipWith_cons_cons, List.zipWith_nil_left]
                    try simp only [hn]
                    go_wp2_with (fail)
                    exact ⟨rfl, _, rfl, Below.refl _ _, rfl⟩
                  · intro xs W hW hn
                    simp [flowNeeds, Region.binds] at hn
                    simp only [flowAct, List.zipWith_cons_cons, List.zipWith_nil_left]
                    try simp only [hn]
                    go_wp2_with (fail)
                    exact ⟨rfl, _, rfl, Below.refl _ _, rfl⟩
                  · intro xs W hW hn
                    simp [flowNeeds, Region.binds] at hn
                    simp only [flowAct, List.zipWith_cons_cons, List.zipWith_nil_left]
                    try simp only [hn]
                    go_wp2_with (fail)
                    exact ⟨rfl, _, rfl, Below.refl _ _, rfl⟩
                  · intro xs W hW hn
                    simp [flowNeeds, Region.binds] at hn
                    simp only [flowAct, List.zipWith_cons_cons, List.zipWith_nil_left]
                    simp only [hn]
                    go_wp2_with (fail)
                    exact ⟨rfl, _, rfl, Below.refl _ _, by go_num⟩
                  · intro xs W hW hn
                    simp [flowNeeds, Region.binds] at hn
                    simp only [flowAct, List.zipWith_cons_cons, List.zipWith_nil_left]
                    try simp only [hn]
                    go_wp2_with (fail)
                    exact ⟨rfl, _, rfl, Below.refl _ _, rfl⟩
                  · intro xs W hW hn
                    simp [flowNeeds, Region.binds] at hn
                    simp only [flowAct, List.zipWith_cons_cons, List.zipWith_nil_left]
                    try simp only [hn]
                    go_wp2_with (fail)
                    exact ⟨rfl, _, rfl, Below.refl _ _, rfl⟩
                  · intro xs W hW hn
                    obtain ⟨c0, c1, c2, c3, c4, c5, c6⟩ := HCL.out W hW
                    simp [flowNeeds, Region.binds] at hn
                    simp only [flowAct, List.zipWith_cons_cons, List.zipWith_nil_left]
                    try simp only [hn]
                    go_wp2_with (fail)
                    exact ⟨rfl, _, rfl, Below.refl _ _, rfl⟩
                  · intro xs W hW hn
                    simp [flowNeeds, Region.binds] at hn
                    simp only [flowAct, List.zipWith_cons_cons, List.zipWith_nil_left]
                    try simp only [hn]
                    go_wp2_with (fail)
                    exact ⟨rfl, _, rfl, Below.refl _ _, rfl⟩
                  · intro xs W hW hn
                    simp [flowNeeds, Region.binds] at hn
                    simp only [flowAct, List.zipWith_cons_cons, List.zipWith_nil_left]
                    simp only [hn]
                    go_wp2_with (fail)
                    exact ⟨rfl, _, rfl, Below.refl _ _, by go_num⟩
                  · intro xs W hW hn
                    simp [flowNeeds, Region.binds] at hn
                    simp only [flowAct, List.zipWith_cons_cons, List.zipWith_nil_left]
                    try simp only [hn]
                    go_wp2_with (fail)
                    exact ⟨rfl, _, rfl, Below.refl _ _, rfl⟩
                  · intro xs W hW hn
                    obtain ⟨p0, p1, p2, p3⟩ := HQW.out W hW
                    simp [flowNeeds, Region.binds] at hn
                    simp only [flowAct, List.zipWith_cons_cons, List.zipWith_nil_left]
                    try simp only [hn]
                    go_wp2_with (fail)
                    exact ⟨rfl, _, rfl, Below.refl _ _, rfl⟩
                  · intro xs W hW hn
                    simp [flowNeeds, Region.binds] at hn
                    simp only [flowAct, List.zipWith_cons_cons, List.zipWith_nil_left]
                    try simp only [hn]
                    go_wp2_with (fail)
                    exact ⟨rfl, _, rfl, Below.refl _ _, rfl⟩
                  · intro xs W hW hn
                    obtain ⟨c0, c1, c2, c3, c4, c5, c6⟩ := HCL.out W hW
                    simp [flowNeeds, Region.binds] at hn
                    simp only [flowAct, List.zipWith_cons_cons, List.zipWith_nil_left]
                    try simp only [hn]
                    go_wp2_with (fail)
                    exact ⟨rfl, _, rfl, Below.refl _ _, rfl⟩
                  · intro xs W hW hn
                    simp [flowNeeds, Region.binds] at hn
                    simp only [flowAct, List.zipWith_cons_cons, List.zipWith_nil_left]
                    try simp only [hn]
                    go_wp2_with (fail)
                    exact ⟨rfl, _, rfl, Below.refl _ _, rfl⟩
                  · intro xs W hW hn
                    simp [flowNeeds, Region.binds] at hn
                    simp only [flowAct, List.zipWith_cons_cons, List.zipWith_nil_left]
                    try simp only [hn]
                    go_wp2_with (fail)
                    exact ⟨rfl, _, rfl, Below.refl _ _, rfl⟩
                  · intro xs W hW hn
                    obtain ⟨p0, p1, p2, p3⟩ := HPW.out W hW
                    simp [flowNeeds, Region.binds] at hn
                    simp only [flowAct, List.zipWith_cons_cons, List.zipWith_nil_left]
                    try simp only [hn]
                    go_wp2_with (fail)
                    exact ⟨rfl, _, rfl, Below.refl _ _, rfl⟩
                  · intro xs W hW hn
                    simp [flowNeeds, Region.binds] at hn
                    simp only [flowAct, List.zipWith_cons_cons, List.zipWith_nil_left]
                    simp only [hn]
                    go_wp2_with (go_at_call 40; (with_reducible refine (HAH.out _).mono ?_); rintro e9 w9 ⟨rfl, hb9⟩)
                    exact ⟨rfl, _, rfl, hb9, rfl⟩
                  · intro xs W hW hn
                    simp [flowNeeds, Region.binds] at hn
                    simp only [flowAct, List.zipWith_cons_cons, List.zipWith_nil_left]
                    try simp only [hn]
                    go_wp2_with (fail)
                    exact ⟨rfl, _, rfl, Below.refl _ _, rfl⟩
                  · intro xs W hW hn
                    simp [flowNeeds, Region.binds] at hn
                    simp only [flowAct, List.zipWith_cons_cons, List.zipWith_nil_left]
                    try simp only [hn]
                    go_wp2_with (fail)
                    exact ⟨rfl, _, rfl, Below.refl _ _, rfl⟩
                  · intro xs W hW hn
                    simp [flowNeeds, Region.binds] at hn
                    simp only [flowAct, List.zipWith_cons_cons, List.zipWith_nil_left]
                    try simp only [hn]
                    go_wp2_with (fail)
                    exact ⟨rfl, _, rfl, Below.refl _ _, rfl⟩
                · intro xs W hW hall
                  simp only [flowAll, and_true, Nat.zero_add, Nat.reduceAdd] at hall
                  obtain ⟨-, -, -, -, -, -, -, -, -, -, -, -, -, -, -, -, -, -, -, -, -, -, -, -, -, -, e26⟩ := hall
                  simp only [flowAct, List.zipWith_cons_cons, List.zipWith_nil_left]
                  simp only [e26]
                  cases AH with
                  | true =>
                    have HAN := Lib.hid (show ∀ i, i < j + 1 + 1 → wAt n1 l i = true from fun i hi => by
                      by_cases hij : i < j + 1
                      · exact HA.out i hij
                      · obtain rfl : i = j + 1 := by omega
                        rw [HWA.out]; simp)
                    go_wp2
                    go_roundw
                    case rel => exact ⟨j + 1 + 1, by omega, by go_num, HAN.out, HBr.out.trans (hW.mono HBr.out.size), heap_below HRr.out hW⟩
                    case measure => simp [intOf]; omega
                  | false =>
                    have HRR := Lib.hid (H2b.out (j + 1) hlt (by rw [HWA.out]; simp))
                    go_wp2
                    go_ret
                    exact ⟨by rw [HRR.out]; rfl, HBr.out.trans (hW.mono HBr.out.size)⟩
          · obtain rfl : m = k := by omega
            have HRR := Lib.hid (H3b.out HA.out)
            go_wp2
            go_ret
            exact ⟨by rw [HRR.out]; rfl, HBr.out⟩

  · have h0n : (P0 != 0) = true := by simpa using h0
    have HRR := Lib.hid (H0.out h0)
    clear h0 H0 H1 H2 H3
    go_wp2
    go_ret
    exact ⟨by rw [HRR.out]; rfl, HB2.out⟩
end Go.Proofs.YtfkmfccdhmnllaaDoor
end

section
namespace Go.Proofs.YtfkmfccdhmnllaaDoor
open Go.RowKit Go Go.Sort
set_option linter.unusedVariables false
set_option maxRecDepth 20000

theorem own_ne {W : World} {q B s k : Nat} {e t : TypeId} {cs : Array Value} {fr : Nat × Nat} {v : Value} {xs : List Value} (h : W.heap[q]? = some (.cells cs t fr)) (ht : t ≠ e) (ho : W.ownsRow B e s v k xs) : some q ≠ v.ownBlock := by
  rcases ho.2 with ⟨rfl, _⟩ | ⟨g, cap, cur, rfl, _, hgb, _⟩
  · simp [Value.ownBlock]
  · intro e'
    obtain rfl : q = g := by simpa [Value.ownBlock] using e'
    rw [h] at hgb; cases hgb; exact ht rfl
theorem heap_grown {W W' : World} {q : Nat} {o : Obj} {r : Option Nat} (h : W.heap[q]? = some o) (hg : W.grownBy W' r) (hr : some q ≠ r) : W'.heap[q]? = some o :=
  (hg.block q (Array.getElem?_eq_some_iff.1 h).1 (fun e => hr e)).trans h
end Go.Proofs.YtfkmfccdhmnllaaDoor
end

section
namespace Go.Proofs.YtfkmfccdhmnllaaDoor
open Go.RowKit Go Go.Sort
set_option linter.unusedVariables false
set_option maxRecDepth 20000

theorem pair_cells {W : World} {q : Nat} {x y : Value} {t : TypeId} (h : W.heap[q]? = some (.cells #[x, y] t (0, 0))) : W.cell? ⟨q, 0, none⟩ = some x ∧ W.cell? ⟨q, 1, none⟩ = some y := by
  refine ⟨?_, ?_⟩ <;> (rw [cell_of_row _ q _ _ _ (0, 0) h]; rfl)
theorem wget_few {l : List UInt8} {c : Wr} {q : Nat} (h : wgetS l = some (c, q)) : c.k.length ≤ 32 ∧ c.v.length ≤ 64 ∧ q ≤ l.length := by
  obtain ⟨⟨t, kt, ft⟩, h1⟩ : ∃ z, textS l 32 = z := ⟨_, rfl⟩
  by_cases e1 : ft = 0
  · subst e1
    obtain ⟨q1, e, hq1, ht⟩ := textS_ok l 32 (by rw [h1])
    rw [h1] at e ht
    simp only at e ht
    subst e
    obtain ⟨⟨i, k2, f2⟩, h2⟩ : ∃ z, getS (l.drop q1) = z := ⟨_, rfl⟩
    by_cases e2 : f2 = 0
    · subst e2
      obtain ⟨q2, e, -, hq2, -, -⟩ := getS_ok (l.drop q1) (by rw [h2])
      rw [h2] at e
      simp only at e
      subst e
      rw [List.length_drop] at hq2
      obtain ⟨⟨g, k3, f3⟩, h3⟩ : ∃ z, getS (l.drop (q1 + q2)) = z := ⟨_, rfl⟩
      by_cases e3 : f3 = 0
      · subst e3
        obtain ⟨q3, e, -, hq3, -, -⟩ := getS_ok (l.drop (q1 + q2)) (by rw [h3])
        rw [h3] at e
        simp only at e
        subst e
        rw [List.length_drop] at hq3
        by_cases e4 : 1 < g
        · rw [wget_4 h1 h2 h3 e4] at h; cases h
        · by_cases e5 : g = 1
          · subst e5
            rw [wget_5 h1 h2 h3] at h
            injection h with h
            injection h with hc hq
            subst hc hq
            exact ⟨by simp only; omega, by simp, by omega⟩
          · obtain ⟨⟨v, k4, f4⟩, h4⟩ : ∃ z, textS (l.drop (q1 + q2 + q3)) 64 = z := ⟨_, rfl⟩
            by_cases e6 : f4 = 0
            · subst e6
              obtain ⟨q4, e, hq4, hv⟩ := textS_ok (l.drop (q1 + q2 + q3)) 64 (by rw [h4])
              rw [h4] at e hv
              simp only at e hv
              subst e
              rw [List.length_drop] at hq4
              rw [wget_7 h1 h2 h3 e4 e5 h4] at h
              injection h with h
              injection h with hc hq
              subst hc hq
              exact ⟨by simp only; omega, by simp only; omega, by omega⟩
            · rw [wget_6 h1 h2 h3 e4 e5 h4 e6] at h; cases h
      · rw [wget_3 h1 h2 h3 e3] at h; cases h
    · rw [wget_2 h1 h2 e2] at h; cases h
  · rw [wget_1 h1 e1] at h; cases h
/-- The writes behind a place, and where they end. -/
def readN (l : List UInt8) (a0 : Nat) : Nat → Option (List Wr × Nat)
  | 0 => some ([], a0)
  | k + 1 => (readN l a0 k).bind fun r => (wgetS (l.drop r.2)).map fun x => (r.1 ++ [x.1], r.2 + x.2)
theorem readN_none {l : List UInt8} {a0 k : Nat} (h : readN l a0 k = none) : ∀ j, k ≤ j → readN l a0 j = none
  | 0, hj => by
    obtain rfl : k = 0 := by omega
    exact h
  | j + 1, hj => by
    by_cases e : k = j + 1
    · subst e; exact h
    · show (readN l a0 j).bind _ = none
      rw [readN_none h j (by omega)]; rfl
theorem readN_bad {l : List UInt8} {a0 k at' : Nat} {ws : List Wr} (h : readN l a0 k = some (ws, at')) (hf : wgetS (l.drop at') = none) : readN l a0 (k + 1) = none := by
  show (readN l a0 k).bind _ = none
  rw [h]
  show (wgetS (l.drop at')).map _ = none
  rw [hf]; rfl
theorem readN_ok {l : List UInt8} {a0 k at' q : Nat} {ws : List Wr} {c : Wr} (h : readN l a0 k = some (ws, at')) (hc : wgetS (l.drop at') = some (c, q)) : readN l a0 (k + 1) = some (ws ++ [c], at' + q) := by
  show (readN l a0 k).bind _ = _
  rw [h]
  show (wgetS (l.drop at')).map _ = _
  rw [hc]; rfl
/-- The change with which bytes begin, as it stands, and where it ends. -/
def chreadS (l : List UInt8) : Option (Int × Int × Int × Int × Int × Int × List Wr × Nat) :=
  if ¬ (getS l).2.2 = 0 then none else if ¬ (getS (l.drop (getS l).2.1.toNat)).2.2 = 0 then none else if ¬ (sgetS (l.drop ((getS l).2.1.toNat + (getS (l.drop (getS l).2.1.toNat)).2.1.toNat))).2.2 = 0 then none else if ¬ (vgetS (l.drop (((getS l).2.1.toNat + (getS (l.drop (getS l).2.1.toNat)).2.1.toNat) + (sgetS (l.drop ((getS l).2.1.toNat + (getS (l.drop (getS l).2.1.toNat)).2.1.toNat))).2.1.toNat))).2.2 = 0 then none else if ¬ (getS (l.drop ((((getS l).2.1.toNat + (getS (l.drop (getS l).2.1.toNat)).2.1.toNat) + (sgetS (l.drop ((getS l).2.1.toNat + (getS (l.drop (getS l).2.1.toNat)).2.1.toNat))).2.1.toNat) + (vgetS (l.drop (((getS l).2.1.toNat + (getS (l.drop (getS l).2.1.toNat)).2.1.toNat) + (sgetS (l.drop ((getS l).2.1.toNat + (getS (l.drop (getS l).2.1.toNat)).2.1.toNat))).2.1.toNat))).2.1.toNat))).2.2 = 0 then none else if 8 < (getS (l.drop ((((getS l).2.1.toNat + (getS (l.drop (getS l).2.1.toNat)).2.1.toNat) + (sgetS (l.drop ((getS l).2.1.toNat + (getS (l.drop (getS l).2.1.toNat)).2.1.toNat))).2.1.toNat) + (vgetS (l.drop (((getS l).2.1.toNat + (getS (l.drop (getS l).2.1.toNat)).2.1.toNat) + (sgetS (l.drop ((getS l).2.1.toNat + (getS (l.drop (getS l).2.1.toNat)).2.1.toNat))).2.1.toNat))).2.1.toNat))).1 then none
  else (readN l (((((getS l).2.1.toNat + (getS (l.drop (getS l).2.1.toNat)).2.1.toNat) + (sgetS (l.drop ((getS l).2.1.toNat + (getS (l.drop (getS l).2.1.toNat)).2.1.toNat))).2.1.toNat) + (vgetS (l.drop (((getS l).2.1.toNat + (getS (l.drop (getS l).2.1.toNat)).2.1.toNat) + (sgetS (l.drop ((getS l).2.1.toNat + (getS (l.drop (getS l).2.1.toNat)).2.1.toNat))).2.1.toNat))).2.1.toNat) + (getS (l.drop ((((getS l).2.1.toNat + (getS (l.drop (getS l).2.1.toNat)).2.1.toNat) + (sgetS (l.drop ((getS l).2.1.toNat + (getS (l.drop (getS l).2.1.toNat)).2.1.toNat))).2.1.toNat) + (vgetS (l.drop (((getS l).2.1.toNat + (getS (l.drop (getS l).2.1.toNat)).2.1.toNat) + (sgetS (l.drop ((getS l).2.1.toNat + (getS (l.drop (getS l).2.1.toNat)).2.1.toNat))).2.1.toNat))).2.1.toNat))).2.1.toNat) (getS (l.drop ((((getS l).2.1.toNat + (getS (l.drop (getS l).2.1.toNat)).2.1.toNat) + (sgetS (l.drop ((getS l).2.1.toNat + (getS (l.drop (getS l).2.1.toNat)).2.1.toNat))).2.1.toNat) + (vgetS (l.drop (((getS l).2.1.toNat + (getS (l.drop (getS l).2.1.toNat)).2.1.toNat) + (sgetS (l.drop ((getS l).2.1.toNat + (getS (l.drop (getS l).2.1.toNat)).2.1.toNat))).2.1.toNat))).2.1.toNat))).1.toNat).map fun r => ((getS l).1, (getS (l.drop (getS l).2.1.toNat)).1, (sgetS (l.drop ((getS l).2.1.toNat + (getS (l.drop (getS l).2.1.toNat)).2.1.toNat))).1.1, (sgetS (l.drop ((getS l).2.1.toNat + (getS (l.drop (getS l).2.1.toNat)).2.1.toNat))).1.2, (vgetS (l.drop (((getS l).2.1.toNat + (getS (l.drop (getS l).2.1.toNat)).2.1.toNat) + (sgetS (l.drop ((getS l).2.1.toNat + (getS (l.drop (getS l).2.1.toNat)).2.1.toNat))).2.1.toNat))).1.1, (vgetS (l.drop (((getS l).2.1.toNat + (getS (l.drop (getS l).2.1.toNat)).2.1.toNat) + (sgetS (l.drop ((getS l).2.1.toNat + (getS (l.drop (getS l).2.1.toNat)).2.1.toNat))).2.1.toNat))).1.2, r.1, r.2)
section
variable {l : List UInt8} {q1 q2 q3 q4 q5 : Nat} {site seq n s a b m9 k f : Int}
theorem rd_1  (h : getS l = (site, k, f)) (hf : ¬ f = 0) : chreadS l = none := by
  unfold chreadS; simp only [h]; simp [hf]
theorem rd_2 (h1 : getS l = (site, (q1 : Int), 0)) (h : getS (l.drop q1) = (seq, k, f)) (hf : ¬ f = 0) : chreadS l = none := by
  unfold chreadS; simp only [h1, h, Int.toNat_natCast]; simp [hf]
theorem rd_3 (h1 : getS l = (site, (q1 : Int), 0)) (h2 : getS (l.drop q1) = (seq, (q2 : Int), 0)) (h : sgetS (l.drop (q1 + q2)) = ((n, s), k, f)) (hf : ¬ f = 0) : chreadS l = none := by
  unfold chreadS; simp only [h1, h2, h, Int.toNat_natCast]; simp [hf]
theorem rd_4 (h1 : getS l = (site, (q1 : Int), 0)) (h2 : getS (l.drop q1) = (seq, (q2 : Int), 0)) (h3 : sgetS (l.drop (q1 + q2)) = ((n, s), (q3 : Int), 0)) (h : vgetS (l.drop (q1 + q2 + q3)) = ((a, b), k, f)) (hf : ¬ f = 0) : chreadS l = none := by
  unfold chreadS; simp only [h1, h2, h3, h, Int.toNat_natCast]; simp [hf]
theorem rd_5 (h1 : getS l = (site, (q1 : Int), 0)) (h2 : getS (l.drop q1) = (seq, (q2 : Int), 0)) (h3 : sgetS (l.drop (q1 + q2)) = ((n, s), (q3 : Int), 0)) (h4 : vgetS (l.drop (q1 + q2 + q3)) = ((a, b), (q4 : Int), 0)) (h : getS (l.drop (q1 + q2 + q3 + q4)) = (m9, k, f)) (hf : ¬ f = 0) : chreadS l = none := by
  unfold chreadS; simp only [h1, h2, h3, h4, h, Int.toNat_natCast]; simp [hf]
theorem rd_6 (h1 : getS l = (site, (q1 : Int), 0)) (h2 : getS (l.drop q1) = (seq, (q2 : Int), 0)) (h3 : sgetS (l.drop (q1 + q2)) = ((n, s), (q3 : Int), 0)) (h4 : vgetS (l.drop (q1 + q2 + q3)) = ((a, b), (q4 : Int), 0)) (h : getS (l.drop (q1 + q2 + q3 + q4)) = (m9, k, 0)) (hf : 8 < m9) : chreadS l = none := by
  unfold chreadS; simp only [h1, h2, h3, h4, h, Int.toNat_natCast]; simp [hf]
theorem rd_7 (h1 : getS l = (site, (q1 : Int), 0)) (h2 : getS (l.drop q1) = (seq, (q2 : Int), 0)) (h3 : sgetS (l.drop (q1 + q2)) = ((n, s), (q3 : Int), 0)) (h4 : vgetS (l.drop (q1 + q2 + q3)) = ((a, b), (q4 : Int), 0)) (h5 : getS (l.drop (q1 + q2 + q3 + q4)) = (m9, (q5 : Int), 0)) (hf : ¬ 8 < m9) : chreadS l = (readN l (q1 + q2 + q3 + q4 + q5) m9.toNat).map fun r => (site, seq, n, s, a, b, r.1, r.2) := by
  unfold chreadS; simp only [h1, h2, h3, h4, h5, Int.toNat_natCast]; simp [hf]
end
set_option maxHeartbeats 3200000 in
theorem ch_set {W : World} {q : Nat} {x0 x1 x2 x3 x4 x5 x6 : Value} (h : W.heap[q]? = some (.cells #[x0, x1, x2, x3, x4, x5, x6] 29 (0, 0))) (a b c d e f g : Value) : (((((((W.setCell ⟨q, 0, none⟩ a).setCell ⟨q, 1, none⟩ b).setCell ⟨q, 2, none⟩ c).setCell ⟨q, 3, none⟩ d).setCell ⟨q, 4, none⟩ e).setCell ⟨q, 5, none⟩ f).setCell ⟨q, 6, none⟩ g).heap[q]? = some (.cells #[a, b, c, d, e, f, g] 29 (0, 0)) := by
  have h0 := heap_setCell_same W q 0 _ _ a h
  have h1 := heap_setCell_same _ q 1 _ _ b h0
  have h2 := heap_setCell_same _ q 2 _ _ c h1
  have h3 := heap_setCell_same _ q 3 _ _ d h2
  have h4 := heap_setCell_same _ q 4 _ _ e h3
  have h5 := heap_setCell_same _ q 5 _ _ f h4
  have h6 := heap_setCell_same _ q 6 _ _ g h5
  exact h6.trans rfl
theorem ch_set_below {B : Nat} {w W : World} {q : Nat} (h : Below B w W) (hq : B ≤ q) (a b c d e f g : Value) : Below B w (((((((W.setCell ⟨q, 0, none⟩ a).setCell ⟨q, 1, none⟩ b).setCell ⟨q, 2, none⟩ c).setCell ⟨q, 3, none⟩ d).setCell ⟨q, 4, none⟩ e).setCell ⟨q, 5, none⟩ f).setCell ⟨q, 6, none⟩ g) :=
  ((((((h.setCell (p := ⟨q, 0, none⟩) hq a).setCell (p := ⟨q, 1, none⟩) hq b).setCell (p := ⟨q, 2, none⟩) hq c).setCell (p := ⟨q, 3, none⟩) hq d).setCell (p := ⟨q, 4, none⟩) hq e).setCell (p := ⟨q, 5, none⟩) hq f).setCell (p := ⟨q, 6, none⟩) hq g
set_option maxHeartbeats 3200000 in
theorem ch_set_other {W : World} {q p : Nat} (hp : p ≠ q) (a b c d e f g : Value) : (((((((W.setCell ⟨q, 0, none⟩ a).setCell ⟨q, 1, none⟩ b).setCell ⟨q, 2, none⟩ c).setCell ⟨q, 3, none⟩ d).setCell ⟨q, 4, none⟩ e).setCell ⟨q, 5, none⟩ f).setCell ⟨q, 6, none⟩ g).heap[p]? = W.heap[p]? :=
  (Below.heap_setCell _ ⟨q, 6, none⟩ _ p hp).trans ((Below.heap_setCell _ ⟨q, 5, none⟩ _ p hp).trans ((Below.heap_setCell _ ⟨q, 4, none⟩ _ p hp).trans ((Below.heap_setCell _ ⟨q, 3, none⟩ _ p hp).trans ((Below.heap_setCell _ ⟨q, 2, none⟩ _ p hp).trans ((Below.heap_setCell _ ⟨q, 1, none⟩ _ p hp).trans (Below.heap_setCell _ ⟨q, 0, none⟩ _ p hp))))))
set_option maxHeartbeats 3200000 in
theorem ch_any {W : World} {q : Nat} {x0 x1 x2 x3 x4 x5 x6 : Value} (h : W.heap[q]? = some (.cells #[x0, x1, x2, x3, x4, x5, x6] 29 (0, 0))) : (W.cell? ⟨q, 0, none⟩ = some x0 ∧ W.cell? ⟨q, 1, none⟩ = some x1 ∧ W.cell? ⟨q, 2, none⟩ = some x2 ∧ W.cell? ⟨q, 3, none⟩ = some x3 ∧ W.cell? ⟨q, 4, none⟩ = some x4 ∧ W.cell? ⟨q, 5, none⟩ = some x5 ∧ W.cell? ⟨q, 6, none⟩ = some x6) ∧ ∀ i, W.frozen? ⟨q, i, none⟩ = false := by
  refine ⟨⟨?_, ?_, ?_, ?_, ?_, ?_, ?_⟩, fun i => frozen_of_row _ q i _ _ h⟩ <;> (rw [cell_of_row _ q _ _ _ (0, 0) h]; rfl)
theorem rwget_x {w : World} {ad : Option Addr} {m cap : Nat} {l : List UInt8} (hl : Bys w ad m cap l) : Calls Tryd.prog 86 #[.slice ad m cap] w (fun e9 w' => ∃ (kx : List UInt8) (ix : Int) (gx : Bool) (vx : List UInt8) (k4 : Int) (ok : Bool), e9 = .returned (.tuple #[.agg #[.string (text kx), .int .i64 ix, .bool gx, .string (text vx)], .int .i64 k4, .bool ok]) ∧ Below w.heap.size w w' ∧ (ok = false → wgetS l = none) ∧ (ok = true → ∃ q : Nat, k4 = (q : Int) ∧ wgetS l = some (⟨kx, ix, gx, vx⟩, q))) := by
  refine (rwget_c hl).mono fun e9 w' h => ?_
  obtain ⟨⟨kx, ix, gx, vx⟩, k4, ok, h1, h2, h3, h4⟩ := h
  exact ⟨kx, ix, gx, vx, k4, ok, h1, h2, h3, h4⟩
/-- A change off bytes, how many, and whether there is one. -/
def RdPost (r : Option (Int × Int × Int × Int × Int × Int × List Wr × Nat)) (M : Nat) (w : World) (e : Ending) (w' : World) : Prop :=
  ∃ (site seq n s a b : Int) (v : Value) (ws : List Wr) (k : Int) (ok : Bool), e = .returned (.tuple #[.agg #[.int .i64 site, .int .i64 seq, .int .i64 n, .int .i64 s, .int .i64 a, .int .i64 b, v], .int .i64 k, .bool ok]) ∧ OwnW w' w.heap.size v ws ∧ WShort ws ∧ Below w.heap.size w w' ∧
    (ok = false → r = none) ∧ (ok = true → ∃ q : Nat, k = (q : Int) ∧ q ≤ M ∧ r = some (site, seq, n, s, a, b, ws, q))

set_option maxRecDepth 100000 in
set_option maxHeartbeats 12800000 in
theorem rread_c {w : World} {ad : Option Addr} {m cap : Nat} {l : List UInt8} (hl : Bys w ad m cap l) : Calls Tryd.prog 49 #[.slice ad m cap] w (RdPost (chreadS l) m w) := by
  have hlen := hl.len
  have hle := hl.le
  have hmx := hl.max
  have hb := (alloc_below w (.cells #[.int .i64 0, .int .i64 0, .int .i64 0, .int .i64 0, .int .i64 0, .int .i64 0, .slice none 0 0] 29)).alloc (by simp) (.cells #[.int .i64 0, .int .i64 0, .int .i64 0, .int .i64 0, .int .i64 0, .int .i64 0, .slice none 0 0] 29)
  have hz : ((w.alloc (.cells #[.int .i64 0, .int .i64 0, .int .i64 0, .int .i64 0, .int .i64 0, .int .i64 0, .slice none 0 0] 29)).alloc (.cells #[.int .i64 0, .int .i64 0, .int .i64 0, .int .i64 0, .int .i64 0, .int .i64 0, .slice none 0 0] 29)).heap[w.heap.size]? = some (.cells #[.int .i64 0, .int .i64 0, .int .i64 0, .int .i64 0, .int .i64 0, .int .i64 0, .slice none 0 0] 29 (0, 0)) := (Below.heap_alloc _ _ _ (by simp)).trans (heap_alloc_new w _)
  have hq := heap_alloc_new (w.alloc (.cells #[.int .i64 0, .int .i64 0, .int .i64 0, .int .i64 0, .int .i64 0, .int .i64 0, .slice none 0 0] 29)) (.cells #[.int .i64 0, .int .i64 0, .int .i64 0, .int .i64 0, .int .i64 0, .int .i64 0, .slice none 0 0] 29)
  simp only [World.size_alloc] at hq
  have HLW := Lib.hid (fun W (h : Below w.heap.size w W) => hl.below h)
  obtain ⟨RV, hRV⟩ : ∃ z, chreadS l = z := ⟨_, rfl⟩
  rw [hRV]
  have HRV := Lib.hid hRV
  have hok1 := getS_ok l
  have hG := fun W (h : Below w.heap.size w W) => rget_c (hl.below h)
  obtain ⟨⟨site, k1, f1⟩, hg1⟩ : ∃ z, getS l = z := ⟨_, rfl⟩
  rw [hg1] at hok1
  simp only [hg1] at hG hok1
  unfold Ret3 at hG
  have HG1 := Lib.hid hg1
  have HG := Lib.hid hG
  clear hRV hg1 hG hl
  go_enter Tryd.func49, Tryd.ntmps49
  go_upto_region 2 with (fail)
  obtain ⟨B, hB⟩ : ∃ z, w.heap.size = z := ⟨_, rfl⟩
  have HBe := Lib.hid hB
  rw [hB] at hz hq ⊢
  clear hB
  generalize (w.alloc (.cells #[.int .i64 0, .int .i64 0, .int .i64 0, .int .i64 0, .int .i64 0, .int .i64 0, .slice none 0 0] 29)).alloc (.cells #[.int .i64 0, .int .i64 0, .int .i64 0, .int .i64 0, .int .i64 0, .int .i64 0, .slice none 0 0] 29) = W1 at *
  have HB1 := Lib.hid hb
  have HZ1 := Lib.hid hz
  have HQ1 := Lib.hid hq
  clear hz hq hb
  go_upto_region 3 with (go_at_call 83; (with_reducible refine (HG.out _ HB1.out).mono ?_); rintro e9 w9 ⟨rfl, rfl⟩)
  clear HG
  by_cases e1 : f1 = 0
  · subst e1
    obtain ⟨q1, hq1, -, hl1, -, -⟩ := hok1 (by first | rfl | trivial)
    subst hq1
    have hqm1 : q1 ≤ m := by omega
    obtain ⟨⟨x0, x1, x2, x3, x4, x5, x6⟩, xf⟩ := ch_any HQ1.out
    go_upto_region 6 with (fail)
    have hq9 : (W1.setCell ⟨B + 1, 0, none⟩ (.int .i64 site)).heap[B + 1]? = some (.cells #[.int .i64 site, .int .i64 0, .int .i64 0, .int .i64 0, .int .i64 0, .int .i64 0, .slice none 0 0] 29 (0, 0)) := (heap_setCell_same W1 (B + 1) 0 _ _ (.int .i64 site) HQ1.out).trans rfl
    have hz9 := ((Below.heap_setCell W1 ⟨B + 1, 0, none⟩ (.int .i64 site) B (by simp)).trans HZ1.out)
    have hb9 := (HB1.out.setCell (p := ⟨B + 1, 0, none⟩) (by have := HBe.out; simp; omega) (.int .i64 site))
    generalize (W1.setCell ⟨B + 1, 0, none⟩ (.int .i64 site)) = W2 at *
    have HB2 := Lib.hid hb9
    have HZ2 := Lib.hid hz9
    have HQ2 := Lib.hid hq9
    clear hq9 hz9 hb9 x0 x1 x2 x3 x4 x5 x6 xf HB1 HZ1 HQ1
    obtain ⟨a1, hs1, hs2, hy1⟩ := bys_from (HLW.out W2 HB2.out) hqm1
    have hok2 := getS_ok (l.drop q1)
    have hG := rget_c hy1
    obtain ⟨⟨seq, k2, f2⟩, hg2⟩ : ∃ z, getS (l.drop q1) = z := ⟨_, rfl⟩
    rw [hg2] at hG hok2
    unfold Ret3 at hG
    simp only [List.length_drop, hlen] at hG hok2
    have HG := Lib.hid hG
    have HG2 := Lib.hid hg2
    clear hG hg2 hy1 hok1
    go_upto_region 7 with (go_at_call 83; (with_reducible refine HG.out.mono ?_); rintro e9 w9 ⟨rfl, rfl⟩)
    clear hs1 hs2 HG
    by_cases e2 : f2 = 0
    · subst e2
      obtain ⟨q2, hq2, -, hl2, -, -⟩ := hok2 (by first | rfl | trivial)
      subst hq2
      have hqm2 : q1 + q2 ≤ m := by omega
      have hsum2 : (q1 : Int) + (q2 : Int) ≤ 9223372036854775807 := by omega
      obtain ⟨⟨x0, x1, x2, x3, x4, x5, x6⟩, xf⟩ := ch_any HQ2.out
      go_upto_region 10 with (fail)
      have hq9 : (W2.setCell ⟨B + 1, 1, none⟩ (.int .i64 seq)).heap[B + 1]? = some (.cells #[.int .i64 site, .int .i64 seq, .int .i64 0, .int .i64 0, .int .i64 0, .int .i64 0, .slice none 0 0] 29 (0, 0)) := (heap_setCell_same W2 (B + 1) 1 _ _ (.int .i64 seq) HQ2.out).trans rfl
      have hz9 := ((Below.heap_setCell W2 ⟨B + 1, 1, none⟩ (.int .i64 seq) B (by simp)).trans HZ2.out)
      have hb9 := (HB2.out.setCell (p := ⟨B + 1, 1, none⟩) (by have := HBe.out; simp; omega) (.int .i64 seq))
      generalize (W2.setCell ⟨B + 1, 1, none⟩ (.int .i64 seq)) = W3 at *
      have HB3 := Lib.hid hb9
      have HZ3 := Lib.hid hz9
      have HQ3 := Lib.hid hq9
      clear hq9 hz9 hb9 x0 x1 x2 x3 x4 x5 x6 xf HB2 HZ2 HQ2
      go_upto_region 11 with (fail)
      obtain ⟨a1, hs1, hs2, hy1⟩ := bys_from (HLW.out W3 HB3.out) hqm2
      have hok3 := sgetS_ok (l.drop (q1 + q2))
      have hG := rsget_c hy1
      obtain ⟨⟨⟨n, s⟩, k3, f3⟩, hg3⟩ : ∃ z, sgetS (l.drop (q1 + q2)) = z := ⟨_, rfl⟩
      rw [hg3] at hG hok3
      simp only [List.length_drop, hlen] at hG hok3
      have HG := Lib.hid hG
      have HG3 := Lib.hid hg3
      have hc2 : ((q1 + q2 : Nat) : Int) = (q1 : Int) + (q2 : Int) := by omega
      rw [hc2] at hs1 hs2
      clear hG hg3 hy1 hok2 hc2
      go_upto_region 12 with (go_at_call 84; (with_reducible refine HG.out.mono ?_); rintro e9 w4 ⟨rfl, hb4⟩)
      have hal := alloc_below w4 (.cells #[.int .i64 n, .int .i64 s] 24)
      have hbx := hb4.trans (hal.mono hb4.size)
      have HS4 := Lib.hid (heap_alloc_new w4 (.cells #[.int .i64 n, .int .i64 s] 24))
      have HB4 := Lib.hid (HB3.out.trans (hbx.mono HB3.out.size))
      have HZ4 := Lib.hid (heap_below HZ3.out hbx)
      have HQ4 := Lib.hid (heap_below HQ3.out hbx)
      have hqs : B + 1 < w4.heap.size := Nat.lt_of_lt_of_le (Array.getElem?_eq_some_iff.1 HQ3.out).1 hb4.size
      obtain ⟨gs4, hgs⟩ : ∃ z, w4.heap.size = z := ⟨_, rfl⟩
      rw [hgs] at HS4 hqs ⊢
      generalize w4.alloc (.cells #[.int .i64 n, .int .i64 s] 24) = W4 at *
      clear hs1 hs2 HG hb4 hal hbx HB3 HZ3 HQ3 hgs
      by_cases e3 : f3 = 0
      · subst e3
        obtain ⟨q3, hq3, hl3⟩ := hok3 (by first | rfl | trivial)
        subst hq3
        have hqm3 : q1 + q2 + q3 ≤ m := by omega
        have hsum3 : (q1 : Int) + (q2 : Int) + (q3 : Int) ≤ 9223372036854775807 := by omega
        obtain ⟨⟨x0, x1, x2, x3, x4, x5, x6⟩, xf⟩ := ch_any HQ4.out
        obtain ⟨s0, s1⟩ := pair_cells HS4.out
        go_upto_region 15 with (fail)
        have hq9 : ((W4.setCell ⟨B + 1, 2, none⟩ (.int .i64 n)).setCell ⟨B + 1, 3, none⟩ (.int .i64 s)).heap[B + 1]? = some (.cells #[.int .i64 site, .int .i64 seq, .int .i64 n, .int .i64 s, .int .i64 0, .int .i64 0, .slice none 0 0] 29 (0, 0)) := (heap_setCell_same (W4.setCell ⟨B + 1, 2, none⟩ (.int .i64 n)) (B + 1) 3 _ _ (.int .i64 s) (heap_setCell_same W4 (B + 1) 2 _ _ (.int .i64 n) HQ4.out)).trans rfl
        have hz9 := ((Below.heap_setCell (W4.setCell ⟨B + 1, 2, none⟩ (.int .i64 n)) ⟨B + 1, 3, none⟩ (.int .i64 s) B (by simp)).trans ((Below.heap_setCell W4 ⟨B + 1, 2, none⟩ (.int .i64 n) B (by simp)).trans HZ4.out))
        have hb9 := ((HB4.out.setCell (p := ⟨B + 1, 2, none⟩) (by have := HBe.out; simp; omega) (.int .i64 n)).setCell (p := ⟨B + 1, 3, none⟩) (by have := HBe.out; simp; omega) (.int .i64 s))
        generalize ((W4.setCell ⟨B + 1, 2, none⟩ (.int .i64 n)).setCell ⟨B + 1, 3, none⟩ (.int .i64 s)) = W5 at *
        have HB5 := Lib.hid hb9
        have HZ5 := Lib.hid hz9
        have HQ5 := Lib.hid hq9
        clear hq9 hz9 hb9 x0 x1 x2 x3 x4 x5 x6 xf HB4 HZ4 HQ4
        clear s0 s1 HS4
        go_upto_region 16 with (fail)
        obtain ⟨a1, hs1, hs2, hy1⟩ := bys_from (HLW.out W5 HB5.out) hqm3
        have hok4 := vgetS_ok (l.drop (q1 + q2 + q3))
        have hG := rvget_c hy1
        obtain ⟨⟨⟨a, b⟩, k4, f4⟩, hg4⟩ : ∃ z, vgetS (l.drop (q1 + q2 + q3)) = z := ⟨_, rfl⟩
        rw [hg4] at hG hok4
        simp only [List.length_drop, hlen] at hG hok4
        have HG := Lib.hid hG
        have HG4 := Lib.hid hg4
        have hc3 : ((q1 + q2 + q3 : Nat) : Int) = (q1 : Int) + (q2 : Int) + (q3 : Int) := by omega
        rw [hc3] at hs1 hs2
        clear hG hg4 hy1 hok3 hc3
        go_upto_region 17 with (go_at_call 85; (with_reducible refine HG.out.mono ?_); rintro e9 w6 ⟨rfl, hb6⟩)
        have hal := alloc_below w6 (.cells #[.int .i64 a, .int .i64 b] 26)
        have hbx := hb6.trans (hal.mono hb6.size)
        have HS6 := Lib.hid (heap_alloc_new w6 (.cells #[.int .i64 a, .int .i64 b] 26))
        have HB6 := Lib.hid (HB5.out.trans (hbx.mono HB5.out.size))
        have HZ6 := Lib.hid (heap_below HZ5.out hbx)
        have HQ6 := Lib.hid (heap_below HQ5.out hbx)
        obtain ⟨gv4, hgs⟩ : ∃ z, w6.heap.size = z := ⟨_, rfl⟩
        rw [hgs] at HS6 ⊢
        generalize w6.alloc (.cells #[.int .i64 a, .int .i64 b] 26) = W6 at *
        clear hs1 hs2 HG hb6 hal hbx HB5 HZ5 HQ5 hgs
        by_cases e4 : f4 = 0
        · subst e4
          obtain ⟨q4, hq4, hl4⟩ := hok4 (by first | rfl | trivial)
          subst hq4
          have hqm4 : q1 + q2 + q3 + q4 ≤ m := by omega
          have hsum4 : (q1 : Int) + (q2 : Int) + (q3 : Int) + (q4 : Int) ≤ 9223372036854775807 := by omega
          obtain ⟨⟨x0, x1, x2, x3, x4, x5, x6⟩, xf⟩ := ch_any HQ6.out
          obtain ⟨s0, s1⟩ := pair_cells HS6.out
          go_upto_region 20 with (fail)
          have hq9 : ((W6.setCell ⟨B + 1, 4, none⟩ (.int .i64 a)).setCell ⟨B + 1, 5, none⟩ (.int .i64 b)).heap[B + 1]? = some (.cells #[.int .i64 site, .int .i64 seq, .int .i64 n, .int .i64 s, .int .i64 a, .int .i64 b, .slice none 0 0] 29 (0, 0)) := (heap_setCell_same (W6.setCell ⟨B + 1, 4, none⟩ (.int .i64 a)) (B + 1) 5 _ _ (.int .i64 b) (heap_setCell_same W6 (B + 1) 4 _ _ (.int .i64 a) HQ6.out)).trans rfl
          have hz9 := ((Below.heap_setCell (W6.setCell ⟨B + 1, 4, none⟩ (.int .i64 a)) ⟨B + 1, 5, none⟩ (.int .i64 b) B (by simp)).trans ((Below.heap_setCell W6 ⟨B + 1, 4, none⟩ (.int .i64 a) B (by simp)).trans HZ6.out))
          have hb9 := ((HB6.out.setCell (p := ⟨B + 1, 4, none⟩) (by have := HBe.out; simp; omega) (.int .i64 a)).setCell (p := ⟨B + 1, 5, none⟩) (by have := HBe.out; simp; omega) (.int .i64 b))
          generalize ((W6.setCell ⟨B + 1, 4, none⟩ (.int .i64 a)).setCell ⟨B + 1, 5, none⟩ (.int .i64 b)) = W7 at *
          have HB7 := Lib.hid hb9
          have HZ7 := Lib.hid hz9
          have HQ7 := Lib.hid hq9
          clear hq9 hz9 hb9 x0 x1 x2 x3 x4 x5 x6 xf HB6 HZ6 HQ6
          clear s0 s1 HS6
          go_upto_region 21 with (fail)
          obtain ⟨a1, hs1, hs2, hy1⟩ := bys_from (HLW.out W7 HB7.out) hqm4
          have hok5 := getS_ok (l.drop (q1 + q2 + q3 + q4))
          have hG := rget_c hy1
          obtain ⟨⟨m9, k5, f5⟩, hg5⟩ : ∃ z, getS (l.drop (q1 + q2 + q3 + q4)) = z := ⟨_, rfl⟩
          rw [hg5] at hG hok5
          unfold Ret3 at hG
          simp only [List.length_drop, hlen] at hG hok5
          have HG := Lib.hid hG
          have HG5 := Lib.hid hg5
          have hc4 : ((q1 + q2 + q3 + q4 : Nat) : Int) = (q1 : Int) + (q2 : Int) + (q3 : Int) + (q4 : Int) := by omega
          rw [hc4] at hs1 hs2
          clear hG hg5 hy1 hok4 hc4
          go_upto_region 22 with (go_at_call 83; (with_reducible refine HG.out.mono ?_); rintro e9 w9 ⟨rfl, rfl⟩)
          clear hs1 hs2 HG
          by_cases e5 : f5 = 0
          · subst e5
            obtain ⟨q5, hq5, -, hl5, hm0, -⟩ := hok5 (by first | rfl | trivial)
            subst hq5
            by_cases e6 : 8 < m9
            · have HRR := Lib.hid (show RV = none by rw [← HRV.out]; exact rd_6 HG1.out HG2.out HG3.out HG4.out HG5.out e6)
              obtain ⟨⟨x0, x1, x2, x3, x4, x5, x6⟩, xf⟩ := ch_any HQ7.out
              obtain ⟨⟨z0, z1, z2, z3, z4, z5, z6⟩, zf⟩ := ch_any HZ7.out
              have HSB := Lib.hid (ch_set HZ7.out (.int .i64 site) (.int .i64 seq) (.int .i64 n) (.int .i64 s) (.int .i64 a) (.int .i64 b) (.slice none 0 0))
              have HBB := Lib.hid (ch_set_below (q := B) HB7.out (by have := HBe.out; omega) (.int .i64 site) (.int .i64 seq) (.int .i64 n) (.int .i64 s) (.int .i64 a) (.int .i64 b) (.slice none 0 0))
              go_wp2
              refine bodyPost_ret (res_cell_tmp2 rfl _ _ B 29 _ (0, 0) _ (.int .i64 0) (.bool false) rfl rfl rfl HSB.out Tryd.underlying29 rfl (by kernel_rfl)) rfl ⟨_, _, _, _, _, _, _, [], 0, false, rfl, OwnL.nil _ _ _, (fun c hc => by cases hc), HBB.out, fun _ => HRR.out, fun h => by cases h⟩
            · obtain ⟨mm, rfl⟩ : ∃ mm : Nat, m9 = (mm : Int) := ⟨m9.toNat, by omega⟩
              have hqm5 : q1 + q2 + q3 + q4 + q5 ≤ m := by omega
              have hsum5 : (q1 : Int) + (q2 : Int) + (q3 : Int) + (q4 : Int) + (q5 : Int) ≤ 9223372036854775807 := by omega
              have hmm8 : mm ≤ 8 := by omega
              have HRR7 := Lib.hid (show RV = (readN l (q1 + q2 + q3 + q4 + q5) mm).map (fun r => (site, seq, n, s, a, b, r.1, r.2)) by rw [← HRV.out, rd_7 HG1.out HG2.out HG3.out HG4.out HG5.out (by omega), Int.toNat_natCast])
              obtain ⟨Q, hQ⟩ : ∃ z, q1 + q2 + q3 + q4 + q5 = z := ⟨_, rfl⟩
              have hQc : (q1 : Int) + (q2 : Int) + (q3 : Int) + (q4 : Int) + (q5 : Int) = (Q : Int) := by omega
              rw [hQ] at HRR7 hqm5
              have HQC := Lib.hid hQc
              clear hQ hQc hok5 HG1 HG2 HG3 HG4 HG5
              go_upto_region 25 with (fail)
              go_wp2
              rw [HQC.out]
              go_loopw [7, 12] (fun p i wr => ∃ (k at0 : Nat) (ws : List Wr) (v : Value), k ≤ mm ∧ i = .int .i64 (k : Int) ∧ p = .int .i64 (at0 : Int) ∧ at0 ≤ m ∧ readN l Q k = some (ws, at0) ∧ ws.length = k ∧ WShort ws ∧ OwnW wr w.heap.size v ws ∧ Below w.heap.size w wr ∧ wr.heap[B]? = some (.cells #[.int .i64 0, .int .i64 0, .int .i64 0, .int .i64 0, .int .i64 0, .int .i64 0, .slice none 0 0] 29 (0, 0)) ∧ wr.heap[B + 1]? = some (.cells #[.int .i64 site, .int .i64 seq, .int .i64 n, .int .i64 s, .int .i64 a, .int .i64 b, v] 29 (0, 0))) (fun _ i _ => mm - (intOf i).toNat)
              case atStart => exact ⟨0, Q, [], .slice none 0 0, by omega, rfl, rfl, hqm5, rfl, rfl, (fun c hc => by cases hc), OwnL.nil _ _ _, HB7.out, HZ7.out, HQ7.out⟩
              case round =>
                clear HB7 HZ7 HQ7
                obtain ⟨k, at0, ws, v, hk, rfl, rfl, hat, hn, hwl, hsh, ho, hB, hz, hq⟩ := hrel
                obtain ⟨a9, c9, ev, -⟩ := OwnL.wrs ho
                rw [hwl] at ev
                subst ev
                have HN := Lib.hid hn
                have HWL := Lib.hid hwl
                have HSH := Lib.hid hsh
                have HO8 := Lib.hid ho
                have HB8 := Lib.hid hB
                have HZ8 := Lib.hid hz
                have HQ8 := Lib.hid hq
                clear hn hwl hsh ho hB hz hq
                by_cases hlt : k < mm
                · have hki : (k : Int) < (mm : Int) := by omega
                  obtain ⟨a1, hs1, hs2, hy1⟩ := bys_from (HLW.out wr HB8.out) hat
                  have HW := Lib.hid (rwget_x hy1)
                  clear hy1
                  go_upto_region 29 with (go_at_call 86; (with_reducible refine HW.out.mono ?_); rintro e9 w4 ⟨kx, ix, gx, vx, k4, ok, rfl, hb4, hn4, hy4⟩)
                  have hal := alloc_below w4 (.cells #[.string (text kx), .int .i64 ix, .bool gx, .string (text vx)] 31)
                  have hbx := hb4.trans (hal.mono hb4.size)
                  have HS9 := Lib.hid (heap_alloc_new w4 (.cells #[.string (text kx), .int .i64 ix, .bool gx, .string (text vx)] 31))
                  have HB9 := Lib.hid (HB8.out.trans (hbx.mono HB8.out.size))
                  have HZ9 := Lib.hid (heap_below HZ8.out hbx)
                  have HQ9 := Lib.hid (heap_below HQ8.out hbx)
                  have HO9 := Lib.hid (HO8.out.kept hbx)
                  obtain ⟨gw, hgw⟩ : ∃ z, w4.heap.size = z := ⟨_, rfl⟩
                  rw [hgw] at HS9 ⊢
                  generalize w4.alloc (.cells #[.string (text kx), .int .i64 ix, .bool gx, .string (text vx)] 31) = W9 at *
                  have HN4 := Lib.hid hn4
                  have HY4 := Lib.hid hy4
                  clear hs1 hs2 HW hb4 hal hbx HB8 HZ8 HQ8 HO8 hgw hn4 hy4
                  cases ok with
                  | false =>
                    have HRR := Lib.hid (show RV = none by rw [HRR7.out, readN_none (readN_bad HN.out (HN4.out rfl)) mm (by omega)]; rfl)
                    obtain ⟨⟨x0, x1, x2, x3, x4, x5, x6⟩, xf⟩ := ch_any HQ9.out
                    obtain ⟨⟨z0, z1, z2, z3, z4, z5, z6⟩, zf⟩ := ch_any HZ9.out
                    have HSB := Lib.hid (ch_set HZ9.out (.int .i64 site) (.int .i64 seq) (.int .i64 n) (.int .i64 s) (.int .i64 a) (.int .i64 b) (.slice a9 k c9))
                    have HBB := Lib.hid (ch_set_below (q := B) HB9.out (by have := HBe.out; omega) (.int .i64 site) (.int .i64 seq) (.int .i64 n) (.int .i64 s) (.int .i64 a) (.int .i64 b) (.slice a9 k c9))
                    have HOB := Lib.hid ((HO9.out).of_block fun q hq => ch_set_other (q := B) (p := q) (fun e => own_ne HZ9.out (by decide) HO9.out (by rw [hq, e])) (.int .i64 site) (.int .i64 seq) (.int .i64 n) (.int .i64 s) (.int .i64 a) (.int .i64 b) (.slice a9 k c9))
                    go_wp2
                    refine bodyPost_ret (res_cell_tmp2 rfl _ _ B 29 _ (0, 0) _ (.int .i64 0) (.bool false) rfl rfl rfl HSB.out Tryd.underlying29 rfl (by kernel_rfl)) rfl ⟨_, _, _, _, _, _, _, ws, 0, false, rfl, HOB.out, HSH.out, HBB.out, fun _ => HRR.out, fun h => by cases h⟩
                  | true =>
                    obtain ⟨q9, hq9, hw9⟩ := HY4.out rfl
                    subst hq9
                    obtain ⟨l1, l2, l3⟩ := wget_few hw9
                    rw [List.length_drop, hlen] at l3
                    simp only at l1 l2
                    have hat2 : at0 + q9 ≤ m := by omega
                    have hsum : (at0 : Int) + (q9 : Int) ≤ 9223372036854775807 := by omega
                    have HNN := Lib.hid (readN_ok HN.out hw9)
                    have hshn : WShort (ws ++ [⟨kx, ix, gx, vx⟩]) := by
                      intro c hc
                      rcases List.mem_append.1 hc with h | h
                      · exact HSH.out c h
                      · rw [List.mem_singleton.1 h]; exact ⟨Nat.le_trans l1 (by decide), Nat.le_trans l2 (by decide)⟩
                    have HSHN := Lib.hid hshn
                    have hbs := HB9.out.size
                    have hlen9 : ws.length ≤ 1000000000 := by have := HWL.out; omega
                    have HL9 := Lib.hid hlen9
                    obtain ⟨p0, p1, p2, p3⟩ := wr_cells HS9.out
                    obtain ⟨⟨x0, x1, x2, x3, x4, x5, x6⟩, xf⟩ := ch_any HQ9.out
                    clear hw9 hshn hlen9 HN4 HY4 l1 l2 l3
                    go_wp2_with (at_builtin; refine wpList_append_wr rfl _ _ rfl (u := .slice a9 k c9) rfl HO9.out kx ix gx vx rfl HL9.out hbs ?_; intro v' w' ho' hg'; obtain ⟨a8, c8, e8, -⟩ := OwnL.wrs ho'; rw [List.length_append, List.length_singleton, HWL.out] at e8; subst e8; have hr' := heap_grown ((Below.heap_alloc W9 (.cells #[.string (text kx), .int .i64 ix, .bool gx, .string (text vx)] 31) (B + 1) (Array.getElem?_eq_some_iff.1 HQ9.out).1).trans HQ9.out) hg' (own_ne HQ9.out (by decide) HO9.out); obtain ⟨⟨y0, y1, y2, y3, y4, y5, y6⟩, yf⟩ := ch_any hr')
                    have hbw := ((HB9.out.alloc hbs (.cells #[.string (text kx), .int .i64 ix, .bool gx, .string (text vx)] 31)).grown hg' (by simp; omega) (fun k e => (HO9.out.lt k e).1))
                    have hz' := heap_grown ((Below.heap_alloc W9 (.cells #[.string (text kx), .int .i64 ix, .bool gx, .string (text vx)] 31) B (Array.getElem?_eq_some_iff.1 HZ9.out).1).trans HZ9.out) hg' (own_ne HZ9.out (by decide) HO9.out)
                    refine ⟨⟨k + 1, at0 + q9, _, _, by omega, by go_num, by go_num, hat2, HNN.out, by rw [List.length_append, List.length_singleton, HWL.out], HSHN.out, own_set (i := 6) hr' (by decide) ho', hbw.setCell (p := ⟨B + 1, 6, none⟩) (by have := HBe.out; simp; omega) _, (Below.heap_setCell _ ⟨B + 1, 6, none⟩ _ B (by simp)).trans hz', (heap_setCell_same _ (B + 1) 6 _ _ _ hr').trans rfl⟩, ?_⟩
                    simp [intOf]; omega
                · obtain rfl : mm = k := by omega
                  have HRR := Lib.hid (show RV = some (site, seq, n, s, a, b, ws, at0) by rw [HRR7.out, HN.out]; rfl)
                  obtain ⟨⟨x0, x1, x2, x3, x4, x5, x6⟩, xf⟩ := ch_any HQ8.out
                  obtain ⟨⟨z0, z1, z2, z3, z4, z5, z6⟩, zf⟩ := ch_any HZ8.out
                  have HSB := Lib.hid (ch_set HZ8.out (.int .i64 site) (.int .i64 seq) (.int .i64 n) (.int .i64 s) (.int .i64 a) (.int .i64 b) (.slice a9 mm c9))
                  have HBB := Lib.hid (ch_set_below (q := B) HB8.out (by have := HBe.out; omega) (.int .i64 site) (.int .i64 seq) (.int .i64 n) (.int .i64 s) (.int .i64 a) (.int .i64 b) (.slice a9 mm c9))
                  have HOB := Lib.hid ((HO8.out).of_block fun q hq => ch_set_other (q := B) (p := q) (fun e => own_ne HZ8.out (by decide) HO8.out (by rw [hq, e])) (.int .i64 site) (.int .i64 seq) (.int .i64 n) (.int .i64 s) (.int .i64 a) (.int .i64 b) (.slice a9 mm c9))
                  go_wp2
                  refine bodyPost_ret (res_cell_tmp2 rfl _ _ B 29 _ (0, 0) _ (.int .i64 (at0 : Int)) (.bool true) rfl rfl rfl HSB.out Tryd.underlying29 rfl (by kernel_rfl)) rfl ⟨_, _, _, _, _, _, _, ws, (at0 : Int), true, rfl, HOB.out, HSH.out, HBB.out, (fun h => by cases h), fun _ => ⟨at0, rfl, hat, HRR.out⟩⟩
          · have e5n : (f5 != 0) = true := by simpa using e5
            have HRR := Lib.hid (show RV = none by rw [← HRV.out]; exact rd_5 HG1.out HG2.out HG3.out HG4.out HG5.out e5)
            obtain ⟨⟨x0, x1, x2, x3, x4, x5, x6⟩, xf⟩ := ch_any HQ7.out
            obtain ⟨⟨z0, z1, z2, z3, z4, z5, z6⟩, zf⟩ := ch_any HZ7.out
            have HSB := Lib.hid (ch_set HZ7.out (.int .i64 site) (.int .i64 seq) (.int .i64 n) (.int .i64 s) (.int .i64 a) (.int .i64 b) (.slice none 0 0))
            have HBB := Lib.hid (ch_set_below (q := B) HB7.out (by have := HBe.out; omega) (.int .i64 site) (.int .i64 seq) (.int .i64 n) (.int .i64 s) (.int .i64 a) (.int .i64 b) (.slice none 0 0))
            go_wp2
            refine bodyPost_ret (res_cell_tmp2 rfl _ _ B 29 _ (0, 0) _ (.int .i64 0) (.bool false) rfl rfl rfl HSB.out Tryd.underlying29 rfl (by kernel_rfl)) rfl ⟨_, _, _, _, _, _, _, [], 0, false, rfl, OwnL.nil _ _ _, (fun c hc => by cases hc), HBB.out, fun _ => HRR.out, fun h => by cases h⟩
        · have e4n : (f4 != 0) = true := by simpa using e4
          have HRR := Lib.hid (show RV = none by rw [← HRV.out]; exact rd_4 HG1.out HG2.out HG3.out HG4.out e4)
          obtain ⟨⟨x0, x1, x2, x3, x4, x5, x6⟩, xf⟩ := ch_any HQ6.out
          obtain ⟨⟨z0, z1, z2, z3, z4, z5, z6⟩, zf⟩ := ch_any HZ6.out
          have HSB := Lib.hid (ch_set HZ6.out (.int .i64 site) (.int .i64 seq) (.int .i64 n) (.int .i64 s) (.int .i64 0) (.int .i64 0) (.slice none 0 0))
          have HBB := Lib.hid (ch_set_below (q := B) HB6.out (by have := HBe.out; omega) (.int .i64 site) (.int .i64 seq) (.int .i64 n) (.int .i64 s) (.int .i64 0) (.int .i64 0) (.slice none 0 0))
          go_wp2
          refine bodyPost_ret (res_cell_tmp2 rfl _ _ B 29 _ (0, 0) _ (.int .i64 0) (.bool false) rfl rfl rfl HSB.out Tryd.underlying29 rfl (by kernel_rfl)) rfl ⟨_, _, _, _, _, _, _, [], 0, false, rfl, OwnL.nil _ _ _, (fun c hc => by cases hc), HBB.out, fun _ => HRR.out, fun h => by cases h⟩
      · have e3n : (f3 != 0) = true := by simpa using e3
        have HRR := Lib.hid (show RV = none by rw [← HRV.out]; exact rd_3 HG1.out HG2.out HG3.out e3)
        obtain ⟨⟨x0, x1, x2, x3, x4, x5, x6⟩, xf⟩ := ch_any HQ4.out
        obtain ⟨⟨z0, z1, z2, z3, z4, z5, z6⟩, zf⟩ := ch_any HZ4.out
        have HSB := Lib.hid (ch_set HZ4.out (.int .i64 site) (.int .i64 seq) (.int .i64 0) (.int .i64 0) (.int .i64 0) (.int .i64 0) (.slice none 0 0))
        have HBB := Lib.hid (ch_set_below (q := B) HB4.out (by have := HBe.out; omega) (.int .i64 site) (.int .i64 seq) (.int .i64 0) (.int .i64 0) (.int .i64 0) (.int .i64 0) (.slice none 0 0))
        go_wp2
        refine bodyPost_ret (res_cell_tmp2 rfl _ _ B 29 _ (0, 0) _ (.int .i64 0) (.bool false) rfl rfl rfl HSB.out Tryd.underlying29 rfl (by kernel_rfl)) rfl ⟨_, _, _, _, _, _, _, [], 0, false, rfl, OwnL.nil _ _ _, (fun c hc => by cases hc), HBB.out, fun _ => HRR.out, fun h => by cases h⟩
    · have e2n : (f2 != 0) = true := by simpa using e2
      have HRR := Lib.hid (show RV = none by rw [← HRV.out]; exact rd_2 HG1.out HG2.out e2)
      obtain ⟨⟨x0, x1, x2, x3, x4, x5, x6⟩, xf⟩ := ch_any HQ2.out
      obtain ⟨⟨z0, z1, z2, z3, z4, z5, z6⟩, zf⟩ := ch_any HZ2.out
      have HSB := Lib.hid (ch_set HZ2.out (.int .i64 site) (.int .i64 0) (.int .i64 0) (.int .i64 0) (.int .i64 0) (.int .i64 0) (.slice none 0 0))
      have HBB := Lib.hid (ch_set_below (q := B) HB2.out (by have := HBe.out; omega) (.int .i64 site) (.int .i64 0) (.int .i64 0) (.int .i64 0) (.int .i64 0) (.int .i64 0) (.slice none 0 0))
      go_wp2
      refine bodyPost_ret (res_cell_tmp2 rfl _ _ B 29 _ (0, 0) _ (.int .i64 0) (.bool false) rfl rfl rfl HSB.out Tryd.underlying29 rfl (by kernel_rfl)) rfl ⟨_, _, _, _, _, _, _, [], 0, false, rfl, OwnL.nil _ _ _, (fun c hc => by cases hc), HBB.out, fun _ => HRR.out, fun h => by cases h⟩
  · have e1n : (f1 != 0) = true := by simpa using e1
    have HRR := Lib.hid (show RV = none by rw [← HRV.out]; exact rd_1 HG1.out e1)
    obtain ⟨⟨x0, x1, x2, x3, x4, x5, x6⟩, xf⟩ := ch_any HQ1.out
    obtain ⟨⟨z0, z1, z2, z3, z4, z5, z6⟩, zf⟩ := ch_any HZ1.out
    have HSB := Lib.hid (ch_set HZ1.out (.int .i64 0) (.int .i64 0) (.int .i64 0) (.int .i64 0) (.int .i64 0) (.int .i64 0) (.slice none 0 0))
    have HBB := Lib.hid (ch_set_below (q := B) HB1.out (by have := HBe.out; omega) (.int .i64 0) (.int .i64 0) (.int .i64 0) (.int .i64 0) (.int .i64 0) (.int .i64 0) (.slice none 0 0))
    go_wp2
    refine bodyPost_ret (res_cell_tmp2 rfl _ _ B 29 _ (0, 0) _ (.int .i64 0) (.bool false) rfl rfl rfl HSB.out Tryd.underlying29 rfl (by kernel_rfl)) rfl ⟨_, _, _, _, _, _, _, [], 0, false, rfl, OwnL.nil _ _ _, (fun c hc => by cases hc), HBB.out, fun _ => HRR.out, fun h => by cases h⟩
end Go.Proofs.YtfkmfccdhmnllaaDoor
end

