/-
  Policy: the reference's Find, Of, Same.
-/
import Derived.Test.YtkhihfpdghjfmaaDoorQ2
import Derived.Laws.StructEq
namespace Go.Proofs.YtkhihfpdghjfmaaDoor
open Go.RowKit Go Go.Sort
set_option linter.unusedVariables false
set_option maxRecDepth 20000

theorem find_step (name : List UInt8) (l : List Grp) (k : Nat) (h : k < l.length) : findFrom name k (l.drop k) = if (l.getD k ([], 0)).1 = name then ((k : Int), 0) else findFrom name (k + 1) (l.drop (k + 1)) := by
  have e : l[k] = l.getD k ([], 0) := by rw [List.getD_eq_getElem?_getD, List.getElem?_eq_getElem h]; rfl
  rw [List.drop_eq_getElem_cons h, e]
  rfl

set_option maxHeartbeats 1600000 in
theorem rpfind_c {w : World} {a : Option Addr} {n cap : Nat} {l : List Grp} (hl : Grs w a n cap l) (hs : ∀ g ∈ l, g.1.length ≤ 9223372036854775807) (name : List UInt8) :
    Calls Tryd.prog 15 #[.slice a n cap, .string (text name)] w (Tells (.tuple #[.int .i64 (pfindS l name).1, .int .i64 (pfindS l name).2]) w) := by
  have hln := hl.len
  have hle := hl.le
  have hmx := hl.max
  have G := rpgood_c hl hs
  have HL := Lib.hid hl
  have HV := Lib.hid (show pfindS l name = if pgoodS l = 0 then findFrom name 0 l else (0, pgoodS l) from rfl)
  obtain ⟨e, he⟩ : ∃ e, pgoodS l = e := ⟨_, rfl⟩
  rw [he] at G HV
  have HG := Lib.hid G
  clear hl G he
  by_cases h0 : e = 0
  · subst h0
    have hv : pfindS l name = findFrom name 0 (l.drop 0) := by rw [HV.out, if_pos rfl]; rfl
    have HV2 := Lib.hid hv
    obtain ⟨r, hr⟩ : ∃ r, pfindS l name = r := ⟨_, rfl⟩
    rw [hr] at HV2 ⊢
    clear hv HV hr
    go_enter Tryd.func15, Tryd.ntmps15
    go_upto_region 5 with (go_at_call 19; (with_reducible refine (HG.out).mono ?_); rintro e w1 ⟨rfl, hb1⟩)
    go_loopw [7] (fun i wr => ∃ k : Nat, k ≤ n ∧ i = .int .i64 k ∧ r = findFrom name k (l.drop k) ∧ Below w.heap.size w wr) (fun i _ => n - (intOf i).toNat)
    case atStart => exact ⟨0, by omega, rfl, HV2.out, hb1⟩
    case round =>
      clear HV2 hb1
      obtain ⟨k, hk, rfl, hv, hB⟩ := hrel
      by_cases hlt : k < n
      · have hki : (k : Int) < (n : Int) := by omega
        have hki2 : (k : Int) < (cap : Int) := by omega
        obtain ⟨b, off, rfl, hat⟩ := HL.out.at hlt
        have hst := find_step name l k (by omega)
        obtain ⟨⟨s, p⟩, hg⟩ : ∃ g, l.getD k ([], 0) = g := ⟨_, rfl⟩
        rw [hg] at hat hst
        obtain ⟨c0, c1⟩ := hat wr hB
        simp only at c0 c1 hst
        have hcmp := text_same s name
        have HB := Lib.hid hB
        by_cases he : s = name
        · have HR := Lib.hid (show r = ((k : Int), 0) by rw [hv, hst, if_pos he])
          rw [decide_eq_true he] at hcmp
          clear hat hst hv hB hg he
          go_wp2
          go_ret2
          exact ⟨by rw [HR.out]; rfl, HB.out⟩
        · have HR := Lib.hid (show r = findFrom name (k + 1) (l.drop (k + 1)) by rw [hv, hst, if_neg he])
          rw [decide_eq_false he] at hcmp
          clear hat hst hv hB hg he
          go_wp2
          go_roundw
          case rel => exact ⟨k + 1, by omega, rfl, HR.out, HB.out⟩
          case measure => simp [intOf]; omega
      · obtain rfl : k = n := by omega
        have HR := Lib.hid (show r = (0, 70) by rw [hv, List.drop_of_length_le (by omega)]; rfl)
        have HB := Lib.hid hB
        clear hv hB
        go_wp2
        go_ret2
        exact ⟨by rw [HR.out]; rfl, HB.out⟩
  · have hne : (e != 0) = true := by simpa using h0
    have HR := Lib.hid (show pfindS l name = (0, e) by rw [HV.out, if_neg h0])
    clear HV h0
    go_enter Tryd.func15, Tryd.ntmps15
    go_wp2_with (go_at_call 19; (with_reducible refine (HG.out).mono ?_); rintro e w1 ⟨rfl, hb1⟩)
    go_ret2
    exact ⟨by rw [HR.out]; rfl, hb1⟩

set_option maxHeartbeats 1600000 in
theorem rpof_c {w : World} {a : Option Addr} {n cap : Nat} {l : List Grp} (hl : Grs w a n cap l) (hs : ∀ g ∈ l, g.1.length ≤ 9223372036854775807) (k : Int) :
    Calls Tryd.prog 17 #[.slice a n cap, .int .i64 k] w (Tells (.tuple #[.int .i64 (pofS l k).1, .int .i64 (pofS l k).2]) w) := by
  have hln := hl.len
  have hle := hl.le
  have hmx := hl.max
  have G := rpgood_c hl hs
  have HL := Lib.hid hl
  have HV := Lib.hid (show pofS l k = if pgoodS l = 0 then (if k < 0 ∨ (l.length : Int) ≤ k then (0, 70) else ((l.getD k.toNat ([], 0)).2, 0)) else (0, pgoodS l) from rfl)
  rw [hln] at HV
  obtain ⟨e, he⟩ : ∃ e, pgoodS l = e := ⟨_, rfl⟩
  rw [he] at G HV
  have HG := Lib.hid G
  clear hl G he
  by_cases h0 : e = 0
  · subst h0
    by_cases h1 : k < 0
    · have HR := Lib.hid (show pofS l k = (0, 70) by rw [HV.out, if_pos rfl, if_pos (.inl h1)])
      clear HV
      go_enter Tryd.func17, Tryd.ntmps17
      go_wp2_with (go_at_call 19; (with_reducible refine (HG.out).mono ?_); rintro e w1 ⟨rfl, hb1⟩)
      go_ret2
      exact ⟨by rw [HR.out]; rfl, hb1⟩
    · by_cases h2 : (n : Int) ≤ k
      · have HR := Lib.hid (show pofS l k = (0, 70) by rw [HV.out, if_pos rfl, if_pos (.inr h2)])
        clear HV
        go_enter Tryd.func17, Tryd.ntmps17
        go_wp2_with (go_at_call 19; (with_reducible refine (HG.out).mono ?_); rintro e w1 ⟨rfl, hb1⟩)
        go_ret2
        exact ⟨by rw [HR.out]; rfl, hb1⟩
      · obtain ⟨m, rfl⟩ : ∃ m : Nat, k = (m : Int) := ⟨k.toNat, by omega⟩
        have hmn : m < n := by omega
        have hmi : (m : Int) < (cap : Int) := by omega
        obtain ⟨b, off, rfl, hat⟩ := HL.out.at hmn
        have HR := Lib.hid (show pofS l m = ((l.getD m ([], 0)).2, 0) by rw [HV.out, if_pos rfl, if_neg (by omega), Int.toNat_natCast])
        obtain ⟨⟨s, p⟩, hg⟩ : ∃ g, l.getD m ([], 0) = g := ⟨_, rfl⟩
        rw [hg] at hat HR
        have HAT := Lib.hid hat
        clear HV hat hg
        go_enter Tryd.func17, Tryd.ntmps17
        go_wp2_with (go_at_call 19; (with_reducible refine (HG.out).mono ?_); rintro e w1 ⟨rfl, hb1⟩; obtain ⟨c0, c1⟩ := HAT.out w1 hb1; simp only at c0 c1)
        go_ret2
        exact ⟨by rw [HR.out]; rfl, hb1⟩
  · have hne : (e != 0) = true := by simpa using h0
    have HR := Lib.hid (show pofS l k = (0, e) by rw [HV.out, if_neg h0])
    clear HV h0
    go_enter Tryd.func17, Tryd.ntmps17
    go_wp2_with (go_at_call 19; (with_reducible refine (HG.out).mono ?_); rintro e w1 ⟨rfl, hb1⟩)
    go_ret2
    exact ⟨by rw [HR.out]; rfl, hb1⟩
end Go.Proofs.YtkhihfpdghjfmaaDoor
