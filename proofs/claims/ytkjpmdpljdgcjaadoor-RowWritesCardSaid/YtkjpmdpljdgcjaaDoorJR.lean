/-
  Of of policy (cut of JC).
-/
import Derived.Test.YtkjpmdpljdgcjaaDoorJB
namespace Go.Proofs.YtkjpmdpljdgcjaaDoor
open Go.RowKit Go Go.Sort
set_option linter.unusedVariables false
set_option maxRecDepth 20000

set_option maxHeartbeats 1600000 in
theorem pof_c {w : World} {a : Option Addr} {n cap : Nat} {l : List Grp} (hl : Grs w a n cap l) (hs : ∀ g ∈ l, g.1.length ≤ 9223372036854775807) (k : Int) :
    Calls Tryd.prog 48 #[.slice a n cap, .int .i64 k] w (Tells (.tuple #[.int .i64 (pofS l k).1, .int .i64 (pofS l k).2]) w) := by
  have hln := hl.len
  have hle := hl.le
  have hmx := hl.max
  have G := pgood_c hl hs
  have HL := Lib.hid hl
  have HV := Lib.hid (show pofS l k = if pgoodS l = 0 then (if k < 0 ∨ (l.length : Int) ≤ k then (0, 70) else ((l.getD k.toNat ([], 0)).2, 0)) else (0, pgoodS l) from rfl)
  rw [hln] at HV
  obtain ⟨e, he⟩ : ∃ e, pgoodS l = e := ⟨_, rfl⟩
  rw [he] at G HV
  have HG := Lib.hid G
  clear hl G he
  by_cases h0 : e = 0
  · subst h0
    by_cases h1 : k < 0
    · have HR := Lib.hid (show pofS l k = (0, 70) by rw [HV.out, if_pos rfl, if_pos (.inl h1)])
      clear HV
      go_enter Tryd.func48, Tryd.ntmps48
      go_wp2_with (go_at_call 41; (with_reducible refine (HG.out).mono ?_); rintro e w1 ⟨rfl, hb1⟩)
      go_ret2
      exact ⟨by rw [HR.out]; rfl, hb1⟩
    · by_cases h2 : (n : Int) ≤ k
      · have HR := Lib.hid (show pofS l k = (0, 70) by rw [HV.out, if_pos rfl, if_pos (.inr h2)])
        clear HV
        go_enter Tryd.func48, Tryd.ntmps48
        go_wp2_with (go_at_call 41; (with_reducible refine (HG.out).mono ?_); rintro e w1 ⟨rfl, hb1⟩)
        go_ret2
        exact ⟨by rw [HR.out]; rfl, hb1⟩
      · obtain ⟨m, rfl⟩ : ∃ m : Nat, k = (m : Int) := ⟨k.toNat, by omega⟩
        have hmn : m < n := by omega
        have hmi : (m : Int) < (cap : Int) := by omega
        obtain ⟨b, off, rfl, hat⟩ := HL.out.at hmn
        have HR := Lib.hid (show pofS l m = ((l.getD m ([], 0)).2, 0) by rw [HV.out, if_pos rfl, if_neg (by omega), Int.toNat_natCast])
        obtain ⟨⟨s, p⟩, hg⟩ : ∃ g, l.getD m ([], 0) = g := ⟨_, rfl⟩
        rw [hg] at hat HR
        have HAT := Lib.hid hat
        clear HV hat hg
        go_enter Tryd.func48, Tryd.ntmps48
        go_wp2_with (go_at_call 41; (with_reducible refine (HG.out).mono ?_); rintro e w1 ⟨rfl, hb1⟩; obtain ⟨c0, c1⟩ := HAT.out w1 hb1; simp only at c0 c1)
        go_ret2
        exact ⟨by rw [HR.out]; rfl, hb1⟩
  · have hne : (e != 0) = true := by simpa using h0
    have HR := Lib.hid (show pofS l k = (0, e) by rw [HV.out, if_neg h0])
    clear HV h0
    go_enter Tryd.func48, Tryd.ntmps48
    go_wp2_with (go_at_call 41; (with_reducible refine (HG.out).mono ?_); rintro e w1 ⟨rfl, hb1⟩)
    go_ret2
    exact ⟨by rw [HR.out]; rfl, hb1⟩
end Go.Proofs.YtkjpmdpljdgcjaaDoor
