/-
  Policy: equality of groups; the reference's Same.
-/
import Derived.Test.YtkhihfpdghjfmaaDoorQ3
import Derived.ChangeKeysEq
namespace Go.Proofs.YtkhihfpdghjfmaaDoor
open Go.RowKit Go Go.Sort
set_option linter.unusedVariables false
set_option maxRecDepth 20000

theorem grp_eqIn (s s' : List UInt8) (p p' : Int) (W : World) : (Op.equalIn 10000 54 (.agg #[.string (text s), .int .i64 p]) (.agg #[.string (text s'), .int .i64 p'])).run Tryd.prog W = .ok (decide (s = s') && (p == p')) W := by
  rw [run_equalIn_struct W 9999 _ _ _ Tryd.underlying54 (by kernel_rfl)]
  obtain ⟨f0, f1, hf, h0, h1, t0, t1, n0, n1⟩ : ∃ f0 f1, (Tryd.prog.fieldsOf 54).toList = [f0, f1] ∧ f0.offset = 0 ∧ f1.offset = 1 ∧ f0.type = 9 ∧ f1.type = 3 ∧ f0.name ≠ "_" ∧ f1.name ≠ "_" := ⟨_, _, rfl, rfl, rfl, rfl, rfl, by decide, by decide⟩
  rw [hf]
  have p0 := run_part_plain (P := Tryd.prog) (e := 9) W (by kernel_rfl) (xs := #[.string (text s), .int .i64 p]) (off := 0) rfl
  have p1 := run_part_plain (P := Tryd.prog) (e := 3) W (by kernel_rfl) (xs := #[.string (text s), .int .i64 p]) (off := 1) rfl
  have q0 := run_part_plain (P := Tryd.prog) (e := 9) W (by kernel_rfl) (xs := #[.string (text s'), .int .i64 p']) (off := 0) rfl
  have q1 := run_part_plain (P := Tryd.prog) (e := 3) W (by kernel_rfl) (xs := #[.string (text s'), .int .i64 p']) (off := 1) rfl
  have he := text_same s s'
  cases e0 : decide (s = s') <;> cases e1 : (p == p') <;> rw [e0] at he <;> simp [Op.eqFields, n0, n1, h0, h1, t0, t1, p0, q0, p1, q1, he, e1, run_equalIn_string W 9998 9 _ _ Tryd.underlying9, run_equalIn_int W 9998 3 .i64 .i64 _ _ Tryd.underlying3, Sem.run_bind, Result.andThen_ok]
theorem grp_neqb (s s' : List UInt8) (p p' : Int) (b : Bool) (h : (decide (s = s') && (p == p')) = b) (W : World) : (binOp .neq 54 (.agg #[.string (text s), .int .i64 p]) (.agg #[.string (text s'), .int .i64 p'])).run Tryd.prog W = .ok (.bool (!b)) W := by
  rw [run_neq_struct, grp_eqIn, h]; rfl
theorem grp_eqb (s s' : List UInt8) (p p' : Int) (b : Bool) (h : (decide (s = s') && (p == p')) = b) (W : World) : (binOp .eql 54 (.agg #[.string (text s), .int .i64 p]) (.agg #[.string (text s'), .int .i64 p'])).run Tryd.prog W = .ok (.bool b) W := by
  rw [run_eql_struct, grp_eqIn, h]; rfl
theorem grp_eqg (op : BinOp) (x y : Operand) (xs ys : Array Value) (W : World) : (eqGuard op 54 x y (.agg xs) (.agg ys)).run Tryd.prog W = .ok () W := run_eqGuard_agg W op _ x y xs ys (by kernel_rfl)

theorem same_step (l m : List Grp) (k : Nat) (h : k < l.length) (h2 : k < m.length) (ht : l.take k = m.take k) (he : l.getD k ([], 0) = m.getD k ([], 0)) : l.take (k + 1) = m.take (k + 1) := by
  rw [List.getD_eq_getElem?_getD, List.getD_eq_getElem?_getD, List.getElem?_eq_getElem h, List.getElem?_eq_getElem h2] at he
  rw [List.take_succ_eq_append_getElem h, List.take_succ_eq_append_getElem h2, ht]
  simp at he
  rw [he]

set_option maxHeartbeats 1600000 in
theorem rpsame_c {w : World} {a a' : Option Addr} {n cap n' cap' : Nat} {l m : List Grp} (hl : Grs w a n cap l) (hm : Grs w a' n' cap' m) :
    Calls Tryd.prog 24 #[.slice a n cap, .slice a' n' cap'] w (Tells (.bool (decide (l = m))) w) := by
  have hln := hl.len
  have hle := hl.le
  have hmx := hl.max
  have hln' := hm.len
  have hle' := hm.le
  have hmx' := hm.max
  have HL := Lib.hid hl
  have HM := Lib.hid hm
  clear hl hm
  by_cases h0 : n = n'
  · subst h0
    have hEG := grp_eqg
    obtain ⟨r, hr⟩ : ∃ r, decide (l = m) = r := ⟨_, rfl⟩
    have HR := Lib.hid hr
    rw [hr]
    clear hr
    go_enter Tryd.func24, Tryd.ntmps24
    go_wp2
    go_loopw [5] (fun i wr => ∃ k : Nat, k ≤ n ∧ i = .int .i64 k ∧ l.take k = m.take k ∧ Below w.heap.size w wr) (fun i _ => n - (intOf i).toNat)
    case atStart => exact ⟨0, by omega, rfl, rfl, Below.refl _ _⟩
    case round =>
      obtain ⟨k, hk, rfl, ht, hB⟩ := hrel
      by_cases hlt : k < n
      · have hki : (k : Int) < (n : Int) := by omega
        have hki2 : (k : Int) < (cap : Int) := by omega
        have hki3 : (k : Int) < (cap' : Int) := by omega
        obtain ⟨b, off, rfl, hat⟩ := HL.out.at hlt
        obtain ⟨b', off', rfl, hat'⟩ := HM.out.at hlt
        have hst := same_step l m k (by omega) (by omega) ht
        obtain ⟨⟨s, p⟩, hg⟩ : ∃ g, l.getD k ([], 0) = g := ⟨_, rfl⟩
        obtain ⟨⟨s', p'⟩, hg'⟩ : ∃ g, m.getD k ([], 0) = g := ⟨_, rfl⟩
        rw [hg] at hat hst
        rw [hg'] at hat' hst
        obtain ⟨c0, c1⟩ := hat wr hB
        obtain ⟨d0, d1⟩ := hat' wr hB
        simp only at c0 c1 d0 d1
        have HB := Lib.hid hB
        by_cases he : s = s' ∧ p = p'
        · have hne := grp_neqb s s' p p' true (by simp [he])
          have HS := Lib.hid (hst (by rw [he.1, he.2]))
          clear hat hat' hst ht hB hg hg' he
          go_wp2
          go_quiet (fail)
          go_wp2
          go_roundw
          case rel => exact ⟨k + 1, by omega, rfl, HS.out, HB.out.trans (drewN_below (Below.refl _ _) _)⟩
          case measure => simp [intOf]; omega
        · have hne := grp_neqb s s' p p' false (by rw [Bool.eq_false_iff]; simp; intro h1 h2; exact he ⟨h1, h2⟩)
          have hrf : r = false := by
            rw [← HR.out, decide_eq_false_iff_not]
            intro h
            rw [h, hg'] at hg
            exact he (by cases hg; exact ⟨rfl, rfl⟩)
          have HRF := Lib.hid hrf
          clear hat hat' hst ht hB hg hg' he hrf
          go_wp2
          go_quiet (fail)
          go_wp2
          go_ret
          exact ⟨by rw [HRF.out]; rfl, HB.out.trans (drewN_below (Below.refl _ _) _)⟩
      · obtain rfl : k = n := by omega
        rw [List.take_of_length_le (by omega), List.take_of_length_le (by omega)] at ht
        have hrt : r = true := by rw [← HR.out, decide_eq_true ht]
        have HRT := Lib.hid hrt
        have HB := Lib.hid hB
        clear ht hB hrt
        go_wp2
        go_ret
        exact ⟨by rw [HRT.out]; rfl, HB.out⟩
  · have hne : (n : Int) ≠ (n' : Int) := by omega
    have hnb : ((n : Int) != (n' : Int)) = true := by rw [bne_iff_ne]; omega
    have hnb2 : (n != n') = true := by simpa using h0
    have hr : decide (l = m) = false := by
      rw [decide_eq_false_iff_not]; intro h; rw [h] at hln; omega
    rw [hr]
    clear hr
    go_enter Tryd.func24, Tryd.ntmps24
    go_wp2
    go_ret
    exact ⟨rfl, Below.refl _ _⟩
end Go.Proofs.YtkhihfpdghjfmaaDoor
