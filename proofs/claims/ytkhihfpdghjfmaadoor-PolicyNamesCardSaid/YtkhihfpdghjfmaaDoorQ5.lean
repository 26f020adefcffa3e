/-
  Policy: the reference's text and Print.
-/
import Derived.Test.YtkhihfpdghjfmaaDoorQ4
namespace Go.Proofs.YtkhihfpdghjfmaaDoor
open Go.RowKit Go Go.Sort
set_option linter.unusedVariables false
set_option maxRecDepth 20000

theorem good_names : ∀ (r ahead : List Grp), goodFrom ahead r = 0 → ∀ g ∈ r, nameS g.1 = true ∧ (g.2 = 1 ∨ g.2 = 2)
  | [], _, _, g, hg => by simp at hg
  | h :: r, ahead, h0, g, hg => by
    unfold goodFrom at h0
    split at h0
    · exact absurd h0 (by decide)
    · rename_i hc
      split at h0
      · exact absurd h0 (by decide)
      · rcases List.mem_cons.1 hg with rfl | hg
        · exact Classical.not_not.1 hc
        · exact good_names r _ h0 g hg
theorem schema_names {l : List Grp} (h : pgoodS l = 0) : 1 ≤ l.length ∧ l.length ≤ 4 ∧ ∀ g ∈ l, nameS g.1 = true ∧ (g.2 = 1 ∨ g.2 = 2) := by
  unfold pgoodS at h
  split at h
  · exact absurd h (by decide)
  · split at h
    · exact absurd h (by decide)
    · exact ⟨by omega, by omega, good_names l [] h⟩
theorem name_len {s : List UInt8} (h : nameS s = true) : 1 ≤ s.length ∧ s.length ≤ 12 := by
  rw [nameS_low] at h; simp at h; omega
theorem run_text_add (x y : List UInt8) (h : x.length + y.length ≤ 1000000) (W : World) : (Op.stringOp .add (text x) (text y)).run Tryd.prog W = .ok (.string (text (x ++ y))) W := by
  rw [run_string_add_sum W _ _ (by rw [text_len, text_len]; omega)]
  have : text x ++ text y = text (x ++ y) := by
    apply ByteArray.ext
    rw [ByteArray.data_append]
    simp [text]
  rw [this]
theorem ptext_step (l : List Grp) (k : Nat) (h : k < l.length) : ptextS (l.take (k + 1)) = ptextS (l.take k) ++ (if k = 0 then [] else [44]) ++ oneT (l.getD k ([], 0)) := by
  have e : l[k] = l.getD k ([], 0) := by rw [List.getD_eq_getElem?_getD, List.getElem?_eq_getElem h]; rfl
  rw [List.take_succ_eq_append_getElem h, e]
  cases k with
  | zero => simp [ptextS]
  | succ k =>
    cases l with
    | nil => simp at h
    | cons g r =>
      rw [List.take_succ_cons, if_neg (by omega)]
      simp [ptextS, List.flatMap_append]

set_option maxHeartbeats 1600000 in
theorem rptext_c {w : World} {a : Option Addr} {n cap : Nat} {l : List Grp} (hl : Grs w a n cap l) (hn4 : n ≤ 4) (hs : ∀ g ∈ l, g.1.length ≤ 12) :
    Calls Tryd.prog 53 #[.slice a n cap] w (Tells (.string (text (ptextS l))) w) := by
  have hln := hl.len
  have hle := hl.le
  have hmx := hl.max
  have HL := Lib.hid hl
  clear hl
  go_enter Tryd.func53, Tryd.ntmps53
  go_wp2
  go_loopw [3, 4] (fun s i wr => wr = w ∧ ∃ k : Nat, k ≤ n ∧ i = .int .i64 k ∧ s = .string (text (ptextS (l.take k))) ∧ (ptextS (l.take k)).length ≤ 20 * k) (fun _ i _ => n - (intOf i).toNat)
  case atStart => exact ⟨rfl, 0, by omega, rfl, rfl, by simp [ptextS]⟩
  case round =>
    obtain ⟨rfl, k, hk, rfl, rfl, hacc⟩ := hrel
    by_cases hlt : k < n
    · have hki : (k : Int) < (n : Int) := by omega
      have hki2 : (k : Int) < (cap : Int) := by omega
      obtain ⟨b, off, rfl, hat⟩ := HL.out.at hlt
      have hst := ptext_step l k (by omega)
      have hnm : (l.getD k ([], 0)).1.length ≤ 12 := hs _ (by rw [List.getD_eq_getElem?_getD, List.getElem?_eq_getElem (by omega)]; exact List.getElem_mem _)
      obtain ⟨⟨s, p⟩, hg⟩ : ∃ g, l.getD k ([], 0) = g := ⟨_, rfl⟩
      rw [hg] at hat hst hnm
      obtain ⟨c0, c1⟩ := hat wr (Below.refl _ _)
      simp only at c0 c1 hnm
      obtain ⟨acc, hac⟩ : ∃ q, ptextS (l.take k) = q := ⟨_, rfl⟩
      rw [hac] at hst hacc ⊢
      obtain ⟨sep, hsep⟩ : ∃ q, (if k = 0 then [] else [44] : List UInt8) = q := ⟨_, rfl⟩
      rw [hsep] at hst
      have hsl : sep.length ≤ 1 := by rw [← hsep]; split <;> simp
      have hwl : (wordS p).length ≤ 6 := by unfold wordS; split <;> simp
      have e2 := run_text_add (acc ++ sep) s (by rw [List.length_append]; omega)
      have e3 := run_text_add (acc ++ sep ++ s) [61] (by simp only [List.length_append, List.length_cons, List.length_nil]; omega)
      have e4 := run_text_add (acc ++ sep ++ s ++ [61]) (wordS p) (by simp only [List.length_append, List.length_cons, List.length_nil]; omega)
      have hfin : acc ++ sep ++ s ++ [61] ++ wordS p = ptextS (l.take (k + 1)) := by rw [hst]; simp [oneT]
      rw [hfin] at e4
      have HFL := Lib.hid (show (ptextS (l.take (k + 1))).length ≤ 20 * (k + 1) by rw [← hfin]; simp only [List.length_append, List.length_cons, List.length_nil]; omega)
      obtain ⟨X4, hX4⟩ : ∃ q, text (ptextS (l.take (k + 1))) = q := ⟨_, rfl⟩
      obtain ⟨X3, hX3⟩ : ∃ q, text (acc ++ sep ++ s ++ [61]) = q := ⟨_, rfl⟩
      obtain ⟨X2, hX2⟩ : ∃ q, text (acc ++ sep ++ s) = q := ⟨_, rfl⟩
      rw [hX2] at e2 e3
      rw [hX3] at e3 e4
      rw [hX4] at e4
      have e3 : ∀ W, (Op.stringOp .add X2 ⟨#[61]⟩).run Tryd.prog W = .ok (.string X3) W := e3
      have HX := Lib.hid hX4
      by_cases hk0 : k = 0
      · subst hk0
        have hsn : sep = [] := by rw [← hsep]; rfl
        subst hsn
        rw [List.append_nil] at e2
        rw [Nat.zero_mul, Nat.add_zero] at c0 c1
        by_cases hp : p = 1
        · subst hp
          have e4 : ∀ W, (Op.stringOp .add X3 ⟨#[108, 97, 115, 116]⟩).run Tryd.prog W = .ok (.string X4) W := e4
          clear hat hst hfin hac hsep hX2 hX3 hX4 hg hacc hnm hsl hwl
          go_wp2
          go_roundw
          case rel => exact ⟨trivial, 1, by omega, rfl, by rw [HX.out], HFL.out⟩
          case measure => simp [intOf]; omega
        · have hp1 : (p == 1) = false := by simpa using hp
          have e4 : ∀ W, (Op.stringOp .add X3 ⟨#[100, 101, 108, 101, 116, 101]⟩).run Tryd.prog W = .ok (.string X4) W := by
            have : wordS p = [100, 101, 108, 101, 116, 101] := by unfold wordS; rw [if_neg hp]
            rw [this] at e4; exact e4
          clear hat hst hfin hac hsep hX2 hX3 hX4 hg hacc hnm hsl hwl hp
          go_wp2
          go_roundw
          case rel => exact ⟨trivial, 1, by omega, rfl, by rw [HX.out], HFL.out⟩
          case measure => simp [intOf]; omega
      · have hsn : sep = [44] := by rw [← hsep, if_neg hk0]
        subst hsn
        have e1 := run_text_add acc [44] (by simp only [List.length_cons, List.length_nil]; omega)
        obtain ⟨X1, hX1⟩ : ∃ q, text (acc ++ [44]) = q := ⟨_, rfl⟩
        rw [hX1] at e1 e2
        have e1 : ∀ W, (Op.stringOp .add (text acc) ⟨#[44]⟩).run Tryd.prog W = .ok (.string X1) W := e1
        have hkp : (0 : Int) < (k : Int) := by omega
        by_cases hp : p = 1
        · subst hp
          have e4 : ∀ W, (Op.stringOp .add X3 ⟨#[108, 97, 115, 116]⟩).run Tryd.prog W = .ok (.string X4) W := e4
          clear hat hst hfin hac hsep hX1 hX2 hX3 hX4 hg hacc hnm hsl hwl
          go_wp2
          go_roundw
          case rel => exact ⟨trivial, k + 1, by omega, rfl, by rw [HX.out], HFL.out⟩
          case measure => simp [intOf]; omega
        · have hp1 : (p == 1) = false := by simpa using hp
          have e4 : ∀ W, (Op.stringOp .add X3 ⟨#[100, 101, 108, 101, 116, 101]⟩).run Tryd.prog W = .ok (.string X4) W := by
            have : wordS p = [100, 101, 108, 101, 116, 101] := by unfold wordS; rw [if_neg hp]
            rw [this] at e4; exact e4
          clear hat hst hfin hac hsep hX1 hX2 hX3 hX4 hg hacc hnm hsl hwl hp
          go_wp2
          go_roundw
          case rel => exact ⟨trivial, k + 1, by omega, rfl, by rw [HX.out], HFL.out⟩
          case measure => simp [intOf]; omega
    · obtain rfl : k = n := by omega
      rw [List.take_of_length_le (by omega)]
      clear hacc
      go_wp2
      go_ret
      exact ⟨rfl, Below.refl _ _⟩

set_option maxHeartbeats 1600000 in
theorem rpprint_c {w : World} {a : Option Addr} {n cap : Nat} {l : List Grp} (hl : Grs w a n cap l) (hs : ∀ g ∈ l, g.1.length ≤ 9223372036854775807) :
    Calls Tryd.prog 26 #[.slice a n cap] w (Tells (.tuple #[.string (text (if pgoodS l = 0 then ptextS l else [])), .int .i64 (pgoodS l)]) w) := by
  have G := rpgood_c hl hs
  have hln := hl.len
  have hsch := @schema_names l
  have HL := Lib.hid hl
  obtain ⟨e, he⟩ : ∃ e, pgoodS l = e := ⟨_, rfl⟩
  rw [he] at G hsch ⊢
  have HG := Lib.hid G
  clear hl G he
  by_cases h0 : e = 0
  · subst h0
    obtain ⟨h1, h4, hnm⟩ := hsch rfl
    have hn4 : n ≤ 4 := by omega
    have hn12 : ∀ g ∈ l, g.1.length ≤ 12 := fun g hg => (name_len (hnm g hg).1).2
    have HT := Lib.hid (fun W (h : Below w.heap.size w W) => rptext_c (HL.out.below h) hn4 hn12)
    rw [if_pos rfl]
    clear hsch hnm hn12
    go_enter Tryd.func26, Tryd.ntmps26
    go_wp2_with (first
      | (go_at_call 19; (with_reducible refine (HG.out).mono ?_); rintro e w1 ⟨rfl, hb1⟩)
      | (go_at_call 53; (with_reducible refine (HT.out _ hb1).mono ?_); rintro e w2 ⟨rfl, hb2⟩))
    go_ret2
    exact ⟨rfl, hb1.trans (hb2.mono hb1.size)⟩
  · have hne : (e != 0) = true := by simpa using h0
    rw [if_neg h0]
    clear h0 hsch
    go_enter Tryd.func26, Tryd.ntmps26
    go_wp2_with (go_at_call 19; (with_reducible refine (HG.out).mono ?_); rintro e w1 ⟨rfl, hb1⟩)
    go_ret2
    exact ⟨rfl, hb1⟩
end Go.Proofs.YtkhihfpdghjfmaaDoor
