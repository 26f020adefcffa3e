/-
  Texts of digests that are read: the plain mathematics, and what a digit says.
-/
import Derived.Test.YticcmhgahbnboaaDoorSH
import Derived.Test.YticcmhgahbnboaaDoorHT
import Derived.Laws.Externs
namespace Go.Proofs.YticcmhgahbnboaaDoor
open Go.RowKit Go
set_option linter.unusedVariables false

/-- What a digit says; -1: it is none. -/
def hexV (c : UInt8) : Int := if 48 ≤ c.toNat ∧ c.toNat ≤ 57 then (c.toNat : Int) - 48 else if 97 ≤ c.toNat ∧ c.toNat ≤ 102 then (c.toNat : Int) - 87 else -1
theorem hexV_bd (c : UInt8) : -1 ≤ hexV c ∧ hexV c ≤ 15 := by unfold hexV; split <;> (try split) <;> omega
/-- One more digit behind a byte. -/
def stepD (x c : UInt8) : UInt8 := UInt8.ofNat (16 * x.toNat + (hexV c).toNat)
theorem stepD_val (x c : UInt8) : ((stepD x c).toNat : Int) = (16 * (x.toNat : Int) + ((hexV c).toNat : Int)) % 256 := by
  unfold stepD; rw [UInt8.toNat_ofNat']; omega
/-- A digest of whose text k bytes are read. -/
def rdK (s : List UInt8) : Nat → List UInt8
  | 0 => List.replicate 32 0
  | k + 1 => (rdK s k).set (k / 2) (stepD ((rdK s k).getD (k / 2) 0) (s.getD k 0))
theorem rdK_length (s : List UInt8) (k : Nat) : (rdK s k).length = 32 := by
  induction k with
  | zero => rfl
  | succ k ih => simp [rdK, ih]
/-- Digits two by two. -/
def pairsD : List UInt8 → List UInt8
  | a :: b :: r => stepD (stepD 0 a) b :: pairsD r
  | _ => []
theorem pairsD_append (l : List UInt8) (a b : UInt8) : ∀ (n : Nat), l.length = 2 * n → pairsD (l ++ [a, b]) = pairsD l ++ [stepD (stepD 0 a) b] := by
  intro n
  induction n generalizing l with
  | zero => intro h; obtain rfl := List.eq_nil_of_length_eq_zero h; rfl
  | succ n ih =>
    intro h
    match l, h with
    | x :: y :: r, h =>
      simp only [List.length_cons] at h
      simp only [List.cons_append, pairsD]
      rw [ih r (by omega)]
theorem pairsD_length (l : List UInt8) : ∀ n, l.length = 2 * n → (pairsD l).length = n := by
  intro n
  induction n generalizing l with
  | zero => intro h; obtain rfl := List.eq_nil_of_length_eq_zero h; rfl
  | succ n ih =>
    intro h
    match l, h with
    | x :: y :: r, h =>
      simp only [List.length_cons] at h
      simp only [pairsD, List.length_cons]
      rw [ih r (by omega)]
theorem getD_mid8 (p r : List UInt8) (x : UInt8) (k : Nat) (h : p.length = k) : (p ++ x :: r).getD k 0 = x := by
  subst h; simp [List.getD]
theorem set_mid8 (p r : List UInt8) (x y : UInt8) (k : Nat) (h : p.length = k) : (p ++ x :: r).set k y = p ++ y :: r := by
  subst h; simp
theorem rdK_pairs (s : List UInt8) (k : Nat) (h : 2 * k ≤ s.length) (hk : k ≤ 32) : rdK s (2 * k) = pairsD (s.take (2 * k)) ++ List.replicate (32 - k) 0 := by
  induction k with
  | zero => rfl
  | succ k ih =>
    have ih := ih (by omega) (by omega)
    have hl : (pairsD (s.take (2 * k))).length = k := pairsD_length _ k (by simp; omega)
    have hr : List.replicate (32 - k) (0 : UInt8) = 0 :: List.replicate (32 - (k + 1)) 0 := by
      rw [show 32 - k = (32 - (k + 1)) + 1 by omega, List.replicate_succ]
    have ht : s.take (2 * (k + 1)) = s.take (2 * k) ++ [s.getD (2 * k) 0, s.getD (2 * k + 1) 0] := by
      rw [show 2 * (k + 1) = 2 * k + 1 + 1 by omega, List.take_add_one, List.take_add_one, List.append_assoc]
      congr 1
      rw [List.getD_eq_getElem?_getD, List.getD_eq_getElem?_getD, List.getElem?_eq_getElem (by omega), List.getElem?_eq_getElem (by omega)]
      rfl
    rw [ht, pairsD_append _ _ _ k (by simp; omega), show 2 * (k + 1) = 2 * k + 1 + 1 by omega]
    rw [hr] at ih
    generalize pairsD (s.take (2 * k)) = p at *
    have e1 : rdK s (2 * k + 1) = p ++ stepD 0 (s.getD (2 * k) 0) :: List.replicate (32 - (k + 1)) 0 := by
      rw [rdK, ih, show 2 * k / 2 = k by omega, getD_mid8 _ _ _ k hl, set_mid8 _ _ _ _ k hl]
    rw [rdK, e1, show (2 * k + 1) / 2 = k by omega, getD_mid8 _ _ _ k hl, set_mid8 _ _ _ _ k hl, List.append_assoc]
    rfl
theorem rdK_all (s : List UInt8) (h : s.length = 64) : rdK s 64 = pairsD s := by
  have := rdK_pairs s 32 (by omega) (by omega)
  rw [List.take_of_length_le (by omega)] at this
  simpa using this
/-- All are digits. -/
def digitsB (s : List UInt8) : Prop := ∀ i, i < s.length → 0 ≤ hexV (s.getD i 0)
theorem hexV_hexD : ∀ n : Fin 16, hexV (hexD n.val) = (n.val : Int) := by decide +kernel
theorem step_two : ∀ c : Fin 256, stepD (stepD 0 (hexD (c.val / 16))) (hexD (c.val % 16)) = UInt8.ofNat c.val := by decide +kernel
theorem pairs_hex (d : List UInt8) : pairsD (hexS d) = d := by
  induction d with
  | nil => rfl
  | cons c d ih =>
    have h := step_two ⟨c.toNat, c.toNat_lt⟩
    simp only [hexS, List.flatMap_cons, List.cons_append, List.nil_append, pairsD] at ih ⊢
    rw [ih, h]
    simp
theorem digits_hex (d : List UInt8) : digitsB (hexS d) := by
  intro i hi
  have hm : (hexS d).getD i 0 ∈ hexS d := by
    rw [List.getD_eq_getElem?_getD, List.getElem?_eq_getElem hi]; exact List.getElem_mem hi
  generalize (hexS d).getD i 0 = x at *
  simp only [hexS, List.mem_flatMap, List.mem_cons, List.not_mem_nil, or_false] at hm
  obtain ⟨c, _, rfl | rfl⟩ := hm
  · have := hexV_hexD ⟨c.toNat / 16, by have := c.toNat_lt; omega⟩
    simp only at this; omega
  · have := hexV_hexD ⟨c.toNat % 16, by omega⟩
    simp only at this; omega
theorem hexD_hexV : ∀ c : Fin 256, 0 ≤ hexV (UInt8.ofNat c.val) → hexD (hexV (UInt8.ofNat c.val)).toNat = UInt8.ofNat c.val := by decide +kernel
theorem hexD_hexV' (c : UInt8) (h : 0 ≤ hexV c) : hexD (hexV c).toNat = c := by
  have := hexD_hexV ⟨c.toNat, c.toNat_lt⟩
  simp only [UInt8.ofNat_toNat] at this
  exact this h
theorem step_parts (a b : UInt8) (ha : 0 ≤ hexV a) (hb : 0 ≤ hexV b) : (stepD (stepD 0 a) b).toNat / 16 = (hexV a).toNat ∧ (stepD (stepD 0 a) b).toNat % 16 = (hexV b).toNat := by
  have h1 := stepD_val 0 a
  have h2 := stepD_val (stepD 0 a) b
  have := hexV_bd a
  have := hexV_bd b
  simp only [UInt8.toNat_zero] at h1
  omega
theorem hex_pairs (s : List UInt8) : ∀ n, s.length = 2 * n → digitsB s → hexS (pairsD s) = s := by
  intro n
  induction n generalizing s with
  | zero => intro h _; obtain rfl := List.eq_nil_of_length_eq_zero h; rfl
  | succ n ih =>
    intro h hd
    match s, h with
    | a :: b :: r, h =>
      simp only [List.length_cons] at h
      have ha := hd 0 (by simp)
      have hb := hd 1 (by simp)
      have hr : digitsB r := fun i hi => by have := hd (i + 2) (by simp; omega); simpa using this
      have ih := ih r (by omega) hr
      simp only [List.getD_cons_zero, List.getD_cons_succ] at ha hb
      have hp := step_parts a b ha hb
      simp only [pairsD, hexS, List.flatMap_cons] at ih ⊢
      rw [hp.1, hp.2, hexD_hexV' a ha, hexD_hexV' b hb, ih]
      rfl

/-- What a text says. -/
def readD (s : List UInt8) : List UInt8 × Int := if s.length = 64 ∧ (s.all fun c => decide (0 ≤ hexV c)) = true then (pairsD s, 0) else (List.replicate 32 0, 40)
theorem digits_all (s : List UInt8) : (s.all fun c => decide (0 ≤ hexV c)) = true ↔ digitsB s := by
  rw [List.all_eq_true]
  constructor
  · intro h i hi
    have := h _ (List.getElem_mem hi)
    rw [List.getD_eq_getElem?_getD, List.getElem?_eq_getElem hi]
    simpa using this
  · intro h c hc
    obtain ⟨i, hi, rfl⟩ := List.getElem_of_mem hc
    have := h i hi
    rw [List.getD_eq_getElem?_getD, List.getElem?_eq_getElem hi] at this
    simpa using this
theorem readD_ok (s : List UInt8) (h : s.length = 64) (hd : digitsB s) : readD s = (pairsD s, 0) := by
  unfold readD
  exact if_pos ⟨h, (digits_all s).2 hd⟩
theorem readD_no (s : List UInt8) (h : ¬ (s.length = 64 ∧ digitsB s)) : readD s = (List.replicate 32 0, 40) := by
  unfold readD
  exact if_neg (fun hc => h ⟨hc.1, (digits_all s).1 hc.2⟩)
theorem readD_hex (d : List UInt8) (h : d.length = 32) : readD (hexS d) = (d, 0) := by
  have hl : (hexS d).length = 64 := by rw [hexS_length, h]
  rw [readD_ok _ hl (digits_hex d), pairs_hex]
theorem readD_back (s : List UInt8) (h : (readD s).2 = 0) : hexS (readD s).1 = s := by
  by_cases hc : s.length = 64 ∧ digitsB s
  · rw [readD_ok s hc.1 hc.2]
    exact hex_pairs s 32 hc.1 hc.2
  · rw [readD_no s hc] at h
    exact absurd h (by decide)
theorem readD_length (s : List UInt8) : (readD s).1.length = 32 := by
  by_cases hc : s.length = 64 ∧ digitsB s
  · rw [readD_ok s hc.1 hc.2]; exact pairsD_length s 32 hc.1
  · rw [readD_no s hc]; rfl
theorem readD_bad (s : List UInt8) (i : Nat) (hi : i < s.length) (h : hexV (s.getD i 0) < 0) : readD s = (List.replicate 32 0, 40) :=
  readD_no s (fun hc => by have := hc.2 i hi; omega)
theorem readD_len (s : List UInt8) (h : s.length ≠ 64) : readD s = (List.replicate 32 0, 40) := readD_no s (fun hc => h hc.1)
theorem readD_code (s : List UInt8) : (readD s).2 = 0 ∨ (readD s).2 = 40 := by
  by_cases hc : s.length = 64 ∧ digitsB s
  · rw [readD_ok s hc.1 hc.2]; exact .inl rfl
  · rw [readD_no s hc]; exact .inr rfl

/-- A number comes back, and the world is as it was. -/
def RetI (x : Int) (w : World) (e : Ending) (w' : World) : Prop := e = .returned (.int .i64 x) ∧ w = w'
theorem RetI.mk {a x : Int} {w : World} (h : a = x) : RetI x w (.returned (.int .i64 a)) w := by subst h; exact ⟨rfl, rfl⟩

set_option maxHeartbeats 800000 in
theorem rdigit_c (c : UInt8) (w : World) : Calls Tryd.prog 49 #[.int .u8 (c.toNat : Int)] w (RetI (hexV c) w) := by
  have hlt := c.toNat_lt
  have hv : hexV c = if 48 ≤ c.toNat ∧ c.toNat ≤ 57 then (c.toNat : Int) - 48 else if 97 ≤ c.toNat ∧ c.toNat ≤ 102 then (c.toNat : Int) - 87 else -1 := rfl
  obtain ⟨n, hn⟩ : ∃ n, c.toNat = n := ⟨_, rfl⟩
  rw [hn] at hlt hv ⊢
  have HV := Lib.hid hv
  clear hv hn
  by_cases h1 : (48 : Int) ≤ n
  · by_cases h2 : (n : Int) ≤ 57
    · have hr : hexV c = (n : Int) - 48 := by rw [HV.out, if_pos (by omega)]
      have HR := Lib.hid hr
      clear hr
      have d1 : decide ((48 : Int) ≤ (n : Int)) = true := decide_eq_true h1
      have d2 : decide ((n : Int) ≤ (57 : Int)) = true := decide_eq_true h2
      go_enter Tryd.func49, Tryd.ntmps49
      go_wp2
      go_ret
      exact RetI.mk HR.out.symm
    · have d1 : decide ((48 : Int) ≤ (n : Int)) = true := decide_eq_true h1
      have d2 : decide ((n : Int) ≤ (57 : Int)) = false := decide_eq_false h2
      by_cases h3 : (97 : Int) ≤ n
      · have d3 : decide ((97 : Int) ≤ (n : Int)) = true := decide_eq_true h3
        by_cases h4 : (n : Int) ≤ 102
        · have hr : hexV c = (n : Int) - 97 + 10 := by rw [HV.out, if_neg (by omega), if_pos (by omega)]; omega
          have HR := Lib.hid hr
          clear hr
          have d4 : decide ((n : Int) ≤ (102 : Int)) = true := decide_eq_true h4
          go_enter Tryd.func49, Tryd.ntmps49
          go_wp2
          go_ret
          exact RetI.mk HR.out.symm
        · have hr : hexV c = -1 := by rw [HV.out, if_neg (by omega), if_neg (by omega)]
          have HR := Lib.hid hr
          clear hr
          have d4 : decide ((n : Int) ≤ (102 : Int)) = false := decide_eq_false h4
          go_enter Tryd.func49, Tryd.ntmps49
          go_wp2
          go_ret
          exact RetI.mk HR.out.symm
      · have hr : hexV c = -1 := by rw [HV.out, if_neg (by omega), if_neg (by omega)]
        have HR := Lib.hid hr
        clear hr
        have d3 : decide ((97 : Int) ≤ (n : Int)) = false := decide_eq_false h3
        go_enter Tryd.func49, Tryd.ntmps49
        go_wp2
        go_ret
        exact RetI.mk HR.out.symm
  · have hr : hexV c = -1 := by rw [HV.out, if_neg (by omega), if_neg (by omega)]
    have HR := Lib.hid hr
    clear hr
    have d1 : decide ((48 : Int) ≤ (n : Int)) = false := decide_eq_false h1
    have d3 : decide ((97 : Int) ≤ (n : Int)) = false := decide_eq_false (by omega)
    go_enter Tryd.func49, Tryd.ntmps49
    go_wp2
    go_ret
    exact RetI.mk HR.out.symm
theorem rdigit_q (c : UInt8) (w : World) (m : Nat) : Calls Tryd.prog 49 #[.int .u8 (c.toNat : Int)] (w.drewN m) fun e w'' => e = .returned (.int .i64 (hexV c)) ∧ ∃ m, w'' = w.drewN m :=
  Calls.quiet_of_same ((rdigit_c c (w.drewN m)).mono fun e w' h => ⟨h.1, h.2.symm⟩)

theorem first_hex : ∀ c : Fin 256, firstIdx { data := #[48, 49, 50, 51, 52, 53, 54, 55, 56, 57, 97, 98, 99, 100, 101, 102] } (UInt8.ofNat c.val) = hexV (UInt8.ofNat c.val) := by decide +kernel
theorem first_hex' (c : UInt8) : firstIdx { data := #[48, 49, 50, 51, 52, 53, 54, 55, 56, 57, 97, 98, 99, 100, 101, 102] } ((c.toNat : Int)).toNat.toUInt8 = hexV c := by
  have := first_hex ⟨c.toNat, c.toNat_lt⟩
  simp only [UInt8.ofNat_toNat] at this
  rw [← this]
  simp
set_option maxHeartbeats 800000 in
theorem lite_c (c : UInt8) (w : World) : Calls Tryd.prog 63 #[.string { data := #[48, 49, 50, 51, 52, 53, 54, 55, 56, 57, 97, 98, 99, 100, 101, 102] }, .int .u8 (c.toNat : Int)] w (RetI (hexV c) w) := by
  have hx := fun (W : World) => run_callFunc_extern (P := Tryd.prog) Tryd.func68 (by kernel_rfl) (by kernel_rfl) (by kernel_rfl) (e := Extern.BytealgIndexByte.indexByte) (by kernel_rfl) #[.string { data := #[48, 49, 50, 51, 52, 53, 54, 55, 56, 57, 97, 98, 99, 100, 101, 102] }, .int .u8 (c.toNat : Int)] W
  simp only [run_indexByte_string, first_hex', Result.andThen_ok] at hx
  go_enter Tryd.func63, Tryd.ntmps63
  go_wp2
  go_ret
  exact RetI.mk rfl
set_option maxHeartbeats 800000 in
theorem index_c (c : UInt8) (w : World) : Calls Tryd.prog 48 #[.string { data := #[48, 49, 50, 51, 52, 53, 54, 55, 56, 57, 97, 98, 99, 100, 101, 102] }, .int .u8 (c.toNat : Int)] w (RetI (hexV c) w) := by
  go_enter Tryd.func48, Tryd.ntmps48
  go_wp2_with (go_at_call 63; (with_reducible refine (lite_c c _).mono ?_); rintro e w1 ⟨rfl, rfl⟩)
  go_ret
  exact RetI.mk rfl
end Go.Proofs.YticcmhgahbnboaaDoor
