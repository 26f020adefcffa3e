/-
  THE PLAIN MATHEMATICS OF THE SUM (crc): remainders as words of 32 bits; what a bit of 0 makes of one is linear, and leads back; so sums join, and a burst is seen. No program is named here.
-/
import Derived.Test.YticcmhgahbnboaaDoorNM
namespace Go.Proofs.YticcmhgahbnboaaDoor
open Go.RowKit
set_option linter.unusedVariables false

abbrev W32 := BitVec 32

theorem xlc (a b c : W32) : a ^^^ (b ^^^ c) = b ^^^ (a ^^^ c) := by rw [← BitVec.xor_assoc, BitVec.xor_comm a, BitVec.xor_assoc]
theorem xss (a b : W32) : a ^^^ (a ^^^ b) = b := by rw [← BitVec.xor_assoc]; simp

/-- The polynomial. -/
def polyS : W32 := 79764919#32

/-- What a bit of 0 makes of a remainder. -/
def upS (r : W32) : W32 := (r <<< 1) ^^^ (if r.msb then polyS else 0#32)

theorem upS_xor (a b : W32) : upS (a ^^^ b) = upS a ^^^ upS b := by
  unfold upS
  rw [BitVec.msb_xor, BitVec.shiftLeft_xor_distrib]
  generalize a <<< 1 = x
  generalize b <<< 1 = y
  cases a.msb <;> cases b.msb <;> simp [BitVec.xor_assoc, BitVec.xor_comm, xlc]

theorem upS_zero : upS 0#32 = 0#32 := by decide

theorem upS_inj0 (a : W32) (h : upS a = 0#32) : a = 0#32 := by
  unfold upS at h
  cases hm : a.msb with
  | true =>
    rw [hm] at h
    have := congrArg (fun x => BitVec.getLsbD x 0) h
    simp [polyS] at this
  | false =>
    rw [hm] at h
    simp at h
    apply BitVec.eq_of_getLsbD_eq
    intro i hi
    by_cases h31 : i = 31
    · subst h31
      have : a.msb = a.getLsbD 31 := by simp [BitVec.msb_eq_getLsbD_last]
      rw [← this, hm]; simp
    · have := congrArg (fun x => BitVec.getLsbD x (i + 1)) h
      simp at this
      simpa using this (by omega)

/-- n bits of 0. -/
def ups : Nat → W32 → W32
  | 0, r => r
  | n + 1, r => ups n (upS r)

theorem ups_xor (n : Nat) (a b : W32) : ups n (a ^^^ b) = ups n a ^^^ ups n b := by
  induction n generalizing a b with
  | zero => rfl
  | succ n ih => rw [ups, upS_xor, ih]; rfl
theorem ups_zero (n : Nat) : ups n 0#32 = 0#32 := by
  induction n with
  | zero => rfl
  | succ n ih => rw [ups, upS_zero, ih]
theorem ups_add (m n : Nat) (a : W32) : ups (m + n) a = ups n (ups m a) := by
  induction m generalizing a with
  | zero => rw [Nat.zero_add]; rfl
  | succ m ih => rw [Nat.succ_add, ups, ih]; rfl
theorem ups_succ (n : Nat) (a : W32) : ups (n + 1) a = upS (ups n a) := by rw [ups_add n 1]; rfl
theorem ups_inj0 (n : Nat) (a : W32) (h : ups n a = 0#32) : a = 0#32 := by
  induction n generalizing a with
  | zero => exact h
  | succ n ih => exact upS_inj0 a (ih _ h)

/-- A byte as a word. -/
def wd (c : UInt8) : W32 := BitVec.ofNat 32 c.toNat

/-- A remainder to which a byte came. -/
def comeS (r : W32) (c : UInt8) : W32 := ups 8 (r ^^^ (wd c <<< 24))

/-- A remainder to which bytes came. -/
def crcS (r : W32) (l : List UInt8) : W32 := l.foldl comeS r

/-- The sum of what has the sum s, and l behind it. -/
def moreS (s : W32) (l : List UInt8) : W32 := ~~~ (crcS (~~~ s) l)
def sumS (l : List UInt8) : W32 := moreS 0#32 l

theorem crcS_cons (r : W32) (c : UInt8) (l : List UInt8) : crcS r (c :: l) = crcS (comeS r c) l := rfl
theorem crcS_append (r : W32) (l m : List UInt8) : crcS r (l ++ m) = crcS (crcS r l) m := List.foldl_append ..

theorem crcS_split (l : List UInt8) (r s : W32) : crcS (r ^^^ s) l = ups (8 * l.length) s ^^^ crcS r l := by
  induction l generalizing r s with
  | nil => simp [crcS, ups, BitVec.xor_comm]
  | cons c t ih =>
    show crcS (comeS (r ^^^ s) c) t = _ ^^^ crcS (comeS r c) t
    have e : comeS (r ^^^ s) c = comeS r c ^^^ ups 8 s := by
      unfold comeS
      rw [show r ^^^ s ^^^ wd c <<< 24 = (r ^^^ wd c <<< 24) ^^^ s by rw [BitVec.xor_assoc, BitVec.xor_comm s, BitVec.xor_assoc], ups_xor]
    rw [e, ih, ← ups_add]
    congr 2
    simp; omega

theorem not_xor32 (a : W32) : ~~~ a = a ^^^ BitVec.allOnes 32 := by rw [BitVec.xor_allOnes]

theorem moreS_append (s : W32) (l m : List UInt8) : moreS (moreS s l) m = moreS s (l ++ m) := by
  unfold moreS; rw [BitVec.not_not, crcS_append]

theorem sumS_nil : sumS [] = 0#32 := by decide

theorem more_take (l l1 l2 : List UInt8) (q : Nat) (h : l = l1 ++ l2) : l = (l1 ++ l2.take q) ++ l2.drop q ∧ moreS (sumS l1) (l2.take q) = sumS (l1 ++ l2.take q) := by
  refine ⟨by rw [h, List.append_assoc, List.take_append_drop], by unfold sumS; rw [moreS_append]⟩
theorem more_all (l1 l2 : List UInt8) : moreS (sumS l1) l2 = sumS (l1 ++ l2) := by unfold sumS; rw [moreS_append]

/-- Two sums make the sum of both. -/
theorem join_sum (l m : List UInt8) : ups (8 * m.length) (sumS l) ^^^ sumS m = sumS (l ++ m) := by
  have h1 : sumS (l ++ m) = moreS (sumS l) m := by unfold sumS; rw [moreS_append]
  rw [h1]
  unfold sumS moreS
  generalize ~~~ (crcS (~~~ 0#32) l) = a
  have e : ~~~ a = ~~~ 0#32 ^^^ a := by
    rw [not_xor32, not_xor32]; simp [BitVec.xor_comm]
  rw [e, crcS_split]
  generalize ups (8 * m.length) a = x
  generalize crcS (~~~ 0#32) m = y
  rw [not_xor32, not_xor32, BitVec.xor_assoc]

/-! ### Products -/
/-- Horner's way over the bits of p, from the highest on. -/
def hor (p r : W32) : Nat → W32
  | 0 => 0#32
  | i + 1 => upS (hor p r i) ^^^ (if p.getLsbD (31 - i) then r else 0#32)

theorem hor_one (p : W32) (i : Nat) (hi : i ≤ 32) : hor p 1#32 i = p >>> (32 - i) := by
  induction i with
  | zero => apply BitVec.eq_of_getLsbD_eq; intro j hj; simp [hor]
  | succ i ih =>
    rw [hor, ih (by omega)]
    have hmsb : (p >>> (32 - i)).msb = false := by
      rw [BitVec.msb_eq_getLsbD_last]; simp; exact BitVec.getLsbD_of_ge _ _ (by omega)
    unfold upS
    rw [hmsb]
    apply BitVec.eq_of_getLsbD_eq
    intro j hj
    simp
    by_cases h0 : j = 0
    · subst h0
      simp
      cases p.getLsbD (31 - i) <;> simp
    · have e2 : 32 - i + (j - 1) = 32 - (i + 1) + j := by omega
      have e3 : (if p.getLsbD (31 - i) = true then 1#32 else 0#32).getLsbD j = false := by
        split <;> simp [h0]
      rw [e3]
      simp [e2, h0, hj]

theorem hor_map (F : W32 → W32) (hz : F 0#32 = 0#32) (hx : ∀ a b, F (a ^^^ b) = F a ^^^ F b) (hu : ∀ a, F (upS a) = upS (F a)) (p r : W32) (i : Nat) :
    F (hor p r i) = hor p (F r) i := by
  induction i with
  | zero => exact hz
  | succ i ih =>
    rw [hor, hx, hu, ih, hor]
    split
    · rfl
    · rw [hz]

theorem hor_whole (p : W32) : hor p 1#32 32 = p := by rw [hor_one p 32 (by omega)]; simp

theorem hor_zero (p : W32) (i : Nat) : hor p 0#32 i = 0#32 := by
  induction i with
  | zero => rfl
  | succ i ih => rw [hor, ih, upS_zero]; simp
theorem hor_xor (p a b : W32) (i : Nat) : hor p (a ^^^ b) i = hor p a i ^^^ hor p b i := by
  induction i with
  | zero => simp [hor]
  | succ i ih =>
    rw [hor, hor, hor, ih, upS_xor]
    split <;> simp [BitVec.xor_assoc, xlc]
theorem hor_up (p a : W32) (i : Nat) : hor p (upS a) i = upS (hor p a i) := by
  induction i with
  | zero => simp [hor, upS_zero]
  | succ i ih =>
    rw [hor, hor, ih, upS_xor]
    split <;> simp [upS_zero]

/-- What is linear and goes with upS hangs on what it makes of 1 alone. -/
theorem lin_eq (F G : W32 → W32) (fz : F 0#32 = 0#32) (fx : ∀ a b, F (a ^^^ b) = F a ^^^ F b) (fu : ∀ a, F (upS a) = upS (F a))
    (gz : G 0#32 = 0#32) (gx : ∀ a b, G (a ^^^ b) = G a ^^^ G b) (gu : ∀ a, G (upS a) = upS (G a)) (h1 : F 1#32 = G 1#32) (r : W32) : F r = G r := by
  rw [← hor_whole r, hor_map F fz fx fu, hor_map G gz gx gu, h1]

/-- To multiply by x to the m is to take m bits of 0. -/
theorem hor_ups (m : Nat) (r : W32) : hor (ups m 1#32) r 32 = ups m r := by
  refine lin_eq (fun r => hor (ups m 1#32) r 32) (ups m) (hor_zero _ _) (hor_xor _ · · _) (hor_up _ · _) (ups_zero m) (ups_xor m) (fun a => ?_) ?_ r
  · rw [← ups_succ, ups]
  · exact hor_whole _

/-! ### Bursts -/
/-- Four bytes of a word, the highest first. -/
def four (x : W32) : List UInt8 := [UInt8.ofNat (x.toNat / 16777216 % 256), UInt8.ofNat (x.toNat / 65536 % 256), UInt8.ofNat (x.toNat / 256 % 256), UInt8.ofNat (x.toNat % 256)]

def zipx (l m : List UInt8) : List UInt8 := List.zipWith (· ^^^ ·) l m

theorem zipx_cons (c d : UInt8) (t u : List UInt8) : zipx (c :: t) (d :: u) = (c ^^^ d) :: zipx t u := rfl

theorem wd_xor (a b : UInt8) : wd (a ^^^ b) = wd a ^^^ wd b := by
  unfold wd
  rw [UInt8.toNat_xor]
  apply BitVec.eq_of_getLsbD_eq
  intro i hi
  simp [hi]

theorem comeS_xor (r s : W32) (c d : UInt8) : comeS (r ^^^ s) (c ^^^ d) = comeS r c ^^^ comeS s d := by
  unfold comeS
  rw [← ups_xor, wd_xor, BitVec.shiftLeft_xor_distrib]
  generalize wd c <<< 24 = x
  generalize wd d <<< 24 = y
  rw [show r ^^^ s ^^^ (x ^^^ y) = r ^^^ x ^^^ (s ^^^ y) by simp only [BitVec.xor_assoc, xlc s x y]]

theorem crcS_zip (l m : List UInt8) (h : l.length = m.length) (r s : W32) : crcS (r ^^^ s) (zipx l m) = crcS r l ^^^ crcS s m := by
  induction l generalizing m r s with
  | nil => cases m with
    | nil => rfl
    | cons => simp at h
  | cons c t ih => cases m with
    | nil => simp at h
    | cons d u =>
      rw [zipx_cons, crcS_cons, crcS_cons, crcS_cons, comeS_xor]
      exact ih u (by simpa using h) _ _

theorem crcS_zeros (n : Nat) : crcS 0#32 (List.replicate n 0) = 0#32 := by
  induction n with
  | zero => rfl
  | succ n ih =>
    show crcS (comeS 0#32 0) (List.replicate n 0) = 0#32
    rw [show comeS 0#32 0 = 0#32 by decide, ih]

theorem crcS_ups_zeros (r : W32) (n : Nat) : crcS r (List.replicate n 0) = ups (8 * n) r := by
  have := crcS_split (List.replicate n 0) 0#32 r
  rw [crcS_zeros] at this
  simpa using this

/-- Four bytes that come are the word that comes. -/
theorem ups_shl (k : Nat) (y : W32) (hk : k ≤ 32) (h : ∀ j, 32 - k ≤ j → y.getLsbD j = false) : ups k y = y <<< k := by
  induction k generalizing y with
  | zero => simp [ups]
  | succ k ih =>
    have hm : y.msb = false := by rw [BitVec.msb_eq_getLsbD_last]; exact h _ (by omega)
    have e : upS y = y <<< 1 := by unfold upS; rw [hm]; simp
    rw [ups, e, ih _ (by omega)]
    · rw [← BitVec.shiftLeft_add, Nat.add_comm]
    · intro j hj
      simp only [BitVec.getLsbD_shiftLeft]
      rw [h (j - 1) (by omega)]
      simp
theorem wd_bits (c : UInt8) (j : Nat) (hj : 8 ≤ j) : (wd c).getLsbD j = false := by
  unfold wd
  by_cases h32 : j < 32
  · rw [BitVec.getLsbD_ofNat, Nat.testBit_lt_two_pow]
    · simp
    · have := c.toNat_lt
      exact Nat.lt_of_lt_of_le (show c.toNat < 2 ^ 8 by omega) (Nat.pow_le_pow_right (by omega) hj)
  · exact BitVec.getLsbD_of_ge _ _ (by omega)
theorem ups_wd (c : UInt8) (i : Nat) (hi : i ≤ 16) : ups 8 (wd c <<< i) = wd c <<< (i + 8) := by
  rw [ups_shl 8 _ (by omega)]
  · rw [← BitVec.shiftLeft_add]
  · intro j hj
    simp only [BitVec.getLsbD_shiftLeft]
    rw [wd_bits c (j - i) (by omega)]
    simp
theorem wd_ofNat (n : Nat) : wd (UInt8.ofNat (n % 256)) = BitVec.ofNat 32 (n % 256) := by
  unfold wd
  congr 1
  simp
theorem four_word (x : W32) : x = wd (UInt8.ofNat (x.toNat / 16777216 % 256)) <<< 24 ^^^ wd (UInt8.ofNat (x.toNat / 65536 % 256)) <<< 16 ^^^ wd (UInt8.ofNat (x.toNat / 256 % 256)) <<< 8 ^^^ wd (UInt8.ofNat (x.toNat % 256)) <<< 0 := by
  simp only [wd_ofNat]
  have hb : ∀ n j : Nat, (n % 256).testBit j = (decide (j < 8) && n.testBit j) := fun n j => by rw [show 256 = 2 ^ 8 by rfl, Nat.testBit_mod_two_pow]
  have hd : ∀ n k j : Nat, (n / 2 ^ k).testBit j = n.testBit (k + j) := fun n k j => by rw [Nat.testBit_div_two_pow, Nat.add_comm]
  apply BitVec.eq_of_getLsbD_eq
  intro j hj
  simp only [BitVec.getLsbD_xor, BitVec.getLsbD_shiftLeft, BitVec.getLsbD_ofNat, hb, hj]
  rw [show 16777216 = 2 ^ 24 by rfl, show 65536 = 2 ^ 16 by rfl]
  simp only [show x.toNat / 256 = x.toNat / 2 ^ 8 by rfl, hd]
  rw [← BitVec.testBit_toNat]
  rcases (by omega : j < 8 ∨ (8 ≤ j ∧ j < 16) ∨ (16 ≤ j ∧ j < 24) ∨ (24 ≤ j ∧ j < 32)) with h | h | h | h
  · simp [h, show j < 16 by omega, show j < 24 by omega, show j < 32 by omega]
  · simp [show ¬ j < 8 by omega, show j - 8 < 8 by omega, show j < 16 by omega, show j < 24 by omega, show j - 8 < 32 by omega, show 8 + (j - 8) = j by omega]
  · simp [show ¬ j < 8 by omega, show ¬ j < 16 by omega, show ¬ j - 8 < 8 by omega, show j - 16 < 8 by omega, show j < 24 by omega, show j - 16 < 32 by omega, show 16 + (j - 16) = j by omega]
  · simp [show ¬ j < 8 by omega, show ¬ j < 16 by omega, show ¬ j - 8 < 8 by omega, show ¬ j - 16 < 8 by omega, show ¬ j < 24 by omega, show j - 24 < 8 by omega, show j - 24 < 32 by omega, show 24 + (j - 24) = j by omega]
theorem crcS_four (r x : W32) : crcS r (four x) = ups 32 (r ^^^ x) := by
  have h := crcS_split (four x) 0#32 r
  rw [BitVec.zero_xor] at h
  rw [h, ups_xor]
  show ups (8 * 4) r ^^^ _ = _
  congr 1
  have e := four_word x
  have e2 := congrArg (ups 32) e
  rw [e2]
  unfold four
  generalize UInt8.ofNat (x.toNat / 16777216 % 256) = b3
  generalize UInt8.ofNat (x.toNat / 65536 % 256) = b2
  generalize UInt8.ofNat (x.toNat / 256 % 256) = b1
  generalize UInt8.ofNat (x.toNat % 256) = b0
  simp only [crcS_cons]
  show comeS (comeS (comeS (comeS 0#32 b3) b2) b1) b0 = _
  unfold comeS
  simp only [ups_xor, BitVec.zero_xor]
  rw [show ups 32 (wd b3 <<< 24) = ups 8 (ups 8 (ups 8 (ups 8 (wd b3 <<< 24)))) by rw [← ups_add, ← ups_add, ← ups_add]]
  rw [show ups 32 (wd b2 <<< 16) = ups 8 (ups 8 (ups 8 (wd b2 <<< 24))) by rw [← ups_wd b2 16 (by omega), ← ups_add, ← ups_add, ← ups_add]]
  rw [show ups 32 (wd b1 <<< 8) = ups 8 (ups 8 (wd b1 <<< 24)) by rw [← ups_wd b1 16 (by omega), ← ups_wd b1 8 (by omega), ← ups_add, ← ups_add, ← ups_add]]
  rw [show ups 32 (wd b0 <<< 0) = ups 8 (wd b0 <<< 24) by rw [← ups_wd b0 16 (by omega), ← ups_wd b0 8 (by omega), ← ups_wd b0 0 (by omega), ← ups_add, ← ups_add, ← ups_add]]

/-- Right bytes leave one remainder. -/
theorem right_iff (l : List UInt8) (x : W32) : x = sumS l ↔ crcS (~~~ 0#32) (l ++ four x) = ups 32 (BitVec.allOnes 32) := by
  rw [crcS_append, crcS_four]
  have e : sumS l = crcS (~~~ 0#32) l ^^^ BitVec.allOnes 32 := by unfold sumS moreS; rw [not_xor32]
  constructor
  · rintro rfl
    rw [e]
    congr 1
    simp [← BitVec.xor_assoc]
  · intro h
    have h2 : ups 32 ((crcS (~~~ 0#32) l ^^^ x) ^^^ BitVec.allOnes 32) = 0#32 := by rw [ups_xor, h]; simp
    have h3 := ups_inj0 32 _ h2
    rw [e]
    have : crcS (~~~ 0#32) l ^^^ x ^^^ BitVec.allOnes 32 ^^^ x = x := by rw [h3]; simp
    rw [← this]
    generalize crcS (~~~ 0#32) l = y
    rw [BitVec.xor_assoc y x, BitVec.xor_comm x, ← BitVec.xor_assoc, BitVec.xor_assoc _ x x]
    simp
end Go.Proofs.YticcmhgahbnboaaDoor
