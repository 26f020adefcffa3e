/-
  crc.Join and the closure that it calls.
-/
import Derived.Test.YtmegchcocjnbbaaCL
import Derived.Test.YtmegchcocjnbbaaAp
namespace Go.Proofs.Ytmegchcocjnbbaa
open Go.RowKit
set_option linter.unusedVariables false

theorem hor_bit (p r o : W32) (k : Nat) (hk : k < 32) :
    bits .xor .u32 (I (upS o)) (bits .and .u32 (I r) (-(bits .and .u32 (I p / 2 ^ (31 - k)) 1) % 4294967296)) = I (upS o ^^^ (if p.getLsbD (31 - k) then r else 0#32)) := by
  have h1 : bits .and .u32 (I p / 2 ^ (31 - k)) 1 = if p.getLsbD (31 - k) then 1 else 0 := by
    have hlt := p.isLt
    have hle : p.toNat / 2 ^ (31 - k) ≤ p.toNat := Nat.div_le_self _ _
    have e := u32_and_nat (p.toNat / 2 ^ (31 - k)) 1 (by omega) (by omega)
    rw [show ((p.toNat / 2 ^ (31 - k) : Nat) : Int) = I p / 2 ^ (31 - k) by unfold I; simp] at e
    rw [show ((1 : Nat) : Int) = 1 by rfl] at e
    rw [e, Nat.and_one_is_mod, ← BitVec.testBit_toNat, Nat.testBit_eq_decide_div_mod_eq]
    split <;> simp_all <;> omega
  rw [h1]
  cases p.getLsbD (31 - k) with
  | true =>
    rw [show (-(if true = true then 1 else 0 : Int) % 4294967296) = I (BitVec.allOnes 32) by decide, I_and, I_xor, BitVec.and_allOnes, if_pos rfl]
  | false =>
    rw [show (-(if false = true then 1 else 0 : Int) % 4294967296) = I 0#32 by decide, I_and, I_xor]; simp

/-- A word comes back; nothing has turned but the count of draws. -/
def DrewW (x : W32) (w : World) (e : Ending) (w' : World) : Prop := e = .returned (.int .u32 (I x)) ∧ ∃ n, w' = w.drewN n
theorem DrewW.mk {a : Int} {x : W32} {w : World} {n : Nat} (h : a = I x) : DrewW x w (.returned (.int .u32 a)) (w.drewN n) := by subst h; exact ⟨rfl, n, rfl⟩

set_option maxHeartbeats 800000 in
theorem times_c (p r : W32) {w : World} {g : Nat} (hp : w.cell? ⟨g, 0, none⟩ = some (.int .u32 (I p))) :
    Calls Try.prog 30 #[.int .u32 (I r), .pointer (some ⟨g, 0, none⟩)] w (DrewW (hor p r 32) w) := by
  have h0 : (0 : Int) = I 0#32 := by decide
  go_enter Try.func30, Try.ntmps30
  go_wp2
  go_loopw [4, 6] (fun v i wr => ∃ k n : Nat, k ≤ 32 ∧ i = .int .i64 k ∧ v = .int .u32 (I (hor p r k)) ∧ wr = w.drewN n) (fun _ i _ => 32 - (intOf i).toNat)
  case atStart => exact ⟨0, 0, by omega, rfl, by rw [show hor p r 0 = 0#32 by rfl, ← h0], rfl⟩
  case round =>
    obtain ⟨k, n, hk, rfl, rfl, hwr⟩ := hrel
    clear h0
    have hpr : wr.cell? ⟨g, 0, none⟩ = some (.int .u32 (I p)) := by rw [hwr]; exact hp
    have HW := Lib.hid hwr
    clear hwr hp
    by_cases hlt : k < 32
    · have HV := Lib.hid (hor_bit p r (hor p r k) k hlt)
      have hk1 : (k : Int) ≤ 31 ∧ 0 ≤ (k : Int) := by omega
      have hI := I_bd p
      go_wp2
      go_quiet ((go_at_call 31; exact Calls.quiet_of_same ((up_c _ _).mono fun e w' h => ⟨h.1, h.2.symm⟩)))
      go_wp2
      go_roundw
      case rel => exact ⟨k + 1, n + nq, by omega, by go_num, by rw [HV.out]; rfl, by rw [HW.out, World.drewN_drewN]⟩
      case measure => simp [intOf]; omega
    · obtain rfl : k = 32 := by omega
      go_wp2
      go_ret
      rw [HW.out]
      exact DrewW.mk rfl

/-- Where Join's loop stands: what is left of n, and the power. -/
def JoinAt (a0 : W32) (n0 : Nat) (k : Nat) (x p : W32) : Prop := ∃ E, p = ups E 1#32 ∧ ups (k * E) x = ups (8 * n0) a0

theorem JoinAt.start (a0 : W32) (n0 : Nat) : JoinAt a0 n0 n0 a0 256#32 := ⟨8, by decide, by rw [Nat.mul_comm]⟩
theorem JoinAt.odd {a0 : W32} {n0 k : Nat} {x p : W32} (h : JoinAt a0 n0 k x p) (hk : k % 2 = 1) : JoinAt a0 n0 (k / 2) (hor p x 32) (hor p p 32) := by
  obtain ⟨E, rfl, h2⟩ := h
  rw [hor_ups, hor_ups]
  refine ⟨E + E, by rw [ups_add], ?_⟩
  rw [← h2, ← ups_add]
  congr 1
  obtain ⟨j, rfl⟩ : ∃ j, k = 2 * j + 1 := ⟨k / 2, by omega⟩
  rw [show (2 * j + 1) / 2 = j by omega, Nat.add_mul, Nat.mul_add, Nat.one_mul, Nat.mul_assoc, Nat.two_mul]; omega
theorem JoinAt.even {a0 : W32} {n0 k : Nat} {x p : W32} (h : JoinAt a0 n0 k x p) (hk : k % 2 = 0) : JoinAt a0 n0 (k / 2) x (hor p p 32) := by
  obtain ⟨E, rfl, h2⟩ := h
  rw [hor_ups]
  refine ⟨E + E, by rw [ups_add], ?_⟩
  rw [← h2]
  congr 1
  obtain ⟨j, rfl⟩ : ∃ j, k = 2 * j := ⟨k / 2, by omega⟩
  rw [show (2 * j) / 2 = j by omega, Nat.mul_add, Nat.mul_assoc, Nat.two_mul]
theorem JoinAt.done {a0 : W32} {n0 : Nat} {x p : W32} (h : JoinAt a0 n0 0 x p) : x = ups (8 * n0) a0 := by
  obtain ⟨E, _, h2⟩ := h
  rw [Nat.zero_mul] at h2
  exact h2

/-- A word comes back; what was there is as it was. -/
def WordPost (x : W32) (w : World) (e : Ending) (w' : World) : Prop := e = .returned (.int .u32 (I x)) ∧ Below w.heap.size w w'
theorem WordPost.mk {a : Int} {x : W32} {w w' : World} (h : a = I x) (hb : Below w.heap.size w w') : WordPost x w (.returned (.int .u32 a)) w' := by subst h; exact ⟨rfl, hb⟩

set_option maxHeartbeats 800000 in
theorem join_no (a b : W32) (n : Int) (h0 : -9223372036854775808 ≤ n) (h1 : n ≤ 9223372036854775807) (h : n < 0 ∨ 65536 < n) (w : World) :
    Calls Try.prog 25 #[.int .u32 (I a), .int .u32 (I b), .int .i64 n] w (WordPost 0#32 w) := by
  have hz : (0 : Int) = I 0#32 := by decide
  have HZ := Lib.hid hz
  clear hz
  rcases h with h | h
  · go_enter Try.func25, Try.ntmps25
    go_wp2
    go_ret
    exact WordPost.mk HZ.out (Below.refl _ _)
  · have h' : ¬ n < 0 := by omega
    go_enter Try.func25, Try.ntmps25
    go_wp2
    go_ret
    exact WordPost.mk HZ.out (Below.refl _ _)

set_option maxHeartbeats 1600000 in
theorem join_c (a b : W32) (n : Nat) (h : n ≤ 65536) (w : World) :
    Calls Try.prog 25 #[.int .u32 (I a), .int .u32 (I b), .int .i64 n] w (WordPost (ups (8 * n) a ^^^ b) w) := by
  have hmf : ∀ (fn : Fn) (first cap : Array Value) (w : World), (Instr.makeFunc fn first cap).run Try.prog w = .ok (.func fn first cap) w := fun _ _ _ _ => rfl
  have hn1 : (n : Int) ≤ 65536 ∧ 0 ≤ (n : Int) := by omega
  have h256 : (256 : Int) = I 256#32 := by decide
  have HI := Lib.hid h256
  clear h256
  go_enter Try.func25, Try.ntmps25
  go_wp2
  go_loopw [0, 2] (fun v m wr => ∃ (k : Nat) (x p : W32), k ≤ n ∧ m = .int .i64 k ∧ v = .int .u32 (I x) ∧ wr.heap[w.heap.size]? = some (.cells #[.int .u32 (I p)] 36 (0, 0)) ∧ JoinAt a n k x p ∧ Below w.heap.size w wr) (fun _ m _ => (intOf m).toNat)
  case atStart => exact ⟨n, a, 256#32, Nat.le_refl _, rfl, rfl, by rw [heap_alloc_new, HI.out], JoinAt.start a n, (Below.refl _ _).alloc (Nat.le_refl _) _⟩
  case round =>
    obtain ⟨k, x, p, hk, rfl, rfl, hheap, hj, hbel⟩ := hrel
    have hcell := cell_of_one hheap
    have hfree := free_of_one hheap
    by_cases h0 : k = 0
    · subst h0
      have HX := Lib.hid hj.done
      have HO := Lib.hid (I_xor x b)
      go_wp2
      go_ret
      exact WordPost.mk (by rw [HO.out, HX.out]) hbel
    have hkp : (0 : Int) < (k : Int) := by omega
    have hk6 : (k : Int) ≤ 65536 := by omega
    by_cases hodd : k % 2 = 1
    · have hb1 : ((k : Int) % 2 == 1) = true := by rw [beq_iff_eq]; omega
      have HJ := Lib.hid (hj.odd hodd)
      clear hj hodd
      go_wp2_with (go_at_call 30; refine (times_c p _ ?_).mono ?_; exact hcell; rintro e w' ⟨rfl, n1, rfl⟩)
      go_roundw
      case rel => exact ⟨k / 2, _, _, by omega, by simp, rfl, one_setCell (by exact hheap), HJ.out, (below_drewN hbel _).setCell (Nat.le_refl _) _⟩
      case measure => simp [intOf]; omega
    · have hb1 : ((k : Int) % 2 == 1) = false := by rw [beq_eq_false_iff_ne]; omega
      have HJ := Lib.hid (hj.even (by omega))
      clear hj hodd
      go_wp2_with (go_at_call 30; refine (times_c p _ ?_).mono ?_; exact hcell; rintro e w' ⟨rfl, n1, rfl⟩)
      go_roundw
      case rel => exact ⟨k / 2, _, _, by omega, by simp, rfl, one_setCell (by exact hheap), HJ.out, (below_drewN hbel _).setCell (Nat.le_refl _) _⟩
      case measure => simp [intOf]; omega
end Go.Proofs.Ytmegchcocjnbbaa
