/-
  frame.Next and the reference's: where the next frame begins.
-/
import Derived.Test.YticcmhgahbnboaaDoorFP
import Derived.WalkLawsBesides
namespace Go.Proofs.YticcmhgahbnboaaDoor
open Go.RowKit Go
set_option linter.unusedVariables false

/-- The least place from k on at which a frame begins; -1: there is none. -/
def nextF : Nat → List UInt8 → Nat → Int
  | 0, _, _ => -1
  | f + 1, l, k => if l.length ≤ k then -1 else if (findS (l.drop k)).2.2 = 0 then (k : Int) else nextF f l (k + 1)
def nextS (l : List UInt8) (k : Nat) : Int := nextF (l.length + 1) l k
theorem nextF_end {f : Nat} {l : List UInt8} {k : Nat} (h : l.length ≤ k) : nextF f l k = -1 := by
  cases f with
  | zero => rfl
  | succ f => rw [nextF, if_pos h]
theorem nextF_here {f : Nat} {l : List UInt8} {k : Nat} (h : k < l.length) (hf : (findS (l.drop k)).2.2 = 0) : nextF (f + 1) l k = (k : Int) := by rw [nextF, if_neg (by omega), if_pos hf]
theorem nextF_on {f : Nat} {l : List UInt8} {k : Nat} (h : k < l.length) (hf : ¬ (findS (l.drop k)).2.2 = 0) : nextF (f + 1) l k = nextF f l (k + 1) := by rw [nextF, if_neg (by omega), if_neg hf]
theorem openS_err (l : List UInt8) : (openS l).2.2 = (findS l).2.2 := by
  rcases findS_cases l with ⟨e, hf, he⟩ | ⟨s, t, hf, h2, hst, ht⟩
  · rw [openS_bad hf he, hf]
  · rw [openS_good hf, hf]

/-- A number comes back; what was there is as it was. -/
def IntPost (x : Int) (w : World) (e : Ending) (w' : World) : Prop := e = .returned (.int .i64 x) ∧ Below w.heap.size w w'
theorem IntPost.mk {a x : Int} {w w' : World} (h : a = x) (hb : Below w.heap.size w w') : IntPost x w (.returned (.int .i64 a)) w' := by subst h; exact ⟨rfl, hb⟩

theorem run_max0 {P : Program} (x : Int) (k : Nat) (h : (max x 0) = (k : Int)) (W : World) : (Builtin.max_ #[3, 3] 3 #[.int .i64 x, .int .i64 0]).run P W = .ok (.int .i64 (k : Int)) W := by
  by_cases hx : 0 ≤ x
  · obtain rfl : x = (k : Int) := by omega
    by_cases h0 : (0 : Int) < (k : Int)
    · simp [Builtin.max_, Builtin.max2, go_sem]
      try omega
    · obtain rfl : k = 0 := by omega
      simp [Builtin.max_, Builtin.max2, go_sem]
  · obtain rfl : k = 0 := by omega
    simp [Builtin.max_, Builtin.max2, go_sem]
    try omega

set_option maxRecDepth 100000 in
set_option maxHeartbeats 1600000 in
theorem next_c {w : World} {a : Option Addr} {n cap : Nat} {l : List UInt8} (hb : Bys w a n cap l) (hn : n ≤ 100000) (from_ : Int) (h0 : -9223372036854775808 ≤ from_) (h1 : from_ ≤ 9223372036854775807) :
    Calls Tryd.prog 21 #[.slice a n cap, .int .i64 from_] w (IntPost (nextS l (max from_ 0).toNat) w) := by
  have hle := hb.le
  have hmax := hb.max
  have hlen := hb.len
  have HLEN := Lib.hid hlen
  clear hlen
  obtain ⟨k0, hk0, hkm⟩ : ∃ k0 : Nat, (max from_ 0) = (k0 : Int) ∧ (k0 : Int) ≤ 9223372036854775807 := ⟨(max from_ 0).toNat, by omega, by omega⟩
  rw [show (max from_ 0).toNat = k0 by omega]
  have hmx := fun W => run_max0 (P := Tryd.prog) from_ k0 hk0 W
  clear hk0
  go_enter Tryd.func21, Tryd.ntmps21
  go_wp2
  clear hmx
  go_loopw [5] (fun i wr => ∃ (k f : Nat), i = .int .i64 k ∧ (k ≤ k0 ∨ k ≤ n) ∧ l.length - k < f ∧ nextS l k0 = nextF f l k ∧ Below w.heap.size w wr) (fun i _ => n - (intOf i).toNat)
  case atStart => exact ⟨k0, l.length + 1, rfl, .inl (Nat.le_refl _), by omega, rfl, Below.refl _ _⟩
  case round =>
    obtain ⟨k, f, rfl, hk, hf, hns, hbel⟩ := hrel
    rw [HLEN.out] at hf
    have hk63 : (k : Int) ≤ 9223372036854775807 := by omega
    by_cases hlt : k < n
    · obtain ⟨b, off, rfl⟩ : ∃ b off, a = some ⟨b, off, none⟩ := by
        rcases hb.adr with h | ⟨b, off, h, _⟩
        · omega
        · exact ⟨b, off, h⟩
      have hdr := (hb.below hbel).drop (q := k) (by omega)
      rw [Option.map_some, addr_add] at hdr
      have hcq : ¬ cap = k := by omega
      have hki : (k : Int) ≤ (n : Int) ∧ (k : Int) < (n : Int) := by omega
      obtain ⟨f', rfl⟩ : ∃ f', f = f' + 1 := ⟨f - 1, by omega⟩
      obtain ⟨er, her⟩ : ∃ er, (findS (l.drop k)).2.2 = er := ⟨_, rfl⟩
      have HC : Hid (Calls Tryd.prog 38 #[.slice (some ⟨b, off + k, none⟩) (n - k) (cap - k)] wr fun e w1 => ∃ v i, e = .returned (.tuple #[v, i, .int .i64 er]) ∧ Below wr.heap.size wr w1) :=
        Lib.hid ((find_c hdr (by omega)).mono (by intro e w1 h; obtain ⟨h1, rfl⟩ := h; exact ⟨_, _, by rw [h1, her], Below.refl _ _⟩))
      by_cases he : er = 0
      · have hbe : (er == 0) = true := by rw [he]; rfl
        have HR := Lib.hid (show nextS l k0 = (k : Int) by rw [hns]; exact nextF_here (by rw [HLEN.out]; exact hlt) (by rw [her]; exact he))
        clear hns her he hdr
        go_wp2_with (go_at_call 38; refine (HC.out).mono ?_; rintro e w1 ⟨v, i, rfl, hbv⟩)
        go_ret
        exact IntPost.mk HR.out.symm (hbel.trans (hbv.mono hbel.size))
      · have hbe : (er == 0) = false := by rw [beq_eq_false_iff_ne]; exact he
        have HR := Lib.hid (show nextS l k0 = nextF f' l (k + 1) by rw [hns]; exact nextF_on (by rw [HLEN.out]; exact hlt) (by rw [her]; exact he))
        clear hns her he hdr
        go_wp2_with (go_at_call 38; refine (HC.out).mono ?_; rintro e w1 ⟨v, i, rfl, hbv⟩)
        go_roundw
        case rel => exact ⟨k + 1, f', by go_num, by omega, by rw [HLEN.out]; omega, HR.out, hbel.trans (hbv.mono hbel.size)⟩
        case measure => simp [intOf]; omega
    · have HR := Lib.hid (show nextS l k0 = -1 by rw [hns]; exact nextF_end (by rw [HLEN.out]; omega))
      have hge : (n : Int) ≤ (k : Int) := by omega
      clear hns
      go_wp2
      go_ret
      exact IntPost.mk HR.out.symm hbel

set_option maxRecDepth 100000 in
set_option maxHeartbeats 1600000 in
theorem rnext_c {w : World} {a : Option Addr} {n cap : Nat} {l : List UInt8} (hb : Bys w a n cap l) (hn : n ≤ 100000) (from_ : Int) (h0 : -9223372036854775808 ≤ from_) (h1 : from_ ≤ 9223372036854775807) :
    Calls Tryd.prog 22 #[.slice a n cap, .int .i64 from_] w (IntPost (nextS l (max from_ 0).toNat) w) := by
  have hle := hb.le
  have hmax := hb.max
  have hlen := hb.len
  have HLEN := Lib.hid hlen
  clear hlen
  obtain ⟨k0, hk0, hkm⟩ : ∃ k0 : Nat, (max from_ 0) = (k0 : Int) ∧ (k0 : Int) ≤ 9223372036854775807 := ⟨(max from_ 0).toNat, by omega, by omega⟩
  rw [show (max from_ 0).toNat = k0 by omega]
  have hmx := fun W => run_max0 (P := Tryd.prog) from_ k0 hk0 W
  clear hk0
  go_enter Tryd.func22, Tryd.ntmps22
  go_wp2
  clear hmx
  go_loopw [5] (fun i wr => ∃ (k f : Nat), i = .int .i64 k ∧ (k ≤ k0 ∨ k ≤ n) ∧ l.length - k < f ∧ nextS l k0 = nextF f l k ∧ Below w.heap.size w wr) (fun i _ => n - (intOf i).toNat)
  case atStart => exact ⟨k0, l.length + 1, rfl, .inl (Nat.le_refl _), by omega, rfl, Below.refl _ _⟩
  case round =>
    obtain ⟨k, f, rfl, hk, hf, hns, hbel⟩ := hrel
    rw [HLEN.out] at hf
    have hk63 : (k : Int) ≤ 9223372036854775807 := by omega
    by_cases hlt : k < n
    · obtain ⟨b, off, rfl⟩ : ∃ b off, a = some ⟨b, off, none⟩ := by
        rcases hb.adr with h | ⟨b, off, h, _⟩
        · omega
        · exact ⟨b, off, h⟩
      have hdr := (hb.below hbel).drop (q := k) (by omega)
      rw [Option.map_some, addr_add] at hdr
      have hcq : ¬ cap = k := by omega
      have hki : (k : Int) ≤ (n : Int) ∧ (k : Int) < (n : Int) := by omega
      obtain ⟨f', rfl⟩ : ∃ f', f = f' + 1 := ⟨f - 1, by omega⟩
      obtain ⟨er, her⟩ : ∃ er, (findS (l.drop k)).2.2 = er := ⟨_, rfl⟩
      have HC : Hid (Calls Tryd.prog 17 #[.slice (some ⟨b, off + k, none⟩) (n - k) (cap - k)] wr fun e w1 => ∃ v i, e = .returned (.tuple #[v, i, .int .i64 er]) ∧ Below wr.heap.size wr w1) :=
        Lib.hid ((ropen_c hdr (by omega)).mono (by intro e w1 h; obtain ⟨v, h1, _, h2⟩ := h; exact ⟨v, _, by rw [h1, openS_err, her], h2⟩))
      by_cases he : er = 0
      · have hbe : (er == 0) = true := by rw [he]; rfl
        have HR := Lib.hid (show nextS l k0 = (k : Int) by rw [hns]; exact nextF_here (by rw [HLEN.out]; exact hlt) (by rw [her]; exact he))
        clear hns her he hdr
        go_wp2_with (go_at_call 17; refine (HC.out).mono ?_; rintro e w1 ⟨v, i, rfl, hbv⟩)
        go_ret
        exact IntPost.mk HR.out.symm (hbel.trans (hbv.mono hbel.size))
      · have hbe : (er == 0) = false := by rw [beq_eq_false_iff_ne]; exact he
        have HR := Lib.hid (show nextS l k0 = nextF f' l (k + 1) by rw [hns]; exact nextF_on (by rw [HLEN.out]; exact hlt) (by rw [her]; exact he))
        clear hns her he hdr
        go_wp2_with (go_at_call 17; refine (HC.out).mono ?_; rintro e w1 ⟨v, i, rfl, hbv⟩)
        go_roundw
        case rel => exact ⟨k + 1, f', by go_num, by omega, by rw [HLEN.out]; omega, HR.out, hbel.trans (hbv.mono hbel.size)⟩
        case measure => simp [intOf]; omega
    · have HR := Lib.hid (show nextS l k0 = -1 by rw [hns]; exact nextF_end (by rw [HLEN.out]; omega))
      have hge : (n : Int) ≤ (k : Int) := by omega
      clear hns
      go_wp2
      go_ret
      exact IntPost.mk HR.out.symm hbel

end Go.Proofs.YticcmhgahbnboaaDoor
