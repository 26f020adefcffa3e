/-
  Stamp: the walks of texts: the program's Text, the reference's Digits and Text.
-/
import Derived.Test.YtjlolljlhoclhaaDoorTM
import Derived.Test.YtjlolljlhoclhaaDoorIZ
import Derived.Test.YtjlolljlhoclhaaDoorBM
import Derived.Test.YtjlolljlhoclhaaDoorRP
import Derived.Lib.ItoaLen
namespace Go.Proofs.YtjlolljlhoclhaaDoor
open Go.RowKit Go Go.Sort
set_option linter.unusedVariables false

theorem grow_below (w : World) (k : Nat) (os : Array Obj) : Below w.heap.size w (grow (w.drewN k) os) :=
  ⟨rfl, rfl, rfl, by simp [grow, World.drewN], fun j hj => by simp [grow, World.drewN, Array.getElem?_append, hj]⟩
theorem itoa_c (n : Int) (h0 : -9223372036854775808 ≤ n) (h1 : n ≤ 9223372036854775807) {w : World} (hT : TabI w) : Calls Tryd.prog 42 #[.int .i64 n] w (Tells (.string ⟨(Lib.itoa n).toArray⟩) w) := by
  refine (Tryd.strconv_Itoa n h0 h1 w hT.p).mono ?_
  rintro e w' ⟨rfl, k, os, rfl⟩
  exact ⟨rfl, grow_below w k os⟩
theorem str_append (a b : List UInt8) : (⟨a.toArray⟩ : ByteArray) ++ (⟨b.toArray⟩ : ByteArray) = ⟨(a ++ b).toArray⟩ := by
  apply ByteArray.ext
  rw [ByteArray.data_append]
  simp

set_option maxRecDepth 100000 in
set_option maxHeartbeats 1600000 in
theorem stext_c (n s : Int) {w : World} (hT : TabI w) : Calls Tryd.prog 25 #[.agg #[.int .i64 n, .int .i64 s]] w (Tells (.string ⟨(stextS n s).toArray⟩) w) := by
  have hp := Pair.new w 23 n s
  have hb := alloc_below w (.cells #[.int .i64 n, .int .i64 s] 23)
  have hEG := stamp_eqg
  have G := sgood_c n s
  have p0 := hp.c0
  have p1 := hp.c1
  have HP := Lib.hid hp
  have HB := Lib.hid hb
  have HT := Lib.hid (hT.grown hb)
  have HV := Lib.hid (show stextS n s = if sgood n s = true then (if n = 0 then [45] else Lib.itoa n ++ sletter s) else [] from rfl)
  clear hp hb hT
  cases hg : sgood n s with
  | false =>
    rw [hg] at G
    have HG := Lib.hid G
    have hv : stextS n s = [] := by rw [HV.out, if_neg (by simp [hg])]
    rw [hv]
    clear hv G hg
    go_enter Tryd.func25, Tryd.ntmps25
    go_wp2_with (go_at_call 11; (with_reducible refine (HG.out _).mono ?_); rintro e w1 ⟨rfl, hb1⟩)
    go_ret
    exact ⟨rfl, HB.out.trans (hb1.mono HB.out.size)⟩
  | true =>
    rw [hg] at G
    have HG := Lib.hid G
    rcases good_cases hg with ⟨rfl, rfl⟩ | ⟨h1, h2, h3⟩
    · have hEQ := stamp_eql
      have hv : stextS 0 0 = [45] := by decide
      rw [hv]
      clear hv G hg
      go_enter Tryd.func25, Tryd.ntmps25
      go_wp2_with (go_at_call 11; (with_reducible refine (HG.out _).mono ?_); rintro e w1 ⟨rfl, hb1⟩; have q0 := (HP.out.kept hb1).c0; have q1 := (HP.out.kept hb1).c1)
      go_ret
      exact ⟨rfl, HB.out.trans (hb1.mono HB.out.size)⟩
    · have hEQ := stamp_eqb n s 0 0 false (by rw [Bool.eq_false_iff]; simp; omega)
      have hv : stextS n s = Lib.itoa n ++ sletter s := by rw [HV.out, if_pos hg, if_neg (by omega)]
      rw [hv, ← str_append]
      obtain ⟨x, hx⟩ : ∃ x : ByteArray, (⟨(Lib.itoa n).toArray⟩ : ByteArray) = x := ⟨_, rfl⟩
      obtain ⟨y, hy⟩ : ∃ x : ByteArray, (⟨(sletter s).toArray⟩ : ByteArray) = x := ⟨_, rfl⟩
      have hadd : ∀ W, (Op.stringOp .add x y).run Tryd.prog W = .ok (.string (x ++ y)) W := fun W => run_string_add_sum W x y (by
        have h1 := Lib.itoa_length_le n (by omega) (by omega)
        have h2 : (sletter s).length ≤ 1 := by unfold sletter; split <;> (try split) <;> simp
        subst hx hy
        show (Lib.itoa n).toArray.size + (sletter s).toArray.size ≤ _
        simp; omega)
      have hI := fun {W : World} (hT : TabI W) => itoa_c n (by omega) (by omega) hT
      have hL := letter_c s
      simp only [hx] at hI
      simp only [hy] at hL
      rw [hx, hy]
      have HI := Lib.hid (fun (w : World) (hT : TabI w) => tells_grown_at (w := w) (fun d os => hI (hT.grown (below_regrown w d os))))
      have HL := Lib.hid (fun (w : World) => tells_grown (w := w) hL)
      clear hv G hg hI hL hx hy HV
      go_enter Tryd.func25, Tryd.ntmps25
      go_upto_region 5 with (go_at_call 11; (with_reducible refine (HG.out _).mono ?_); rintro e w2 ⟨rfl, hb2⟩; have q0 := (HP.out.kept hb2).c0; have q1 := (HP.out.kept hb2).c1)
      have k0 := cell_regrown q0
      have k1 := cell_regrown q1
      have HB2 := Lib.hid (HB.out.trans (hb2.mono HB.out.size))
      have HI2 := Lib.hid (HI.out w2 (HT.out.grown hb2))
      clear q0 q1 p0 p1 hb2
      refine wp_region_quiet_below (by kernel_rfl) (by kernel_rfl) ?_
      repeat (go_big_quiet_step (first | with_reducible exact HI2.out _ _ | with_reducible exact HL.out _ _ _))
      refine wpQuiet_nil ?_
      intro _ hw'
      obtain ⟨⟨dq, osq⟩, hw''⟩ := hw'
      subst hw''
      have hB4 := below_regrown w2 dq osq
      go_wp2
      go_ret
      exact ⟨rfl, HB2.out.trans (hB4.mono HB2.out.size)⟩

set_option maxRecDepth 100000 in
set_option maxHeartbeats 1600000 in
theorem rdigits_c (N : Nat) (hN : N ≤ 281474976710656) (w : World) : Calls Tryd.prog 44 #[.int .i64 (N : Int)] w (Tells (.string ⟨(Lib.decDigits N).toArray⟩) w) := by
  go_enter Tryd.func44, Tryd.ntmps44
  go_wp2
  go_loopw [0, 3] (fun i s wr => ∃ (k : Nat) (acc : List UInt8), k ≤ N ∧ i = .int .i64 (k : Int) ∧ s = .string ⟨acc.toArray⟩ ∧ Lib.decDigits N = Lib.decDigits k ++ acc ∧ Below w.heap.size w wr) (fun i _ _ => (intOf i).toNat)
  case atStart => exact ⟨N, [], Nat.le_refl _, rfl, rfl, by simp, Below.refl _ _⟩
  case round =>
    obtain ⟨k, acc, hk, rfl, rfl, hd, hB⟩ := hrel
    have hdv : Int.tdiv (k : Int) 10 = ((k / 10 : Nat) : Int) := by rw [Int.tdiv_eq_ediv_of_nonneg (by omega)]; omega
    have hmd : Int.tmod (k : Int) 10 = ((k % 10 : Nat) : Int) := by rw [Int.tmod_eq_emod_of_nonneg (by omega)]; omega
    have hlen : acc.length ≤ 15 := by
      have h1 := (digits_len N hN).2
      rw [hd, List.length_append] at h1
      omega
    obtain ⟨c, hc⟩ : ∃ c : UInt8, UInt8.ofNat (48 + k % 10) = c := ⟨_, rfl⟩
    have hcv := conv_bys (P := Tryd.prog) (src := 37) (dst := 9) (e := 5) (one_bys wr 5 (48 + (k : Int) % 10) c (by rw [← hc]; simp; omega)) Tryd.underlying37 Tryd.underlying5 Tryd.underlying9
    obtain ⟨x, hx⟩ : ∃ x : ByteArray, text [c] = x := ⟨_, rfl⟩
    obtain ⟨y, hy⟩ : ∃ x : ByteArray, (⟨acc.toArray⟩ : ByteArray) = x := ⟨_, rfl⟩
    have hxy : x ++ y = ⟨([c] ++ acc).toArray⟩ := by rw [← hx, ← hy]; exact str_append [c] acc
    have hadd : ∀ W, (Op.stringOp .add x y).run Tryd.prog W = .ok (.string (x ++ y)) W := fun W => run_string_add_sum W x y (by
      subst hx hy
      show ([c] : List UInt8).toArray.size + acc.toArray.size ≤ _
      simp; omega)
    rw [hx] at hcv
    rw [hy]
    have HX := Lib.hid hxy
    have HDg := Lib.hid hd
    have HB2 := Lib.hid (hB.alloc hB.size (.cells #[.int .u8 (48 + (k : Int) % 10)] 5))
    have hbd : 0 ≤ (k : Int) % 10 ∧ (k : Int) % 10 < 10 := by omega
    have HC := Lib.hid hc
    by_cases hk10 : k < 10
    · have hz : ((k / 10 : Nat) : Int) = 0 := by omega
      have hf : Lib.decDigits N = [c] ++ acc := by rw [HDg.out, Lib.decDigits_one hk10, ← HC.out, Nat.mod_eq_of_lt hk10]
      have HF := Lib.hid hf
      clear hx hy hxy hc hd hB hf
      rw [hz] at hdv
      go_wp2
      go_ret
      exact ⟨by rw [HX.out, HF.out]; rfl, HB2.out⟩
    · have hz : (((k / 10 : Nat) : Int) == 0) = false := by rw [beq_eq_false_iff_ne]; omega
      have hf : Lib.decDigits N = Lib.decDigits (k / 10) ++ ([c] ++ acc) := by
        rw [HDg.out]
        conv => lhs; rw [Lib.decDigits, dif_neg hk10, HC.out]
        simp
      have HF := Lib.hid hf
      clear hx hy hxy hc hd hB hf
      go_wp2
      go_roundw
      case rel => exact ⟨k / 10, [c] ++ acc, by omega, rfl, by rw [HX.out], HF.out, HB2.out⟩
      case measure => simp [intOf]; omega

set_option maxRecDepth 100000 in
set_option maxHeartbeats 1600000 in
theorem rstext_c (n s : Int) (w : World) : Calls Tryd.prog 26 #[.agg #[.int .i64 n, .int .i64 s]] w (Tells (.string ⟨(stextS n s).toArray⟩) w) := by
  have hp := Pair.new w 23 n s
  have hb := alloc_below w (.cells #[.int .i64 n, .int .i64 s] 23)
  have G := rsgood_c n s
  have p0 := hp.c0
  have p1 := hp.c1
  have HP := Lib.hid hp
  have HB := Lib.hid hb
  have HV := Lib.hid (show stextS n s = if sgood n s = true then (if n = 0 then [45] else Lib.itoa n ++ sletter s) else [] from rfl)
  clear hp hb
  cases hg : sgood n s with
  | false =>
    rw [hg] at G
    have HG := Lib.hid G
    have hv : stextS n s = [] := by rw [HV.out, if_neg (by simp [hg])]
    rw [hv]
    clear hv G hg
    go_enter Tryd.func26, Tryd.ntmps26
    go_wp2_with (go_at_call 12; (with_reducible refine (HG.out _).mono ?_); rintro e w1 ⟨rfl, hb1⟩)
    go_ret
    exact ⟨rfl, HB.out.trans (hb1.mono HB.out.size)⟩
  | true =>
    rw [hg] at G
    have HG := Lib.hid G
    rcases good_cases hg with ⟨rfl, rfl⟩ | ⟨h1, h2, h3⟩
    · have hv : stextS 0 0 = [45] := by decide
      rw [hv]
      clear hv G hg
      go_enter Tryd.func26, Tryd.ntmps26
      go_wp2_with (go_at_call 12; (with_reducible refine (HG.out _).mono ?_); rintro e w1 ⟨rfl, hb1⟩; have q0 := (HP.out.kept hb1).c0; have q1 := (HP.out.kept hb1).c1)
      go_ret
      exact ⟨rfl, HB.out.trans (hb1.mono HB.out.size)⟩
    · obtain ⟨N, rfl⟩ : ∃ N : Nat, n = (N : Int) := ⟨n.toNat, by omega⟩
      have e0 : ((N : Int) == 0) = false := by rw [beq_eq_false_iff_ne]; omega
      have hD := rdigits_c N (by omega)
      have hl := (digits_len N (by omega)).2
      have hv := stextS_big h1 h2 h3
      rw [show ((N : Int)).toNat = N by omega] at hv
      rw [hv, ← str_append]
      obtain ⟨x, hx⟩ : ∃ x : ByteArray, (⟨(Lib.decDigits N).toArray⟩ : ByteArray) = x := ⟨_, rfl⟩
      have hadd : ∀ (y : ByteArray) (hy : y.size = 1) W, (Op.stringOp .add x y).run Tryd.prog W = .ok (.string (x ++ y)) W := fun y hy W => run_string_add_sum W x y (by
        subst hx
        show (Lib.decDigits N).toArray.size + y.size ≤ _
        rw [hy]; simp; omega)
      rw [hx] at hD ⊢
      have HD := Lib.hid hD
      rcases h3 with rfl | rfl
      · have ha := hadd ⟨#[97]⟩ rfl
        rw [show sletter 1 = [97] by decide]
        clear hv G hg hD hx HV hadd hl
        go_enter Tryd.func26, Tryd.ntmps26
        go_wp2_with (first
          | (go_at_call 12; (with_reducible refine (HG.out _).mono ?_); rintro e w1 ⟨rfl, hb1⟩; have q0 := (HP.out.kept hb1).c0; have q1 := (HP.out.kept hb1).c1)
          | (go_at_call 44; (with_reducible refine (HD.out _).mono ?_); rintro e w2 ⟨rfl, hb2⟩))
        go_ret
        have h2 := HB.out.trans (hb1.mono HB.out.size)
        exact ⟨rfl, h2.trans (hb2.mono h2.size)⟩
      · have ha := hadd ⟨#[98]⟩ rfl
        rw [show sletter 2 = [98] by decide]
        clear hv G hg hD hx HV hadd hl
        go_enter Tryd.func26, Tryd.ntmps26
        go_wp2_with (first
          | (go_at_call 12; (with_reducible refine (HG.out _).mono ?_); rintro e w1 ⟨rfl, hb1⟩; have q0 := (HP.out.kept hb1).c0; have q1 := (HP.out.kept hb1).c1)
          | (go_at_call 44; (with_reducible refine (HD.out _).mono ?_); rintro e w2 ⟨rfl, hb2⟩))
        go_ret
        have h2 := HB.out.trans (hb1.mono HB.out.size)
        exact ⟨rfl, h2.trans (hb2.mono h2.size)⟩
end Go.Proofs.YtjlolljlhoclhaaDoor
