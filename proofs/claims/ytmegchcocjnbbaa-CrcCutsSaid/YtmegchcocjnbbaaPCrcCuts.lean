/-
  Proved: gemel/gemellaw02.CrcCuts answers true for every byte slice and every slice of ints, without condition, and leaves its arguments as they were.
-/
import Derived.Test.YtmegchcocjnbbaaRows
import Derived.WalkKit
import Derived.ProofKit
import Derived.OpenShut
import Derived.ShutString
import Derived.ChangeOld
import Derived.Below
import Derived.Test.YtmegchcocjnbbaaRd
import Derived.Test.YtmegchcocjnbbaaCL
namespace Go.Proofs.Ytmegchcocjnbbaa.crcCuts
open Go.ChangeShapes Go.WideShapes Go.ChangeAt Go.RowKit
open Go.ChangeMaps (open_string shut_string)
set_option linter.unusedVariables false

theorem own : ownKnob Try.prog.godebug = none := by kernel_rfl
theorem laidOut : laidOutB Try.prog = true := by kernel_rfl

/-! ### STEP 1: THE WALK: the Go text returns true, AND WRITES NOTHING THAT WAS THERE: 'Below w.heap.size w w'' (Derived/Below.lean: '.refl', '.alloc', '.drew', '.setCell' at a new block, '.trans'). Open each 'IsRow' by 'rcases' AHEAD of 'go_enter'; part every test ahead of the walk. -/
theorem walk (a0 : Option Addr) (len0 cap0 : Nat) (z0 : List Int) (a1 : Option Addr) (len1 cap1 : Nat) (z1 : List Int) (w : World) (w0 : IsRow .u8 w a0 len0 cap0 z0) (w1 : IsRow .i64 w a1 len1 cap1 z1) :
    Calls Try.prog 7 #[.slice a0 len0 cap0, .slice a1 len1 cap1] w fun e w' => e = .returned (.bool true) ∧ Below w.heap.size w w' := by
  obtain ⟨l, hb⟩ := w0.bys
  obtain ⟨zs, hz⟩ := w1.nums
  clear w0 w1
  have hlt : (len0 : Int) ≤ 9223372036854775807 := by have := hb.le; have := hb.max; omega
  have hlt1 : (len1 : Int) ≤ 9223372036854775807 := by have := hz.le; have := hz.max; omega
  by_cases hn : 20000 < len0
  · have hd : decide ((20000 : Int) < (len0 : Int)) = true := by simp; omega
    go_enter Try.func7, Try.ntmps7
    go_wp2_with (go_at_call 16; refine (lives_c _).mono ?_; rintro e w' ⟨rfl, o, rfl⟩)
    go_ret
    exact ⟨rfl, (Below.refl _ _).alloc (Nat.le_refl _) _⟩
  have hd : decide ((20000 : Int) < (len0 : Int)) = false := by simp; omega
  by_cases hn1 : 50 < len1
  · have hd1 : decide ((50 : Int) < (len1 : Int)) = true := by simp; omega
    go_enter Try.func7, Try.ntmps7
    go_wp2_with (go_at_call 16; refine (lives_c _).mono ?_; rintro e w' ⟨rfl, o, rfl⟩)
    go_ret
    exact ⟨rfl, (Below.refl _ _).alloc (Nat.le_refl _) _⟩
  have hd1 : decide ((50 : Int) < (len1 : Int)) = false := by simp; omega
  have hnil : Bys w none 0 0 [] := ⟨rfl, Nat.le_refl _, by omega, .inl rfl⟩
  go_enter Try.func7, Try.ntmps7
  go_wp2_with (go_at_call 17; refine (sum_c hnil).mono ?_; rintro e w' ⟨rfl, rfl⟩)
  go_loop [5, 6, 23] (fun v r i => ∃ k : Nat, k ≤ len1 ∧ i = .int .i64 k ∧ ∃ a' m c' l1 l2, l = l1 ++ l2 ∧ Bys w a' m c' l2 ∧ v = .int .u32 (I (sumS l1)) ∧ r = .slice a' m c') (fun _ _ i => len1 - (intOf i).toNat)
  case atStart => exact ⟨0, by omega, rfl, a0, len0, cap0, [], l, rfl, hb, rfl, rfl⟩
  case round =>
    obtain ⟨k, hk, rfl, a', m, c', l1, l2, hl, hb2, rfl, rfl⟩ := hrel
    by_cases hlt2 : k < len1
    · rcases hz.adr with h0 | ⟨b, off, rfl, hc⟩
      · have := hz.le; omega
      have hcell : w.cell? ⟨b, off + k, none⟩ = some (.int .i64 (numAt zs k)) := hc k hlt2
      have hbd : -9223372036854775808 ≤ numAt zs k ∧ numAt zs k ≤ 9223372036854775807 := hz.bd k
      have hm2 : m ≤ c' ∧ c' ≤ 9223372036854775807 := ⟨hb2.le, hb2.max⟩
      have hmm : (m : Int) ≤ 20000 := by
        have h1 := hb2.len; have h2 := hb.len; rw [hl, List.length_append] at h2; omega
      generalize numAt zs k = c at *
      obtain ⟨q, hqm, hqe⟩ : ∃ q : Nat, q ≤ m ∧ wrap64 ((IntKind.u64.wrap c).tmod ((m : Int) + 1)) = (q : Int) := by
        rw [IntKind.wrap_u64, IntWalk.rem_in _ _ (Int.emod_nonneg _ (by omega))]
        have h1 := Int.emod_nonneg (c % 18446744073709551616) (show (m : Int) + 1 ≠ 0 by omega)
        have h2 := Int.emod_lt_of_pos (c % 18446744073709551616) (show 0 < (m : Int) + 1 by omega)
        refine ⟨(c % 18446744073709551616 % ((m : Int) + 1)).toNat, by omega, ?_⟩
        rw [IntWalk.wrap64_in _ (by omega)]; omega
      have ht := hb2.take hqm
      have HM := Lib.hid (more_take l l1 l2 q hl)
      clear hl hc hbd
      by_cases hcq : c' = q
      · have hdr := hb2.dropEnd hqm hcq
        obtain rfl : m = q := by omega
        subst hcq
        go_wp2_with (go_at_call 19; refine (more_c (sumS l1) ht).mono ?_; rintro e w' ⟨rfl, rfl⟩)
        go_round
        case rel => exact ⟨k + 1, by omega, by go_num, _, _, _, _, _, HM.out.1, hdr, by rw [HM.out.2], by simp⟩
        case measure => simp [intOf]; omega
      · have hdr := hb2.drop hqm
        go_wp2_with (go_at_call 19; refine (more_c (sumS l1) ht).mono ?_; rintro e w' ⟨rfl, rfl⟩)
        go_round
        case rel => exact ⟨k + 1, by omega, by go_num, _, _, _, _, _, HM.out.1, hdr, by rw [HM.out.2], by simp⟩
        case measure => simp [intOf]; omega
    · obtain rfl : k = len1 := by omega
      have HM := Lib.hid (more_all l1 l2)
      rw [← hl] at HM
      clear hl
      go_wp2_with (first
        | (go_at_call 16; refine (lives_c _).mono ?_; rintro e w' ⟨rfl, o, rfl⟩)
        | (go_at_call 17; refine (sum_c hb).mono ?_; rintro e w' ⟨rfl, rfl⟩)
        | (go_at_call 19; refine (more_c (sumS l1) hb2).mono ?_; rintro e w' ⟨rfl, rfl⟩; rw [HM.out]))
      go_ret
      exact ⟨rfl, (Below.refl _ _).alloc (Nat.le_refl _) _⟩

/-! ### THE ROW's STEP: WRITTEN OUT: LEAVE IT -/
set_option maxRecDepth 100000 in
theorem lifted (os : Os) (started : os.Started) (H : Type) (enc : TypeId × Value → H) :
    ReturnsInHanded {} Try.checked os 7 .any (Rows.crcCutsSpec.pre6 enc Try.prog Try.f7 Rows.crcCutsRow.domain false) (Rows.crcCutsSpec.post enc Try.prog Try.f7 false true false false) := by
  refine returnsInHanded_of_change (C := Try.checked) own started (by kernel_rfl) Try.func7
    (ChangeSpec.witness6 (enc := enc) (C := Try.checked) false ⟨#[], #[.slice none 0 0, .slice none 0 0], []⟩ 8 (by kernel_rfl) (by kernel_rfl) (by kernel_rfl) (by kernel_rfl)) ?_
  intro W base args ds gs before hval0 hW hcnd _
  have hval : ∀ (j : Nat) t v, Try.f7.params[j]? = some t → args[j]? = some v → Value.okWide Try.prog W .any base t v := hval0
  have hW' := hW
  obtain ⟨p, q, hA0, hV, rfl, hfz, hnd⟩ := hW
  have hA : DataW.TrodAll enc Try.prog W 0 (fun _ => true) true Try.f7.params.toList args.toList ds p := hA0
  rw [Try.params7] at hA hval
  obtain ⟨v0, vs0, d0, ds0, p0, q0, hargs, rfl, rfl, h0, r0⟩ := trodAll_cons hA
  obtain ⟨v1, vs1, d1, ds1, p1, q1, rfl, rfl, rfl, h1, r1⟩ := trodAll_cons r0
  obtain ⟨rfl, rfl, rfl⟩ := trodAll_nil r1
  obtain rfl : args = #[v0, v1] := by cases args; simp_all
  obtain ⟨rfl, rfl⟩ := trodVars_none hV
  obtain ⟨a0, len0, cap0, rfl⟩ := okWide_slice Try.underlying22 (hval 0 22 v0 rfl rfl)
  have k0 := h0
  have lt0 : ∀ x ∈ p0, x.block < W.heap.size := by obtain ⟨m, hm⟩ := k0; exact DataW.trod_lt m _ _ _ hm
  obtain ⟨z0, w0⟩ : ∃ zs, IsRow .u8 W a0 len0 cap0 zs := by
    obtain ⟨fuel, hf⟩ := h0
    rcases open_ints Try.underlying22 Try.underlying5 (by kernel_rfl) hf with ⟨hcs, _⟩ | ⟨x, l, c, zs, hcs, _, hl, hm, hz, _, hcell, hwz⟩
    · simp [Value.cells] at hcs
      obtain ⟨rfl, rfl, rfl⟩ := hcs
      exact ⟨[], .inl ⟨rfl, rfl, rfl, rfl⟩⟩
    · simp [Value.cells] at hcs
      obtain ⟨rfl, rfl, rfl⟩ := hcs
      exact ⟨zs, .inr ⟨_, rfl, hl, hm, by simpa using hz, hcell, hwz⟩⟩
  obtain ⟨a1, len1, cap1, rfl⟩ := okWide_slice Try.underlying30 (hval 1 30 v1 rfl rfl)
  have k1 := h1
  have lt1 : ∀ x ∈ p1, x.block < W.heap.size := by obtain ⟨m, hm⟩ := k1; exact DataW.trod_lt m _ _ _ hm
  obtain ⟨z1, w1⟩ : ∃ zs, IsRow .i64 W a1 len1 cap1 zs := by
    obtain ⟨fuel, hf⟩ := h1
    rcases open_ints Try.underlying30 Try.underlying3 (by kernel_rfl) hf with ⟨hcs, _⟩ | ⟨x, l, c, zs, hcs, _, hl, hm, hz, _, hcell, hwz⟩
    · simp [Value.cells] at hcs
      obtain ⟨rfl, rfl, rfl⟩ := hcs
      exact ⟨[], .inl ⟨rfl, rfl, rfl, rfl⟩⟩
    · simp [Value.cells] at hcs
      obtain ⟨rfl, rfl, rfl⟩ := hcs
      exact ⟨zs, .inr ⟨_, rfl, hl, hm, by simpa using hz, hcell, hwz⟩⟩
  clear hA0 hval0
  refine (walk a0 len0 cap0 z0 a1 len1 cap1 z1 W w0 w1).mono fun e W' ⟨he, bel⟩ => ?_
  subst he
  exact ⟨_, rfl, _, _, _, [], _, [], hW', trodAll_mk1 (shut_bool Try.underlying4 _), (trodAll_cons_mk (Below.trod laidOut (by kernel_rfl) (of_decide_eq_true (by kernel_rfl)) k0 bel lt0) (trodAll_cons_mk (Below.trod laidOut (by kernel_rfl) (of_decide_eq_true (by kernel_rfl)) k1 bel lt1) trodAll_mk0)), rfl, bel.frame _, fun h => by cases h⟩

theorem over : Rows.crcCutsRow.holds Try.pinned (OpenSpec.ofChange Rows.crcCutsSpec) :=
  OpenClaim.holds_of_wide 7 Try.f7 rfl rfl rfl rfl rfl rfl rfl ⟨rfl, rfl, rfl, rfl, rfl⟩ rfl rfl rfl rfl rfl (by kernel_rfl) Try.func7 (by kernel_rfl)
    (of_decide_eq_true (by kernel_rfl)) (by unfold Func.isWrapper; first | (rw [if_pos (by decide +kernel)]; kernel_rfl) | (rw [if_neg (by decide +kernel)]; exact ⟨rfl, rfl⟩))
    (fun os started H enc _ => lifted os started H enc)

/-- ████ THE STATEMENT ████ -/
theorem proved : Rows.CrcCutsSaid := over
#print axioms proved
end Go.Proofs.Ytmegchcocjnbbaa.crcCuts
