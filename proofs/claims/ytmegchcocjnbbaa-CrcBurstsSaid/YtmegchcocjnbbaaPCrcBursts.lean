/-
  Proved: gemel/gemellaw02.CrcBursts answers true for every byte slice, place and turn, without condition, and leaves its arguments as they were.
-/
import Derived.Test.YtmegchcocjnbbaaRows
import Derived.WalkKit
import Derived.ProofKit
import Derived.OpenShut
import Derived.ShutString
import Derived.ChangeOld
import Derived.Below
import Derived.Test.YtmegchcocjnbbaaRd
import Derived.Test.YtmegchcocjnbbaaCU
namespace Go.Proofs.Ytmegchcocjnbbaa.crcBursts
open Go.ChangeShapes Go.WideShapes Go.ChangeAt Go.RowKit
open Go.ChangeMaps (open_string shut_string)
set_option linter.unusedVariables false

theorem own : ownKnob Try.prog.godebug = none := by kernel_rfl
theorem laidOut : laidOutB Try.prog = true := by kernel_rfl

/-! ### STEP 1: THE WALK: the Go text returns true, AND WRITES NOTHING THAT WAS THERE: 'Below w.heap.size w w'' (Derived/Below.lean: '.refl', '.alloc', '.drew', '.setCell' at a new block, '.trans'). Open each 'IsRow' by 'rcases' AHEAD of 'go_enter'; part every test ahead of the walk. -/
set_option maxHeartbeats 1600000 in
theorem walk (a0 : Option Addr) (len0 cap0 : Nat) (z0 : List Int) (a1 : Int) (a2 : Int) (w : World) (w0 : IsRow .u8 w a0 len0 cap0 z0) (w1 : (Lit.int .i64 a1).wf = true) (w2 : (Lit.int .u32 a2).wf = true) :
    Calls Try.prog 9 #[.slice a0 len0 cap0, .int .i64 a1, .int .u32 a2] w fun e w' => e = .returned (.bool true) ∧ Below w.heap.size w w' := by
  obtain ⟨l, hb⟩ := w0.bys
  obtain ⟨e, rfl⟩ := I_of a2 (u32_of_wf w2).1 (u32_of_wf w2).2
  have hat := i64_of_wf w1
  clear w0 w1 w2
  obtain rfl : l.length = len0 := hb.len
  have hlt : (l.length : Int) ≤ 9223372036854775807 := by have := hb.le; have := hb.max; omega
  by_cases hn : 20000 < l.length
  · have hd : decide ((20000 : Int) < (l.length : Int)) = true := by simp; omega
    go_enter Try.func9, Try.ntmps9
    go_wp2_with (go_at_call 16; refine (lives_c _).mono ?_; rintro e w' ⟨rfl, o, rfl⟩)
    go_ret
    exact ⟨rfl, (Below.refl _ _).alloc (Nat.le_refl _) _⟩
  have hd : decide ((20000 : Int) < (l.length : Int)) = false := by simp; omega
  by_cases hz : e = 0#32
  · have hz0 : (I e == 0) = true := by rw [hz]; decide
    clear hz
    go_enter Try.func9, Try.ntmps9
    go_wp2_with (go_at_call 16; refine (lives_c _).mono ?_; rintro e w' ⟨rfl, o, rfl⟩)
    go_ret
    exact ⟨rfl, (Below.refl _ _).alloc (Nat.le_refl _) _⟩
  have hz0 : (I e == 0) = false := by
    rw [beq_eq_false_iff_ne]; intro h; exact hz (I_inj (by rw [h]; decide))
  have HZ := Lib.hid hz
  clear hz
  have hn20 : l.length ≤ 1000000 := by omega
  obtain ⟨q, hqm, hqe⟩ : ∃ q : Nat, q ≤ l.length ∧ wrap64 ((IntKind.u64.wrap a1).tmod ((l.length : Int) + 1)) = (q : Int) := by
    rw [IntKind.wrap_u64, IntWalk.rem_in _ _ (Int.emod_nonneg _ (by omega))]
    have h1 := Int.emod_nonneg (a1 % 18446744073709551616) (show (l.length : Int) + 1 ≠ 0 by omega)
    have h2 := Int.emod_lt_of_pos (a1 % 18446744073709551616) (show 0 < (l.length : Int) + 1 by omega)
    refine ⟨(a1 % 18446744073709551616 % ((l.length : Int) + 1)).toNat, by omega, ?_⟩
    rw [IntWalk.wrap64_in _ (by omega)]; omega
  have he := I_bd e
  have hfl : (fixS l).length = l.length + 4 := fixS_length l
  clear hat
  go_enter Try.func9, Try.ntmps9
  go_wp2_with (go_at_call 21; refine (fix_c hb hn20).mono ?_; rintro e2 w2 ⟨v2, rfl, ho2, hbv2⟩; obtain ⟨g, c2, rfl, ho3⟩ := ho2.row (by rw [fixS_length]; omega))
  simp only [hqe]
  have HQ := Lib.hid hqe
  clear hqe
  have ho4 : w2.ownsRow w.heap.size 5 1 (.slice (some ⟨g, 0, none⟩) (l.length + 4) c2) (l.length + 4) (u8v (fixS l)) := by
    unfold OwnB at ho3; rw [fixS_length] at ho3; exact ho3
  have hgs : w.heap.size ≤ g := (ho3.lt g rfl).1
  go_loopw [34] (fun i wr => ∃ k : Nat, k ≤ 4 ∧ i = .int .i64 k ∧ wr.ownsRow w.heap.size 5 1 (.slice (some ⟨g, 0, none⟩) (l.length + 4) c2) (l.length + 4) (u8v (burstK (fixS l) q e k)) ∧ w2.grownBy wr (some g)) (fun i _ => 4 - (intOf i).toNat)
  case atStart => exact ⟨0, by omega, rfl, by rw [burstK_zero]; exact ho4, World.grownBy.refl _ _⟩
  case round =>
    obtain ⟨k, hk, rfl, hown2, hgr⟩ := hrel
    by_cases hlt4 : k < 4
    · have hcell := hown2.cellAt (q + k) (by omega)
      rw [u8v_get _ _ (by rw [burstK_length, fixS_length]; omega), by8_byt, burstK_byt _ _ _ _ (by omega)] at hcell
      have hfz := hown2.frozenAt (q + k)
      have hv := turn_val e k hlt4 (byt (fixS l) (q + k)) _ rfl
      have h8 := by8_bd (fixS l) (q + k)
      rw [by8_byt] at h8
      have hq1 : (q : Int) + (k : Int) < (l.length : Int) + 4 := by omega
      obtain ⟨cv, hcv⟩ : ∃ cv : Int, cv = ((byt (fixS l) (q + k)).toNat : Int) := ⟨_, rfl⟩
      rw [← hcv] at hcell hv h8
      rcases (by omega : k = 0 ∨ k = 1 ∨ k = 2 ∨ k = 3) with rfl | rfl | rfl | rfl
      · have hv2 : bits .xor .u8 cv (I e / 16777216) = ((byt (fixS l) (q + 0) ^^^ byt (four e) 0).toNat : Int) := by rw [← hv]; congr 1 <;> omega
        have hs := hown2.stored (q + 0) (.int .u8 ((byt (fixS l) (q + 0) ^^^ byt (four e) 0).toNat : Int))
        rw [u8v_set, burstK_succ (fixS l) q e 0 (by omega)] at hs
        have HS := Lib.hid hs
        have HV := Lib.hid hv2
        have HC := Lib.hid hcv
        clear hs hv hv2 hown2 hcv
        simp only [Nat.add_zero] at hcell hfz HS HV
        go_wp2
        go_roundw
        case rel => exact ⟨1, by omega, rfl, by rw [HV.out]; exact HS.out.1, by rw [HV.out]; exact grown_trans hgr HS.out.2⟩
        case measure => simp [intOf]
      · have hv2 : bits .xor .u8 cv (I e / 65536 % 256) = ((byt (fixS l) (q + 1) ^^^ byt (four e) 1).toNat : Int) := by rw [← hv]; congr 1 <;> omega
        have hs := hown2.stored (q + 1) (.int .u8 ((byt (fixS l) (q + 1) ^^^ byt (four e) 1).toNat : Int))
        rw [u8v_set, burstK_succ (fixS l) q e 1 (by omega)] at hs
        have HS := Lib.hid hs
        have HV := Lib.hid hv2
        have HC := Lib.hid hcv
        clear hs hv hv2 hown2 hcv
        go_wp2
        go_roundw
        case rel => exact ⟨2, by omega, rfl, by rw [HV.out]; exact HS.out.1, by rw [HV.out]; exact grown_trans hgr HS.out.2⟩
        case measure => simp [intOf]
      · have hv2 : bits .xor .u8 cv (I e / 256 % 256) = ((byt (fixS l) (q + 2) ^^^ byt (four e) 2).toNat : Int) := by rw [← hv]; congr 1 <;> omega
        have hs := hown2.stored (q + 2) (.int .u8 ((byt (fixS l) (q + 2) ^^^ byt (four e) 2).toNat : Int))
        rw [u8v_set, burstK_succ (fixS l) q e 2 (by omega)] at hs
        have HS := Lib.hid hs
        have HV := Lib.hid hv2
        have HC := Lib.hid hcv
        clear hs hv hv2 hown2 hcv
        go_wp2
        go_roundw
        case rel => exact ⟨3, by omega, rfl, by rw [HV.out]; exact HS.out.1, by rw [HV.out]; exact grown_trans hgr HS.out.2⟩
        case measure => simp [intOf]
      · have hv2 : bits .xor .u8 cv (I e % 256) = ((byt (fixS l) (q + 3) ^^^ byt (four e) 3).toNat : Int) := by rw [← hv]; congr 1 <;> omega
        have hs := hown2.stored (q + 3) (.int .u8 ((byt (fixS l) (q + 3) ^^^ byt (four e) 3).toNat : Int))
        rw [u8v_set, burstK_succ (fixS l) q e 3 (by omega)] at hs
        have HS := Lib.hid hs
        have HV := Lib.hid hv2
        have HC := Lib.hid hcv
        clear hs hv hv2 hown2 hcv
        go_wp2
        go_roundw
        case rel => exact ⟨4, by omega, rfl, by rw [HV.out]; exact HS.out.1, by rw [HV.out]; exact grown_trans hgr HS.out.2⟩
        case measure => simp [intOf]
    · obtain rfl : k = 4 := by omega
      have hbel : Below w.heap.size w wr := (hbv2.trans ⟨hgr.os, hgr.tape, hgr.output, hgr.size, fun j hj => hgr.block j (by have := hbv2.size; omega) (by simp; omega)⟩)
      have hbad := burst_bad l q e hqm HZ.out
      have hown3 : OwnB wr w.heap.size 5 (.slice (some ⟨g, 0, none⟩) (l.length + 4) c2) (burstK (fixS l) q e 4) := by
        unfold OwnB; rw [burstK_length, fixS_length]; exact hown2
      obtain ⟨a3, c3, he3, hb3⟩ := hown3.bys
      rw [burstK_length, fixS_length] at he3 hb3
      simp only [Value.slice.injEq, true_and] at he3
      obtain ⟨rfl, rfl⟩ := he3
      clear hown2 hown3 ho3 ho4 hgr
      go_wp2_with (first
        | (go_at_call 23; refine (right_c hb3).mono ?_; rintro e w' ⟨rfl, rfl⟩)
        | (go_at_call 16; refine (lives_c _).mono ?_; rintro e w' ⟨rfl, o, rfl⟩))
      go_ret
      exact ⟨rfl, hbel.alloc hbel.size _⟩

/-! ### THE ROW's STEP: WRITTEN OUT: LEAVE IT -/
set_option maxRecDepth 100000 in
theorem lifted (os : Os) (started : os.Started) (H : Type) (enc : TypeId × Value → H) :
    ReturnsInHanded {} Try.checked os 9 .any (Rows.crcBurstsSpec.pre6 enc Try.prog Try.f9 Rows.crcBurstsRow.domain false) (Rows.crcBurstsSpec.post enc Try.prog Try.f9 false true false false) := by
  refine returnsInHanded_of_change (C := Try.checked) own started (by kernel_rfl) Try.func9
    (ChangeSpec.witness6 (enc := enc) (C := Try.checked) false ⟨#[], #[.slice none 0 0, .int .i64 0, .int .u32 0], []⟩ 8 (by kernel_rfl) (by kernel_rfl) (by kernel_rfl) (by kernel_rfl)) ?_
  intro W base args ds gs before hval0 hW hcnd _
  have hval : ∀ (j : Nat) t v, Try.f9.params[j]? = some t → args[j]? = some v → Value.okWide Try.prog W .any base t v := hval0
  have hW' := hW
  obtain ⟨p, q, hA0, hV, rfl, hfz, hnd⟩ := hW
  have hA : DataW.TrodAll enc Try.prog W 0 (fun _ => true) true Try.f9.params.toList args.toList ds p := hA0
  rw [Try.params9] at hA hval
  obtain ⟨v0, vs0, d0, ds0, p0, q0, hargs, rfl, rfl, h0, r0⟩ := trodAll_cons hA
  obtain ⟨v1, vs1, d1, ds1, p1, q1, rfl, rfl, rfl, h1, r1⟩ := trodAll_cons r0
  obtain ⟨v2, vs2, d2, ds2, p2, q2, rfl, rfl, rfl, h2, r2⟩ := trodAll_cons r1
  obtain ⟨rfl, rfl, rfl⟩ := trodAll_nil r2
  obtain rfl : args = #[v0, v1, v2] := by cases args; simp_all
  obtain ⟨rfl, rfl⟩ := trodVars_none hV
  obtain ⟨a0, len0, cap0, rfl⟩ := okWide_slice Try.underlying22 (hval 0 22 v0 rfl rfl)
  have k0 := h0
  have lt0 : ∀ x ∈ p0, x.block < W.heap.size := by obtain ⟨m, hm⟩ := k0; exact DataW.trod_lt m _ _ _ hm
  obtain ⟨z0, w0⟩ : ∃ zs, IsRow .u8 W a0 len0 cap0 zs := by
    obtain ⟨fuel, hf⟩ := h0
    rcases open_ints Try.underlying22 Try.underlying5 (by kernel_rfl) hf with ⟨hcs, _⟩ | ⟨x, l, c, zs, hcs, _, hl, hm, hz, _, hcell, hwz⟩
    · simp [Value.cells] at hcs
      obtain ⟨rfl, rfl, rfl⟩ := hcs
      exact ⟨[], .inl ⟨rfl, rfl, rfl, rfl⟩⟩
    · simp [Value.cells] at hcs
      obtain ⟨rfl, rfl, rfl⟩ := hcs
      exact ⟨zs, .inr ⟨_, rfl, hl, hm, by simpa using hz, hcell, hwz⟩⟩
  obtain ⟨a1, rfl, rfl, rfl, w1⟩ := open_int Try.underlying3 (hval 1 3 v1 rfl rfl) h1
  obtain ⟨a2, rfl, rfl, rfl, w2⟩ := open_int Try.underlying36 (hval 2 36 v2 rfl rfl) h2
  clear hA0 hval0
  refine (walk a0 len0 cap0 z0 a1 a2 W w0 w1 w2).mono fun e W' ⟨he, bel⟩ => ?_
  subst he
  exact ⟨_, rfl, _, _, _, [], _, [], hW', trodAll_mk1 (shut_bool Try.underlying4 _), (trodAll_cons_mk (Below.trod laidOut (by kernel_rfl) (of_decide_eq_true (by kernel_rfl)) k0 bel lt0) (trodAll_cons_mk (shut_int Try.underlying3 w1) (trodAll_cons_mk (shut_int Try.underlying36 w2) trodAll_mk0))), rfl, bel.frame _, fun h => by cases h⟩

theorem over : Rows.crcBurstsRow.holds Try.pinned (OpenSpec.ofChange Rows.crcBurstsSpec) :=
  OpenClaim.holds_of_wide 9 Try.f9 rfl rfl rfl rfl rfl rfl rfl ⟨rfl, rfl, rfl, rfl, rfl⟩ rfl rfl rfl rfl rfl (by kernel_rfl) Try.func9 (by kernel_rfl)
    (of_decide_eq_true (by kernel_rfl)) (by unfold Func.isWrapper; first | (rw [if_pos (by decide +kernel)]; kernel_rfl) | (rw [if_neg (by decide +kernel)]; exact ⟨rfl, rfl⟩))
    (fun os started H enc _ => lifted os started H enc)

/-- ████ THE STATEMENT ████ -/
theorem proved : Rows.CrcBurstsSaid := over
#print axioms proved
end Go.Proofs.Ytmegchcocjnbbaa.crcBursts
