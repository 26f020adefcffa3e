/-
  Proved: gemel/gemellaw02.CrcFixes answers true for every byte slice, without condition, and leaves its argument as it was.
-/
import Derived.Test.YtmegchcocjnbbaaRows
import Derived.WalkKit
import Derived.ProofKit
import Derived.OpenShut
import Derived.ShutString
import Derived.ChangeOld
import Derived.Below
import Derived.Test.YtmegchcocjnbbaaRd
import Derived.Test.YtmegchcocjnbbaaCR
namespace Go.Proofs.Ytmegchcocjnbbaa.crcFixes
open Go.ChangeShapes Go.WideShapes Go.ChangeAt Go.RowKit
open Go.ChangeMaps (open_string shut_string)
set_option linter.unusedVariables false

theorem own : ownKnob Try.prog.godebug = none := by kernel_rfl
theorem laidOut : laidOutB Try.prog = true := by kernel_rfl

/-! ### STEP 1: THE WALK: the Go text returns true, AND WRITES NOTHING THAT WAS THERE: 'Below w.heap.size w w'' (Derived/Below.lean: '.refl', '.alloc', '.drew', '.setCell' at a new block, '.trans'). Open each 'IsRow' by 'rcases' AHEAD of 'go_enter'; part every test ahead of the walk. -/
set_option maxHeartbeats 1600000 in
theorem walk (a0 : Option Addr) (len0 cap0 : Nat) (z0 : List Int) (w : World) (w0 : IsRow .u8 w a0 len0 cap0 z0) :
    Calls Try.prog 6 #[.slice a0 len0 cap0] w fun e w' => e = .returned (.bool true) ∧ Below w.heap.size w w' := by
  obtain ⟨l, hb⟩ := w0.bys
  clear w0
  obtain rfl : l.length = len0 := hb.len
  have hlt : (l.length : Int) ≤ 9223372036854775807 := by have := hb.le; have := hb.max; omega
  by_cases hn : 20000 < l.length
  · have hd : decide ((20000 : Int) < (l.length : Int)) = true := by simp; omega
    go_enter Try.func6, Try.ntmps6
    go_wp2_with (go_at_call 16; refine (lives_c _).mono ?_; rintro e w' ⟨rfl, o, rfl⟩)
    go_ret
    exact ⟨rfl, (Below.refl _ _).alloc (Nat.le_refl _) _⟩
  · have hd : decide ((20000 : Int) < (l.length : Int)) = false := by simp; omega
    obtain ⟨i0, hi, hz0, hz1, hz2⟩ := info_parts Try.info5
    have hba := hb.below ((Below.refl w.heap.size w).alloc (Nat.le_refl _) (.cells #[] 5))
    have hoe := OwnB.empty w w.heap.size 5 (Nat.le_refl _)
    have hn20 : l.length ≤ 1000000 := by omega
    go_enter Try.func6, Try.ntmps6
    go_wp2_with (at_builtin; refine wpList_append_bys rfl (.tmp 9) (.tmp 10) 22 rfl Try.underlying22 hi hz0 hz1 hz2 rfl rfl hoe rfl hba (by simp; omega) (by simp) ?_; intro v1 w1 ho1 hg1)
    have hbel1 : Below w.heap.size w w1 := ((Below.refl w.heap.size w).alloc (Nat.le_refl _) (.cells #[] 5)).grown hg1 (by simp) (fun k hk => (hoe.lt k hk).1)
    rw [List.nil_append] at ho1
    obtain ⟨a1, c1, rfl, hb1⟩ := ho1.bys
    clear hoe hba hg1 ho1
    go_wp2_with (go_at_call 21; refine (fix_c hb1 hn20).mono ?_; rintro e w2 ⟨v2, rfl, ho2, hbv2⟩)
    obtain ⟨a2, c2, rfl, hf2⟩ := ho2.bys
    have hbel2 : Below w.heap.size w w2.drew := (hbel1.trans (hbv2.mono hbel1.size)).drew
    have hb2 := hb.below hbel2
    have ho2 : Bys w2.drew a1 l.length c1 l := hb1.below (hbv2.drew)
    have hf2d : Bys w2.drew a2 (fixS l).length c2 (fixS l) := hf2.below (Below.refl _ _).drew
    have j1 := conv_bys (P := Try.prog) hf2d Try.underlying22 Try.underlying5 Try.underlying9
    have hrf : rightS (fixS l) = true := rightS_fix l
    clear hf2 hb1 hbv2
    go_wp2
    go_region_with (first
      | (go_at_call 22; refine (rfix_c hb2 hn20).mono ?_; rintro e w3 ⟨v3, rfl, ho3, hbv3⟩; obtain ⟨a3, c3, rfl, hb3⟩ := ho3.bys; have k1 := conv_bys (P := Try.prog) hb3 Try.underlying22 Try.underlying5 Try.underlying9; have hbw3 : Below w.heap.size w w3 := hbel2.trans (hbv3.mono hbel2.size); have hf3 := hf2d.below hbv3; have k2 := conv_bys (P := Try.prog) hf3 Try.underlying22 Try.underlying5 Try.underlying9; have k3 := conv_bys (P := Try.prog) (ho2.below hbv3) Try.underlying22 Try.underlying5 Try.underlying9; have hbb3 := hb.below hbw3; have k4 := conv_bys (P := Try.prog) hbb3 Try.underlying22 Try.underlying5 Try.underlying9)
      | (go_at_call_of 23 a2; refine (right_c hf3).mono ?_; rintro e w' ⟨rfl, rfl⟩)
      | (go_at_call_of 23 a0; refine (right_c hbb3).mono ?_; rintro e w' ⟨rfl, rfl⟩)
      | (go_at_call 24; refine (rright_c hbb3 hn20).mono ?_; rintro e w4 ⟨rfl, hbv4⟩)
      | (go_at_call 16; refine (lives_c _).mono ?_; rintro e w' ⟨rfl, o, rfl⟩))
    all_goals go_wp2
    all_goals go_ret
    all_goals (have hbw4 : Below w.heap.size w w4 := hbw3.trans (hbv4.mono hbw3.size); exact ⟨rfl, hbw4.alloc hbw4.size _⟩)

/-! ### THE ROW's STEP: WRITTEN OUT: LEAVE IT -/
set_option maxRecDepth 100000 in
theorem lifted (os : Os) (started : os.Started) (H : Type) (enc : TypeId × Value → H) :
    ReturnsInHanded {} Try.checked os 6 .any (Rows.crcFixesSpec.pre6 enc Try.prog Try.f6 Rows.crcFixesRow.domain false) (Rows.crcFixesSpec.post enc Try.prog Try.f6 false true false false) := by
  refine returnsInHanded_of_change (C := Try.checked) own started (by kernel_rfl) Try.func6
    (ChangeSpec.witness6 (enc := enc) (C := Try.checked) false ⟨#[], #[.slice none 0 0], []⟩ 8 (by kernel_rfl) (by kernel_rfl) (by kernel_rfl) (by kernel_rfl)) ?_
  intro W base args ds gs before hval0 hW hcnd _
  have hval : ∀ (j : Nat) t v, Try.f6.params[j]? = some t → args[j]? = some v → Value.okWide Try.prog W .any base t v := hval0
  have hW' := hW
  obtain ⟨p, q, hA0, hV, rfl, hfz, hnd⟩ := hW
  have hA : DataW.TrodAll enc Try.prog W 0 (fun _ => true) true Try.f6.params.toList args.toList ds p := hA0
  rw [Try.params6] at hA hval
  obtain ⟨v0, vs0, d0, ds0, p0, q0, hargs, rfl, rfl, h0, r0⟩ := trodAll_cons hA
  obtain ⟨rfl, rfl, rfl⟩ := trodAll_nil r0
  obtain rfl : args = #[v0] := by cases args; simp_all
  obtain ⟨rfl, rfl⟩ := trodVars_none hV
  obtain ⟨a0, len0, cap0, rfl⟩ := okWide_slice Try.underlying22 (hval 0 22 v0 rfl rfl)
  have k0 := h0
  have lt0 : ∀ x ∈ p0, x.block < W.heap.size := by obtain ⟨m, hm⟩ := k0; exact DataW.trod_lt m _ _ _ hm
  obtain ⟨z0, w0⟩ : ∃ zs, IsRow .u8 W a0 len0 cap0 zs := by
    obtain ⟨fuel, hf⟩ := h0
    rcases open_ints Try.underlying22 Try.underlying5 (by kernel_rfl) hf with ⟨hcs, _⟩ | ⟨x, l, c, zs, hcs, _, hl, hm, hz, _, hcell, hwz⟩
    · simp [Value.cells] at hcs
      obtain ⟨rfl, rfl, rfl⟩ := hcs
      exact ⟨[], .inl ⟨rfl, rfl, rfl, rfl⟩⟩
    · simp [Value.cells] at hcs
      obtain ⟨rfl, rfl, rfl⟩ := hcs
      exact ⟨zs, .inr ⟨_, rfl, hl, hm, by simpa using hz, hcell, hwz⟩⟩
  clear hA0 hval0
  refine (walk a0 len0 cap0 z0 W w0).mono fun e W' ⟨he, bel⟩ => ?_
  subst he
  exact ⟨_, rfl, _, _, _, [], _, [], hW', trodAll_mk1 (shut_bool Try.underlying4 _), (trodAll_cons_mk (Below.trod laidOut (by kernel_rfl) (of_decide_eq_true (by kernel_rfl)) k0 bel lt0) trodAll_mk0), rfl, bel.frame _, fun h => by cases h⟩

theorem over : Rows.crcFixesRow.holds Try.pinned (OpenSpec.ofChange Rows.crcFixesSpec) :=
  OpenClaim.holds_of_wide 6 Try.f6 rfl rfl rfl rfl rfl rfl rfl ⟨rfl, rfl, rfl, rfl, rfl⟩ rfl rfl rfl rfl rfl (by kernel_rfl) Try.func6 (by kernel_rfl)
    (of_decide_eq_true (by kernel_rfl)) (by unfold Func.isWrapper; first | (rw [if_pos (by decide +kernel)]; kernel_rfl) | (rw [if_neg (by decide +kernel)]; exact ⟨rfl, rfl⟩))
    (fun os started H enc _ => lifted os started H enc)

/-- ████ THE STATEMENT ████ -/
theorem proved : Rows.CrcFixesSaid := over
#print axioms proved
end Go.Proofs.Ytmegchcocjnbbaa.crcFixes
