/-
  Proved: gemel/gemellaw03.FrameTurned answers true for every input, and leaves its arguments as they were; the two tables of math/bits that its row lists hold what the program's text lays (the card ties them to a pruned copy of the project).
-/
import Derived.Test.YticcmhgahbnboaaDoorCards
import Derived.Test.YticcmhgahbnboaaDoorTie
import Derived.WalkKit
import Derived.ProofKit
import Derived.OpenShut
import Derived.ShutString
import Derived.ChangeOld
import Derived.Below
import Derived.SizedLaws
import Derived.Deep.DeepHandedRow
import Derived.Test.YticcmhgahbnboaaDoorTb
import Derived.Test.YticcmhgahbnboaaDoorRd
import Derived.Test.YticcmhgahbnboaaDoorFL
import Derived.Test.YticcmhgahbnboaaDoorFB
namespace Go.Proofs.YticcmhgahbnboaaDoor.frameTurned
open Go.ChangeShapes Go.WideShapes Go.ChangeAt Go.RowKit
open Go.ChangeMaps (open_string shut_string)
set_option linter.unusedVariables false

theorem own : ownKnob Tryd.prog.godebug = none := by kernel_rfl
theorem laidOut : laidOutB Tryd.prog = true := by kernel_rfl

set_option maxRecDepth 100000 in
set_option maxHeartbeats 1600000 in
theorem walk (a0 : Option Addr) (len0 cap0 : Nat) (z0 : List Int) (a1 : Int) (a2 : Int) (w : World) (hT : TabW w) (w0 : IsRow .u8 w a0 len0 cap0 z0) (w1 : (Lit.int .i64 a1).wf = true) (w2 : (Lit.int .u32 a2).wf = true) :
    Calls Tryd.prog 8 #[.slice a0 len0 cap0, .int .i64 a1, .int .u32 a2] w fun e w' => e = .returned (.bool true) ∧ Below w.heap.size w w' := by
  obtain ⟨l, hb⟩ := w0.bys
  obtain ⟨e, rfl⟩ := I_of a2 (u32_of_wf w2).1 (u32_of_wf w2).2
  have hat := i64_of_wf w1
  clear w0 w1 w2
  obtain rfl : l.length = len0 := hb.len
  have hlt : (l.length : Int) ≤ 9223372036854775807 := by have := hb.le; have := hb.max; omega
  by_cases hn : 20000 < l.length
  · have hd : decide ((20000 : Int) < (l.length : Int)) = true := by simp; omega
    go_enter Tryd.func8, Tryd.ntmps8
    go_wp2_with (go_at_call 13; refine (lives_c hT).mono ?_; rintro e w' ⟨rfl, hbl⟩)
    go_ret
    exact ⟨rfl, hbl⟩
  have hd : decide ((20000 : Int) < (l.length : Int)) = false := by simp; omega
  by_cases hz : e = 0#32
  · have hz0 : (I e == 0) = true := by rw [hz]; decide
    clear hz
    go_enter Tryd.func8, Tryd.ntmps8
    go_wp2_with (go_at_call 13; refine (lives_c hT).mono ?_; rintro e w' ⟨rfl, hbl⟩)
    go_ret
    exact ⟨rfl, hbl⟩
  have hz0 : (I e == 0) = false := by
    rw [beq_eq_false_iff_ne]; intro h; exact hz (I_inj (by rw [h]; decide))
  have HZ := Lib.hid hz
  clear hz
  have hn20 : l.length ≤ 20000 := by omega
  obtain ⟨q, hqm, hqe⟩ : ∃ q : Nat, q ≤ l.length ∧ wrap64 ((IntKind.u64.wrap a1).tmod ((l.length : Int) + 1)) = (q : Int) := by
    rw [IntKind.wrap_u64, IntWalk.rem_in _ _ (Int.emod_nonneg _ (by omega))]
    have h1 := Int.emod_nonneg (a1 % 18446744073709551616) (show (l.length : Int) + 1 ≠ 0 by omega)
    have h2 := Int.emod_lt_of_pos (a1 % 18446744073709551616) (show 0 < (l.length : Int) + 1 by omega)
    refine ⟨(a1 % 18446744073709551616 % ((l.length : Int) + 1)).toNat, by omega, ?_⟩
    rw [IntWalk.wrap64_in _ (by omega)]; omega
  have he := I_bd e
  have hwc := wrap_c hb (by omega) hT
  obtain ⟨p, hp, hpl, p1, p8⟩ := headS_size l.length (by omega)
  have hwl := wrapS_length (l := l) (by omega)
  have hO := openS_turned l (by omega) q hqm e HZ.out
  rw [hpl] at hwl hO
  obtain ⟨F, hF⟩ : ∃ F, wrapS l = F := ⟨_, rfl⟩
  rw [hF] at hwc hO hwl
  have hFL : F.length = 1 + p + l.length + 4 := hwl
  have HW := Lib.hid hwc
  have HO := Lib.hid hO
  have HFL := Lib.hid hFL
  have hsz1 : ¬ ((1 : Int) + (p : Int) + (l.length : Int) + 4 < (l.length : Int) + 6) := by omega
  have hsz2 : (1 : Int) + (p : Int) + (l.length : Int) + 4 - (l.length : Int) - 4 = 1 + (p : Int) := by omega
  clear hat hwc hO hF hwl hFL hp hpl hn
  go_enter Tryd.func8, Tryd.ntmps8
  go_wp2_with (go_at_call 14; refine (HW.out).mono ?_; rintro e2 w2 ⟨v2, rfl, ho2, hbv2⟩; obtain ⟨g, c2, hv2, ho3⟩ := ho2.row (by have := HFL.out; omega); rw [HFL.out] at hv2 ho3; subst hv2)
  have HQ := Lib.hid hqe
  clear hqe
  have ho4 : w2.ownsRow w.heap.size 5 1 (.slice (some ⟨g, 0, none⟩) (1 + p + l.length + 4) c2) (1 + p + l.length + 4) (u8v F) := by
    have ho5 := ho3
    unfold OwnB at ho5; rw [HFL.out] at ho5; exact ho5
  have hgs : w.heap.size ≤ g := (ho3.lt g rfl).1
  go_loopw [46] (fun i wr => ∃ k : Nat, k ≤ 4 ∧ i = .int .i64 k ∧ wr.ownsRow w.heap.size 5 1 (.slice (some ⟨g, 0, none⟩) (1 + p + l.length + 4) c2) (1 + p + l.length + 4) (u8v (burstK F (1 + p + q) e k)) ∧ w2.grownBy wr (some g)) (fun i _ => 4 - (intOf i).toNat)
  case atStart => exact ⟨0, by omega, rfl, by rw [burstK_zero]; exact ho4, World.grownBy.refl _ _⟩
  case round =>
    obtain ⟨k, hk, rfl, hown2, hgr⟩ := hrel
    by_cases hlt4 : k < 4
    · have hcell := hown2.cellAt (1 + p + q + k) (by omega)
      rw [u8v_get _ _ (by rw [burstK_length, HFL.out]; omega), by8_byt, burstK_byt _ _ _ _ (by rw [HFL.out]; omega)] at hcell
      have hfz := hown2.frozenAt (1 + p + q + k)
      have hv := turn_val e k hlt4 (byt F (1 + p + q + k)) _ rfl
      have h8 := by8_bd F (1 + p + q + k)
      rw [by8_byt] at h8
      have hq1 : 1 + (p : Int) + (q : Int) + (k : Int) < 1 + (p : Int) + (l.length : Int) + 4 := by omega
      obtain ⟨cv, hcv⟩ : ∃ cv : Int, cv = ((byt F (1 + p + q + k)).toNat : Int) := ⟨_, rfl⟩
      rw [← hcv] at hcell hv h8
      rcases (by omega : k = 0 ∨ k = 1 ∨ k = 2 ∨ k = 3) with rfl | rfl | rfl | rfl
      · have hv2 : bits .xor .u8 cv (I e / 16777216) = ((byt F (1 + p + q + 0) ^^^ byt (four e) 0).toNat : Int) := by rw [← hv]; congr 1 <;> omega
        have hs := hown2.stored (1 + p + q + 0) (.int .u8 ((byt F (1 + p + q + 0) ^^^ byt (four e) 0).toNat : Int))
        rw [u8v_set, burstK_succ F (1 + p + q) e 0 (by rw [HFL.out]; omega)] at hs
        have HS := Lib.hid hs
        have HV := Lib.hid hv2
        have HC := Lib.hid hcv
        clear hs hv hv2 hown2 hcv
        simp only [Nat.add_zero] at hcell hfz HS HV
        go_wp2
        go_roundw
        case rel => exact ⟨1, by omega, rfl, by rw [HV.out]; exact HS.out.1, by rw [HV.out]; exact grown_trans hgr HS.out.2⟩
        case measure => simp [intOf]
      · have hv2 : bits .xor .u8 cv (I e / 65536 % 256) = ((byt F (1 + p + q + 1) ^^^ byt (four e) 1).toNat : Int) := by rw [← hv]; congr 1 <;> omega
        have hs := hown2.stored (1 + p + q + 1) (.int .u8 ((byt F (1 + p + q + 1) ^^^ byt (four e) 1).toNat : Int))
        rw [u8v_set, burstK_succ F (1 + p + q) e 1 (by rw [HFL.out]; omega)] at hs
        have HS := Lib.hid hs
        have HV := Lib.hid hv2
        have HC := Lib.hid hcv
        clear hs hv hv2 hown2 hcv
        go_wp2
        go_roundw
        case rel => exact ⟨2, by omega, rfl, by rw [HV.out]; exact HS.out.1, by rw [HV.out]; exact grown_trans hgr HS.out.2⟩
        case measure => simp [intOf]
      · have hv2 : bits .xor .u8 cv (I e / 256 % 256) = ((byt F (1 + p + q + 2) ^^^ byt (four e) 2).toNat : Int) := by rw [← hv]; congr 1 <;> omega
        have hs := hown2.stored (1 + p + q + 2) (.int .u8 ((byt F (1 + p + q + 2) ^^^ byt (four e) 2).toNat : Int))
        rw [u8v_set, burstK_succ F (1 + p + q) e 2 (by rw [HFL.out]; omega)] at hs
        have HS := Lib.hid hs
        have HV := Lib.hid hv2
        have HC := Lib.hid hcv
        clear hs hv hv2 hown2 hcv
        go_wp2
        go_roundw
        case rel => exact ⟨3, by omega, rfl, by rw [HV.out]; exact HS.out.1, by rw [HV.out]; exact grown_trans hgr HS.out.2⟩
        case measure => simp [intOf]
      · have hv2 : bits .xor .u8 cv (I e % 256) = ((byt F (1 + p + q + 3) ^^^ byt (four e) 3).toNat : Int) := by rw [← hv]; congr 1 <;> omega
        have hs := hown2.stored (1 + p + q + 3) (.int .u8 ((byt F (1 + p + q + 3) ^^^ byt (four e) 3).toNat : Int))
        rw [u8v_set, burstK_succ F (1 + p + q) e 3 (by rw [HFL.out]; omega)] at hs
        have HS := Lib.hid hs
        have HV := Lib.hid hv2
        have HC := Lib.hid hcv
        clear hs hv hv2 hown2 hcv
        go_wp2
        go_roundw
        case rel => exact ⟨4, by omega, rfl, by rw [HV.out]; exact HS.out.1, by rw [HV.out]; exact grown_trans hgr HS.out.2⟩
        case measure => simp [intOf]
    · obtain rfl : k = 4 := by omega
      have hbel : Below w.heap.size w wr := (hbv2.trans ⟨hgr.os, hgr.tape, hgr.output, hgr.size, fun j hj => hgr.block j (by have := hbv2.size; omega) (by simp; omega)⟩)
      have hown3 : OwnB wr w.heap.size 5 (.slice (some ⟨g, 0, none⟩) (1 + p + l.length + 4) c2) (burstK F (1 + p + q) e 4) := by
        unfold OwnB; rw [burstK_length, HFL.out]; exact hown2
      obtain ⟨a3, c3, he3, hb3⟩ := hown3.bys
      rw [burstK_length, HFL.out] at he3 hb3
      simp only [Value.slice.injEq, true_and] at he3
      obtain ⟨rfl, rfl⟩ := he3
      have hoc : Calls Tryd.prog 16 #[.slice (some ⟨g, 0, none⟩) (1 + p + l.length + 4) c2] wr fun e w' => ∃ v, e = .returned (.tuple #[v, .int .i64 0, .int .i64 31]) ∧ OwnB w' wr.heap.size 5 v [] ∧ Below wr.heap.size wr w' := by
        have h := open_c hb3 (by omega)
        unfold OpenPost at h
        rw [HO.out] at h
        exact h
      have HC := Lib.hid hoc
      clear hoc
      clear hown2 hown3 ho3 ho4 hgr
      go_wp2_with (first
        | (go_at_call 16; refine (HC.out).mono ?_; rintro e3 w4 ⟨v4, rfl, ho4, hb4⟩; obtain ⟨a4, c4, hv4, hy4⟩ := ho4.bys; subst hv4; have hw4 := hbel.trans (hb4.mono hbel.size))
        | (go_at_call 13; refine (lives_c (hT.below hw4)).mono ?_; rintro e6 w6 ⟨rfl, hb6⟩))
      go_ret
      exact ⟨rfl, hw4.trans (hb6.mono hw4.size)⟩

set_option maxRecDepth 100000 in
theorem contract (H : Type) (enc : TypeId × Value → H) (W : World) (base : Nat) (args : Array Value) (ds gs : List (DataW H)) (before : List MemPlace)
    (hval0 : ∀ (j : Nat) t v, Tryd.f8.params[j]? = some t → args[j]? = some v → Value.okWide Tryd.prog W .any base t v)
    (hW : DataW.Whole enc Tryd.prog Tryd.f8.params.toList Rows.frameTurnedSpec.vars false W args.toList ds gs before)
    (hsz0 : (DataW.weightsEach Tryd.prog (Tryd.f8.params.toList ++ Rows.frameTurnedSpec.plain.varTypes Tryd.prog) (ds ++ gs)).all (· ≤ reachBytes) = true)
    (hL : laidMetH Tryd.prog Rows.frameTurnedRow.laid W) :
    Calls Tryd.prog 8 args W fun e W' => ∃ v, e = .returned v ∧ Rows.frameTurnedSpec.post enc Tryd.prog Tryd.f8 false true false false W args v W' := by
  have hT : TabW W := tabW_of_laid hL
  have hval : ∀ (j : Nat) t v, Tryd.f8.params[j]? = some t → args[j]? = some v → Value.okWide Tryd.prog W .any base t v := hval0
  have hW' := hW
  obtain ⟨p, q, hA0, hV, rfl, hfz, hnd⟩ := hW
  have hA : DataW.TrodAll enc Tryd.prog W 0 (fun _ => true) true Tryd.f8.params.toList args.toList ds p := hA0
  rw [Tryd.params8] at hA hval
  obtain ⟨v0, vs0, d0, ds0, p0, q0, hargs, rfl, rfl, h0, r0⟩ := trodAll_cons hA
  obtain ⟨v1, vs1, d1, ds1, p1, q1, rfl, rfl, rfl, h1, r1⟩ := trodAll_cons r0
  obtain ⟨v2, vs2, d2, ds2, p2, q2, rfl, rfl, rfl, h2, r2⟩ := trodAll_cons r1
  obtain ⟨rfl, rfl, rfl⟩ := trodAll_nil r2
  obtain rfl : args = #[v0, v1, v2] := by cases args; simp_all
  obtain ⟨rfl, rfl⟩ := trodVars_none hV
  obtain ⟨a0, len0, cap0, rfl⟩ := okWide_slice Tryd.underlying22 (hval 0 22 v0 rfl rfl)
  have k0 := h0
  have lt0 : ∀ x ∈ p0, x.block < W.heap.size := by obtain ⟨m, hm⟩ := k0; exact DataW.trod_lt m _ _ _ hm
  obtain ⟨z0, w0⟩ : ∃ zs, IsRow .u8 W a0 len0 cap0 zs := by
    obtain ⟨fuel, hf⟩ := h0
    rcases open_ints Tryd.underlying22 Tryd.underlying5 (by kernel_rfl) hf with ⟨hcs, _⟩ | ⟨x, l, c, zs, hcs, _, hl, hm, hz, _, hcell, hwz⟩
    · simp [Value.cells] at hcs
      obtain ⟨rfl, rfl, rfl⟩ := hcs
      exact ⟨[], .inl ⟨rfl, rfl, rfl, rfl⟩⟩
    · simp [Value.cells] at hcs
      obtain ⟨rfl, rfl, rfl⟩ := hcs
      exact ⟨zs, .inr ⟨_, rfl, hl, hm, by simpa using hz, hcell, hwz⟩⟩
  obtain ⟨a1, rfl, rfl, rfl, w1⟩ := open_int Tryd.underlying3 (hval 1 3 v1 rfl rfl) h1
  obtain ⟨a2, rfl, rfl, rfl, w2⟩ := open_int Tryd.underlying43 (hval 2 43 v2 rfl rfl) h2
  clear hA0 hval0
  refine (walk a0 len0 cap0 z0 a1 a2 W hT w0 w1 w2).mono fun e W' ⟨he, bel⟩ => ?_
  subst he
  exact ⟨_, rfl, _, _, _, [], _, [], hW', trodAll_mk1 (shut_bool Tryd.underlying4 _), (trodAll_cons_mk (Below.trod laidOut (by kernel_rfl) (of_decide_eq_true (by kernel_rfl)) k0 bel lt0) (trodAll_cons_mk (shut_int Tryd.underlying3 w1) (trodAll_cons_mk (shut_int Tryd.underlying43 w2) trodAll_mk0))), rfl, bel.frame _, fun h => by cases h⟩

theorem laid_met (os : Os) : laidMet Tryd.prog Rows.frameTurnedRow.laid ((laidWorld os).forCall (fun _ _ => 0) ⟨#[], #[.slice none 0 0, .int .i64 0, .int .u32 0], []⟩).memory :=
  laidMet_of_run' 8 (by kernel_rfl) (by kernel_rfl)
theorem reads (os : Os) {H : Type} (enc : TypeId × Value → H) : ∃ places, DataW.whole enc Tryd.prog ((laidWorld os).forCall (fun _ _ => 0) ⟨#[], #[.slice none 0 0, .int .i64 0, .int .u32 0], []⟩).memory Tryd.f8.params.toList Rows.frameTurnedSpec.vars false (#[.slice none 0 0, .int .i64 0, .int .u32 0] : Array Value).toList 8 = some ([.nil, .lit (.int .i64 0), .lit (.int .u32 0)], [], places) :=
  ⟨[], by kernel_rfl⟩

set_option maxRecDepth 100000 in
theorem lifted (os : Os) (started : os.Started) (H : Type) (enc : TypeId × Value → H) (F : Stop.Interp) :
    ReturnsInHanded {} Tryd.checked os 8 .any ((OpenSpec.ofChange Rows.frameTurnedSpec).preRow enc Tryd.prog Tryd.f8 Rows.frameTurnedRow.domain false Rows.frameTurnedRow.laid) (((OpenSpec.ofChange Rows.frameTurnedSpec).at F).post enc Tryd.prog Tryd.f8 false true false false) := by
  obtain ⟨places, hx⟩ := reads os enc
  refine returnsInHanded_of_row (C := Tryd.checked) (s := OpenSpec.ofChange Rows.frameTurnedSpec) own started (by kernel_rfl) Tryd.func8
    (witness_row_at (enc := enc) (C := Tryd.checked) false (laidWorld os) #[.slice none 0 0, .int .i64 0, .int .u32 0] rfl (by kernel_rfl) (by kernel_rfl) (by kernel_rfl)
      (OpenSpec.preRow_of_cond 8 hx (by kernel_rfl) (fun k hk => by cases hk) (by kernel_rfl) (laid_met os))) ?_
  intro W base args ds gs before hval hW _ _ hsz hL _ _
  exact contract H enc W base args ds gs before hval hW hsz hL

theorem said : Rows.FrameTurnedSaid :=
  OpenClaim.holds_of_cond 8 Tryd.f8 rfl rfl rfl rfl rfl rfl rfl ⟨rfl, rfl, rfl, rfl, rfl⟩ rfl rfl rfl rfl rfl (by kernel_rfl) Tryd.func8 (by kernel_rfl)
    (of_decide_eq_true (by kernel_rfl)) (by unfold Func.isWrapper; first | (rw [if_pos (by decide +kernel)]; kernel_rfl) | (rw [if_neg (by decide +kernel)]; exact ⟨rfl, rfl⟩))
    (fun os started H enc _ F => by rw [OpenClaim.pre_eq_preRow]; exact lifted os started H enc F)

theorem plain (f : FuncId) (fn : Func) (hf : Tryd.pinned.checked.prog.funcNamed "gemel/gemellaw03.FrameTurned" = some f) (hfn : Tryd.pinned.checked.prog.funcs[f]? = some fn) :
    false = Tryd.pinned.checked.prog.looks [] ∧ ∀ (j : Nat) t, fn.params[j]? = some t → Tryd.pinned.checked.prog.wantsStandIn t = false := by
  obtain rfl : f = 8 := Option.some.inj ((show Tryd.prog.funcNamed "gemel/gemellaw03.FrameTurned" = some 8 by kernel_rfl).symm.trans hf) |>.symm
  obtain rfl : fn = Tryd.f8 := (Option.some.inj (Tryd.func8.symm.trans hfn)).symm
  refine ⟨by kernel_rfl, fun j t ht => ?_⟩
  rw [Tryd.params8] at ht
  have hm := Array.mem_of_getElem? ht
  simp at hm
  first
    | (obtain rfl := hm; exact (show Tryd.prog.wantsStandIn _ = false by kernel_rfl))
    | (rcases hm with rfl | rfl <;> exact (show Tryd.prog.wantsStandIn _ = false by kernel_rfl))
    | (rcases hm with rfl | rfl | rfl <;> exact (show Tryd.prog.wantsStandIn _ = false by kernel_rfl))

theorem proved : Rows.FrameTurnedCardSaid :=
  Claim7.holds_tied_plain_at .later [] _ _ _ _ said (fun _ h => by cases h) (by kernel_rfl) (fun _ h => by cases h) frameTurned_row_tie rfl ⟨rfl, rfl⟩ (by kernel_rfl) rfl plain (by kernel_rfl)
#print axioms proved
end Go.Proofs.YticcmhgahbnboaaDoor.frameTurned
