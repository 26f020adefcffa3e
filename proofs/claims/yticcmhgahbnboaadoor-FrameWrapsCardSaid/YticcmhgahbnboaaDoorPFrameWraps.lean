/-
  Proved: gemel/gemellaw03.FrameWraps answers true for every input, and leaves its arguments as they were; the two tables of math/bits that its row lists hold what the program's text lays (the card ties them to a pruned copy of the project).
-/
import Derived.Test.YticcmhgahbnboaaDoorCards
import Derived.Test.YticcmhgahbnboaaDoorTie
import Derived.WalkKit
import Derived.ProofKit
import Derived.OpenShut
import Derived.ShutString
import Derived.ChangeOld
import Derived.Below
import Derived.SizedLaws
import Derived.Deep.DeepHandedRow
import Derived.Test.YticcmhgahbnboaaDoorTb
import Derived.Test.YticcmhgahbnboaaDoorRd
import Derived.Test.YticcmhgahbnboaaDoorFL
namespace Go.Proofs.YticcmhgahbnboaaDoor.frameWraps
open Go.ChangeShapes Go.WideShapes Go.ChangeAt Go.RowKit
open Go.ChangeMaps (open_string shut_string)
set_option linter.unusedVariables false

theorem own : ownKnob Tryd.prog.godebug = none := by kernel_rfl
theorem laidOut : laidOutB Tryd.prog = true := by kernel_rfl

set_option maxHeartbeats 1600000 in
theorem walk (a0 : Option Addr) (len0 cap0 : Nat) (z0 : List Int) (w : World) (hT : TabW w) (w0 : IsRow .u8 w a0 len0 cap0 z0) (rc0 : cap0 * 1 ≤ 140737488351232) :
    Calls Tryd.prog 3 #[.slice a0 len0 cap0] w fun e w' => e = .returned (.bool true) ∧ Below w.heap.size w w' := by
  -- SIZED
  obtain ⟨l, hb⟩ := w0.bys
  clear w0
  obtain rfl : l.length = len0 := hb.len
  have hle := hb.le
  have hlt : (l.length : Int) ≤ 9223372036854775807 := by omega
  by_cases h1 : 20000 < l.length
  · have hd1 : decide ((20000 : Int) < (l.length : Int)) = true := by simp; omega
    by_cases h2 : l.length ≤ 1048576
    · have hd2 : decide ((l.length : Int) ≤ 1048576) = true := by simp; omega
      clear h1 h2
      go_enter Tryd.func3, Tryd.ntmps3
      go_wp2_with (go_at_call 13; refine (lives_c hT).mono ?_; rintro e w' ⟨rfl, hbl⟩)
      go_ret
      exact ⟨rfl, hbl⟩
    · have hd2 : decide ((l.length : Int) ≤ 1048576) = false := by simp; omega
      have hbig : 1048576 < l.length := by omega
      obtain ⟨i0, hi, hz0, hz1, hz2⟩ := info_parts Tryd.info5
      have hba := hb.below ((Below.refl w.heap.size w).alloc (Nat.le_refl _) (.cells #[] 5))
      have hoe := OwnB.empty w w.heap.size 5 (Nat.le_refl _)
      clear h1 h2
      go_enter Tryd.func3, Tryd.ntmps3
      go_wp2_with (at_builtin; refine wpList_append_bys rfl (.tmp 13) (.tmp 14) 22 rfl Tryd.underlying22 hi hz0 hz1 hz2 rfl rfl hoe rfl hba (by simp; omega) (by simp) ?_; intro v1 w1 ho1 hg1)
      have hbel1 : Below w.heap.size w w1 := ((Below.refl w.heap.size w).alloc (Nat.le_refl _) (.cells #[] 5)).grown hg1 (by simp) (fun k hk => (hoe.lt k hk).1)
      rw [List.nil_append] at ho1
      obtain ⟨av1, c1, rfl, hb1⟩ := ho1.bys
      clear hoe hba hg1 ho1
      have hbd : Below w.heap.size w w1.drew := hbel1.drew
      have hTd := hT.below hbd
      have k0 : (convert 22 9 (.slice none 0 0)).run Tryd.prog w1.drew = .ok (.string (text [])) w1.drew := conv_bys (bys_nil _) Tryd.underlying22 Tryd.underlying5 Tryd.underlying9
      have k1 := conv_bys (P := Tryd.prog) (hb1.below (Below.refl _ _).drew) Tryd.underlying22 Tryd.underlying5 Tryd.underlying9
      have k2 := conv_bys (P := Tryd.prog) (hb.below hbd) Tryd.underlying22 Tryd.underlying5 Tryd.underlying9
      go_wp2
      go_region_with (first
        | (go_at_call 14; refine (wrap_big hbig (by omega)).mono ?_; rintro e w2 ⟨rfl, rfl⟩)
        | (go_at_call 15; refine (rwrap_big hbig (by omega)).mono ?_; rintro e w2 ⟨rfl, rfl⟩)
        | (go_at_call 13; refine (lives_c hTd).mono ?_; rintro e w3 ⟨rfl, hb3⟩; have hb13 := hbd.trans (hb3.mono hbd.size)))
      all_goals go_wp2
      all_goals go_ret
      all_goals exact ⟨rfl, by assumption⟩
  · have hd1 : decide ((20000 : Int) < (l.length : Int)) = false := by simp; omega
    obtain ⟨i0, hi, hz0, hz1, hz2⟩ := info_parts Tryd.info5
    have hba := hb.below ((Below.refl w.heap.size w).alloc (Nat.le_refl _) (.cells #[] 5))
    have hoe := OwnB.empty w w.heap.size 5 (Nat.le_refl _)
    have hn20 : l.length ≤ 100000 := by omega
    clear h1
    go_enter Tryd.func3, Tryd.ntmps3
    go_wp2_with (at_builtin; refine wpList_append_bys rfl (.tmp 13) (.tmp 14) 22 rfl Tryd.underlying22 hi hz0 hz1 hz2 rfl rfl hoe rfl hba (by simp; omega) (by simp) ?_; intro v1 w1 ho1 hg1)
    have hbel1 : Below w.heap.size w w1 := ((Below.refl w.heap.size w).alloc (Nat.le_refl _) (.cells #[] 5)).grown hg1 (by simp) (fun k hk => (hoe.lt k hk).1)
    rw [List.nil_append] at ho1
    obtain ⟨av1, c1, rfl, hb1⟩ := ho1.bys
    clear hoe hba hg1 ho1
    have hbd : Below w.heap.size w w1.drew := hbel1.drew
    have hb1d : Bys w1.drew av1 l.length c1 l := hb1.below (Below.refl _ _).drew
    have hTd := hT.below hbd
    clear hb1
    go_wp2
    go_region_with (first
      | (go_at_call 14; refine (wrap_c hb1d hn20 hTd).mono ?_; rintro e w2 ⟨v2, rfl, ho2, hbv2⟩; obtain ⟨av2, c2, hve2, hb2⟩ := ho2.bys; subst hve2; have k1 := conv_bys (P := Tryd.prog) hb2 Tryd.underlying22 Tryd.underlying5 Tryd.underlying9; have hbw2 : Below w.heap.size w w2 := hbd.trans (hbv2.mono hbd.size); have hbb2 := hb.below hbw2; have hown2 := hb1d.below hbv2)
      | (go_at_call 15; refine (rwrap_c hbb2 hn20).mono ?_; rintro e w3 ⟨v3, rfl, ho3, hbv3⟩; obtain ⟨av3, c3, hve3, hb3⟩ := ho3.bys; subst hve3; have k2 := conv_bys (P := Tryd.prog) hb3 Tryd.underlying22 Tryd.underlying5 Tryd.underlying9; have k3 := conv_bys (P := Tryd.prog) (hb2.below hbv3) Tryd.underlying22 Tryd.underlying5 Tryd.underlying9; have hbw3 : Below w.heap.size w w3 := hbw2.trans (hbv3.mono hbw2.size); have k4 := conv_bys (P := Tryd.prog) (hown2.below hbv3) Tryd.underlying22 Tryd.underlying5 Tryd.underlying9; have k5 := conv_bys (P := Tryd.prog) (hbb2.below hbv3) Tryd.underlying22 Tryd.underlying5 Tryd.underlying9; have hT3 := hT.below hbw3)
      | (go_at_call 13; refine (lives_c hT3).mono ?_; rintro e w4 ⟨rfl, hbv4⟩; have hbw4 := hbw3.trans (hbv4.mono hbw3.size)))
    all_goals go_wp2
    all_goals go_ret
    all_goals exact ⟨rfl, by assumption⟩

set_option maxRecDepth 100000 in
theorem contract (H : Type) (enc : TypeId × Value → H) (W : World) (base : Nat) (args : Array Value) (ds gs : List (DataW H)) (before : List MemPlace)
    (hval0 : ∀ (j : Nat) t v, Tryd.f3.params[j]? = some t → args[j]? = some v → Value.okWide Tryd.prog W .any base t v)
    (hW : DataW.Whole enc Tryd.prog Tryd.f3.params.toList Rows.frameWrapsSpec.vars false W args.toList ds gs before)
    (hsz0 : (DataW.weightsEach Tryd.prog (Tryd.f3.params.toList ++ Rows.frameWrapsSpec.plain.varTypes Tryd.prog) (ds ++ gs)).all (· ≤ reachBytes) = true)
    (hL : laidMetH Tryd.prog Rows.frameWrapsRow.laid W) :
    Calls Tryd.prog 3 args W fun e W' => ∃ v, e = .returned v ∧ Rows.frameWrapsSpec.post enc Tryd.prog Tryd.f3 false true false false W args v W' := by
  have hT : TabW W := tabW_of_laid hL
  have hsz : (DataW.weightsEach Tryd.prog (Tryd.f3.params.toList ++ Rows.frameWrapsSpec.plain.varTypes Tryd.prog) (ds ++ gs)).all (· ≤ reachBytes) = true := hsz0
  have hval : ∀ (j : Nat) t v, Tryd.f3.params[j]? = some t → args[j]? = some v → Value.okWide Tryd.prog W .any base t v := hval0
  have hW' := hW
  obtain ⟨p, q, hA0, hV, rfl, hfz, hnd⟩ := hW
  have hA : DataW.TrodAll enc Tryd.prog W 0 (fun _ => true) true Tryd.f3.params.toList args.toList ds p := hA0
  rw [Tryd.params3] at hA hval hsz
  obtain ⟨v0, vs0, d0, ds0, p0, q0, hargs, rfl, rfl, h0, r0⟩ := trodAll_cons hA
  obtain ⟨rfl, rfl, rfl⟩ := trodAll_nil r0
  obtain rfl : args = #[v0] := by cases args; simp_all
  obtain ⟨rfl, rfl⟩ := trodVars_none hV
  obtain ⟨a0, len0, cap0, rfl⟩ := okWide_slice Tryd.underlying22 (hval 0 22 v0 rfl rfl)
  have k0 := h0
  have lt0 : ∀ x ∈ p0, x.block < W.heap.size := by obtain ⟨m, hm⟩ := k0; exact DataW.trod_lt m _ _ _ hm
  obtain ⟨z0, w0, rc0⟩ : ∃ zs, IsRow .u8 W a0 len0 cap0 zs ∧ cap0 * 1 ≤ 140737488351232 := by
    obtain ⟨fuel, hf⟩ := h0
    rcases open_ints Tryd.underlying22 Tryd.underlying5 (by kernel_rfl) hf with ⟨hcs, _⟩ | ⟨x, l, c, zs, hcs, _, hl, hm, hz, hx, hcell, hwz⟩
    · simp [Value.cells] at hcs
      obtain ⟨rfl, rfl, rfl⟩ := hcs
      exact ⟨[], .inl ⟨rfl, rfl, rfl, rfl⟩, by omega⟩
    · simp [Value.cells] at hcs
      obtain ⟨rfl, rfl, rfl⟩ := hcs
      simp only [Prod.mk.injEq] at hx
      have hdx := hx.1
      subst hdx
      have hrr := sized_slice hsz (j := 0) (t := 22) (e := 5) rfl rfl Tryd.underlying22
      rw [show Tryd.prog.bytesOf 5 = 1 by kernel_rfl] at hrr
      simp only [lits, List.length_map, List.length_take, List.length_drop, reachBytes] at hrr
      have hz2 : zs.length = cap0 := by simpa using hz
      exact ⟨zs, .inr ⟨_, rfl, hl, hm, hz2, hcell, hwz⟩, by omega⟩
  clear hA0 hval0
  refine (walk a0 len0 cap0 z0 W hT w0 rc0).mono fun e W' ⟨he, bel⟩ => ?_
  subst he
  exact ⟨_, rfl, _, _, _, [], _, [], hW', trodAll_mk1 (shut_bool Tryd.underlying4 _), (trodAll_cons_mk (Below.trod laidOut (by kernel_rfl) (of_decide_eq_true (by kernel_rfl)) k0 bel lt0) trodAll_mk0), rfl, bel.frame _, fun h => by cases h⟩

theorem laid_met (os : Os) : laidMet Tryd.prog Rows.frameWrapsRow.laid ((laidWorld os).forCall (fun _ _ => 0) ⟨#[], #[.slice none 0 0], []⟩).memory :=
  laidMet_of_run' 8 (by kernel_rfl) (by kernel_rfl)
theorem reads (os : Os) {H : Type} (enc : TypeId × Value → H) : ∃ places, DataW.whole enc Tryd.prog ((laidWorld os).forCall (fun _ _ => 0) ⟨#[], #[.slice none 0 0], []⟩).memory Tryd.f3.params.toList Rows.frameWrapsSpec.vars false (#[.slice none 0 0] : Array Value).toList 8 = some ([.nil], [], places) :=
  ⟨[], by kernel_rfl⟩

set_option maxRecDepth 100000 in
theorem lifted (os : Os) (started : os.Started) (H : Type) (enc : TypeId × Value → H) (F : Stop.Interp) :
    ReturnsInHanded {} Tryd.checked os 3 .any ((OpenSpec.ofChange Rows.frameWrapsSpec).preRow enc Tryd.prog Tryd.f3 Rows.frameWrapsRow.domain false Rows.frameWrapsRow.laid) (((OpenSpec.ofChange Rows.frameWrapsSpec).at F).post enc Tryd.prog Tryd.f3 false true false false) := by
  obtain ⟨places, hx⟩ := reads os enc
  refine returnsInHanded_of_row (C := Tryd.checked) (s := OpenSpec.ofChange Rows.frameWrapsSpec) own started (by kernel_rfl) Tryd.func3
    (witness_row_at (enc := enc) (C := Tryd.checked) false (laidWorld os) #[.slice none 0 0] rfl (by kernel_rfl) (by kernel_rfl) (by kernel_rfl)
      (OpenSpec.preRow_of_cond 8 hx (by kernel_rfl) (fun k hk => by cases hk) (by kernel_rfl) (laid_met os))) ?_
  intro W base args ds gs before hval hW _ _ hsz hL _ _
  exact contract H enc W base args ds gs before hval hW hsz hL

theorem said : Rows.FrameWrapsSaid :=
  OpenClaim.holds_of_cond 3 Tryd.f3 rfl rfl rfl rfl rfl rfl rfl ⟨rfl, rfl, rfl, rfl, rfl⟩ rfl rfl rfl rfl rfl (by kernel_rfl) Tryd.func3 (by kernel_rfl)
    (of_decide_eq_true (by kernel_rfl)) (by unfold Func.isWrapper; first | (rw [if_pos (by decide +kernel)]; kernel_rfl) | (rw [if_neg (by decide +kernel)]; exact ⟨rfl, rfl⟩))
    (fun os started H enc _ F => by rw [OpenClaim.pre_eq_preRow]; exact lifted os started H enc F)

theorem plain (f : FuncId) (fn : Func) (hf : Tryd.pinned.checked.prog.funcNamed "gemel/gemellaw03.FrameWraps" = some f) (hfn : Tryd.pinned.checked.prog.funcs[f]? = some fn) :
    false = Tryd.pinned.checked.prog.looks [] ∧ ∀ (j : Nat) t, fn.params[j]? = some t → Tryd.pinned.checked.prog.wantsStandIn t = false := by
  obtain rfl : f = 3 := Option.some.inj ((show Tryd.prog.funcNamed "gemel/gemellaw03.FrameWraps" = some 3 by kernel_rfl).symm.trans hf) |>.symm
  obtain rfl : fn = Tryd.f3 := (Option.some.inj (Tryd.func3.symm.trans hfn)).symm
  refine ⟨by kernel_rfl, fun j t ht => ?_⟩
  rw [Tryd.params3] at ht
  have hm := Array.mem_of_getElem? ht
  simp at hm
  first
    | (obtain rfl := hm; exact (show Tryd.prog.wantsStandIn _ = false by kernel_rfl))
    | (rcases hm with rfl | rfl <;> exact (show Tryd.prog.wantsStandIn _ = false by kernel_rfl))
    | (rcases hm with rfl | rfl | rfl <;> exact (show Tryd.prog.wantsStandIn _ = false by kernel_rfl))

theorem proved : Rows.FrameWrapsCardSaid :=
  Claim7.holds_tied_plain_at .later [] _ _ _ _ said (fun _ h => by cases h) (by kernel_rfl) (fun _ h => by cases h) frameWraps_row_tie rfl ⟨rfl, rfl⟩ (by kernel_rfl) rfl plain (by kernel_rfl)
#print axioms proved
end Go.Proofs.YticcmhgahbnboaaDoor.frameWraps
