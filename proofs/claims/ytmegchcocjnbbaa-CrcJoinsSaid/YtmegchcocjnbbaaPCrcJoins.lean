/-
  Proved: gemel/gemellaw02.CrcJoins answers true for every two byte slices and every int, without condition, and leaves its arguments as they were.
-/
import Derived.Test.YtmegchcocjnbbaaRows
import Derived.WalkKit
import Derived.ProofKit
import Derived.OpenShut
import Derived.ShutString
import Derived.ChangeOld
import Derived.Below
import Derived.SizedLaws
import Derived.Test.YtmegchcocjnbbaaRd
import Derived.Test.YtmegchcocjnbbaaCF
import Derived.Test.YtmegchcocjnbbaaCJ
namespace Go.Proofs.Ytmegchcocjnbbaa.crcJoins
open Go.ChangeShapes Go.WideShapes Go.ChangeAt Go.RowKit
open Go.ChangeMaps (open_string shut_string)
set_option linter.unusedVariables false

theorem own : ownKnob Try.prog.godebug = none := by kernel_rfl
theorem laidOut : laidOutB Try.prog = true := by kernel_rfl

/-! ### STEP 1: THE WALK: the Go text returns true, AND WRITES NOTHING THAT WAS THERE: 'Below w.heap.size w w'' (Derived/Below.lean: '.refl', '.alloc', '.drew', '.setCell' at a new block, '.trans'). Open each 'IsRow' by 'rcases' AHEAD of 'go_enter'; part every test ahead of the walk. -/
set_option maxHeartbeats 1600000 in
theorem walk (a0 : Option Addr) (len0 cap0 : Nat) (z0 : List Int) (a1 : Option Addr) (len1 cap1 : Nat) (z1 : List Int) (a2 : Int) (w : World) (w0 : IsRow .u8 w a0 len0 cap0 z0) (w1 : IsRow .u8 w a1 len1 cap1 z1) (w2 : (Lit.int .i64 a2).wf = true) (rc0 : cap0 * 1 ≤ 140737488351232) (rc1 : cap1 * 1 ≤ 140737488351232) :
    Calls Try.prog 8 #[.slice a0 len0 cap0, .slice a1 len1 cap1, .int .i64 a2] w fun e w' => e = .returned (.bool true) ∧ Below w.heap.size w w' := by
  -- SIZED
  obtain ⟨l, hb⟩ := w0.bys
  obtain ⟨m, hm⟩ := w1.bys
  have hn := i64_of_wf w2
  clear w0 w1 w2
  obtain rfl : l.length = len0 := hb.len
  obtain rfl : m.length = len1 := hm.len
  have hlt : (l.length : Int) ≤ 140737488351232 := by have := hb.le; omega
  have hlt1 : (m.length : Int) ≤ 140737488351232 := by have := hm.le; omega
  by_cases h5 : 5000 < l.length + m.length
  · have hd : decide ((5000 : Int) < (l.length : Int) + (m.length : Int)) = true := by simp; omega
    go_enter Try.func8, Try.ntmps8
    go_wp2_with (go_at_call 16; refine (lives_c _).mono ?_; rintro e w' ⟨rfl, o, rfl⟩)
    go_ret
    exact ⟨rfl, (Below.refl _ _).alloc (Nat.le_refl _) _⟩
  have hd : decide ((5000 : Int) < (l.length : Int) + (m.length : Int)) = false := by simp; omega
  obtain ⟨i0, hi, hz0, hz1, hz2⟩ := info_parts Try.info5
  have hba := hb.below ((Below.refl w.heap.size w).alloc (Nat.le_refl _) (.cells #[] 5))
  have hoe := OwnB.empty w w.heap.size 5 (Nat.le_refl _)
  have HJ := Lib.hid (join_sum l m)
  have hz32 : (I 0#32 == 0) = true := by decide
  have heq : (I (ups (8 * m.length) (sumS l) ^^^ sumS m) == I (sumS (l ++ m))) = true := by rw [HJ.out]; simp
  by_cases hin : 0 ≤ a2 ∧ a2 ≤ 65536
  · obtain ⟨hin1, hin2⟩ := hin
    go_enter Try.func8, Try.ntmps8
    go_wp2_with (first
      | (at_builtin; refine wpList_append_bys rfl (.tmp 23) (.tmp 24) 22 rfl Try.underlying22 hi hz0 hz1 hz2 rfl rfl hoe rfl hba (by simp; omega) (by simp) ?_; intro v1 w1 ho1 hg1; have b1 : Below w.heap.size w w1 := ((Below.refl w.heap.size w).alloc (Nat.le_refl _) (.cells #[] 5)).grown hg1 (by simp) (fun k hk => (hoe.lt k hk).1); have hm1 := hm.below b1)
      | (at_builtin; refine wpList_append_bys rfl (.tmp 25) (.tmp 26) 22 rfl Try.underlying22 hi hz0 hz1 hz2 rfl rfl ho1 rfl hm1 (by simp; omega) b1.size ?_; intro v2 w2 ho2 hg2; have b2 : Below w.heap.size w w2 := b1.grown hg2 b1.size (fun k hk => (ho1.lt k hk).1); obtain ⟨av, cv, rfl, hbv0⟩ := ho2.bys; have hbv : Bys w2 av (l.length + m.length) cv (l ++ m) := (by rw [List.nil_append, List.length_append] at hbv0; exact hbv0); have tok : True := trivial)
      | (go_at_call_of 17 a0; refine (sum_c (hb.below ?_)).mono ?_; assumption; rintro e w' ⟨rfl, rfl⟩)
      | (go_at_call_of 17 a1; refine (sum_c (hm.below ?_)).mono ?_; assumption; rintro e w' ⟨rfl, rfl⟩)
      | (go_at_call_of 17 av; refine (sum_c (hbv.below ?_)).mono ?_; assumption; rintro e w' ⟨rfl, rfl⟩)
      | (go_at_call 25; have _t := tok; refine (join_c (sumS l) (sumS m) m.length (by omega) _).mono ?_; rintro e w3 ⟨rfl, hj3⟩; have b3 : Below w.heap.size w w3 := b2.trans (hj3.mono b2.size); clear tok)
      | (go_at_call 25; refine (join_no (sumS l) (sumS m) _ (by omega) (by omega) (by omega) _).mono ?_; rintro e w4 ⟨rfl, hj4⟩; have b4 : Below w.heap.size w w4 := b3.trans (hj4.mono b3.size))
      | (go_at_call 16; refine (lives_c _).mono ?_; rintro e w' ⟨rfl, o, rfl⟩))
    go_ret
    exact ⟨rfl, b4.alloc b4.size _⟩
  · by_cases hneg : a2 < 0
    · clear hin
      go_enter Try.func8, Try.ntmps8
      go_wp2_with (first
        | (at_builtin; refine wpList_append_bys rfl (.tmp 23) (.tmp 24) 22 rfl Try.underlying22 hi hz0 hz1 hz2 rfl rfl hoe rfl hba (by simp; omega) (by simp) ?_; intro v1 w1 ho1 hg1; have b1 : Below w.heap.size w w1 := ((Below.refl w.heap.size w).alloc (Nat.le_refl _) (.cells #[] 5)).grown hg1 (by simp) (fun k hk => (hoe.lt k hk).1); have hm1 := hm.below b1)
        | (at_builtin; refine wpList_append_bys rfl (.tmp 25) (.tmp 26) 22 rfl Try.underlying22 hi hz0 hz1 hz2 rfl rfl ho1 rfl hm1 (by simp; omega) b1.size ?_; intro v2 w2 ho2 hg2; have b2 : Below w.heap.size w w2 := b1.grown hg2 b1.size (fun k hk => (ho1.lt k hk).1); obtain ⟨av, cv, rfl, hbv0⟩ := ho2.bys; have hbv : Bys w2 av (l.length + m.length) cv (l ++ m) := (by rw [List.nil_append, List.length_append] at hbv0; exact hbv0); have tok : True := trivial)
        | (go_at_call_of 17 a0; refine (sum_c (hb.below ?_)).mono ?_; assumption; rintro e w' ⟨rfl, rfl⟩)
        | (go_at_call_of 17 a1; refine (sum_c (hm.below ?_)).mono ?_; assumption; rintro e w' ⟨rfl, rfl⟩)
        | (go_at_call_of 17 av; refine (sum_c (hbv.below ?_)).mono ?_; assumption; rintro e w' ⟨rfl, rfl⟩)
        | (go_at_call 25; have _t := tok; refine (join_c (sumS l) (sumS m) m.length (by omega) _).mono ?_; rintro e w3 ⟨rfl, hj3⟩; have b3 : Below w.heap.size w w3 := b2.trans (hj3.mono b2.size); clear tok)
        | (go_at_call 25; refine (join_no (sumS l) (sumS m) _ (by omega) (by omega) (by omega) _).mono ?_; rintro e w4 ⟨rfl, hj4⟩; have b4 : Below w.heap.size w w4 := b3.trans (hj4.mono b3.size))
        | (go_at_call 16; refine (lives_c _).mono ?_; rintro e w' ⟨rfl, o, rfl⟩))
      go_ret
      exact ⟨rfl, b4.alloc b4.size _⟩
    · have hbig : 65536 < a2 := by omega
      clear hin
      go_enter Try.func8, Try.ntmps8
      go_wp2_with (first
        | (at_builtin; refine wpList_append_bys rfl (.tmp 23) (.tmp 24) 22 rfl Try.underlying22 hi hz0 hz1 hz2 rfl rfl hoe rfl hba (by simp; omega) (by simp) ?_; intro v1 w1 ho1 hg1; have b1 : Below w.heap.size w w1 := ((Below.refl w.heap.size w).alloc (Nat.le_refl _) (.cells #[] 5)).grown hg1 (by simp) (fun k hk => (hoe.lt k hk).1); have hm1 := hm.below b1)
        | (at_builtin; refine wpList_append_bys rfl (.tmp 25) (.tmp 26) 22 rfl Try.underlying22 hi hz0 hz1 hz2 rfl rfl ho1 rfl hm1 (by simp; omega) b1.size ?_; intro v2 w2 ho2 hg2; have b2 : Below w.heap.size w w2 := b1.grown hg2 b1.size (fun k hk => (ho1.lt k hk).1); obtain ⟨av, cv, rfl, hbv0⟩ := ho2.bys; have hbv : Bys w2 av (l.length + m.length) cv (l ++ m) := (by rw [List.nil_append, List.length_append] at hbv0; exact hbv0); have tok : True := trivial)
        | (go_at_call_of 17 a0; refine (sum_c (hb.below ?_)).mono ?_; assumption; rintro e w' ⟨rfl, rfl⟩)
        | (go_at_call_of 17 a1; refine (sum_c (hm.below ?_)).mono ?_; assumption; rintro e w' ⟨rfl, rfl⟩)
        | (go_at_call_of 17 av; refine (sum_c (hbv.below ?_)).mono ?_; assumption; rintro e w' ⟨rfl, rfl⟩)
        | (go_at_call 25; have _t := tok; refine (join_c (sumS l) (sumS m) m.length (by omega) _).mono ?_; rintro e w3 ⟨rfl, hj3⟩; have b3 : Below w.heap.size w w3 := b2.trans (hj3.mono b2.size); clear tok)
        | (go_at_call 25; refine (join_no (sumS l) (sumS m) _ (by omega) (by omega) (by omega) _).mono ?_; rintro e w4 ⟨rfl, hj4⟩; have b4 : Below w.heap.size w w4 := b3.trans (hj4.mono b3.size))
        | (go_at_call 16; refine (lives_c _).mono ?_; rintro e w' ⟨rfl, o, rfl⟩))
      go_ret
      exact ⟨rfl, b4.alloc b4.size _⟩

/-! ### THE ROW's STEP: WRITTEN OUT: LEAVE IT -/
set_option maxRecDepth 100000 in
theorem lifted (os : Os) (started : os.Started) (H : Type) (enc : TypeId × Value → H) :
    ReturnsInHanded {} Try.checked os 8 .any (Rows.crcJoinsSpec.pre6 enc Try.prog Try.f8 Rows.crcJoinsRow.domain false) (Rows.crcJoinsSpec.post enc Try.prog Try.f8 false true false false) := by
  refine returnsInHanded_of_change_sized (C := Try.checked) own started (by kernel_rfl) Try.func8
    (ChangeSpec.witness6 (enc := enc) (C := Try.checked) false ⟨#[], #[.slice none 0 0, .slice none 0 0, .int .i64 0], []⟩ 8 (by kernel_rfl) (by kernel_rfl) (by kernel_rfl) (by kernel_rfl)) ?_
  intro W base args ds gs before hval0 hW hcnd hsz0 _
  have hsz : (DataW.weightsEach Try.prog (Try.f8.params.toList ++ Rows.crcJoinsSpec.plain.varTypes Try.prog) (ds ++ gs)).all (· ≤ reachBytes) = true := hsz0
  have hval : ∀ (j : Nat) t v, Try.f8.params[j]? = some t → args[j]? = some v → Value.okWide Try.prog W .any base t v := hval0
  have hW' := hW
  obtain ⟨p, q, hA0, hV, rfl, hfz, hnd⟩ := hW
  have hA : DataW.TrodAll enc Try.prog W 0 (fun _ => true) true Try.f8.params.toList args.toList ds p := hA0
  rw [Try.params8] at hA hval hsz
  obtain ⟨v0, vs0, d0, ds0, p0, q0, hargs, rfl, rfl, h0, r0⟩ := trodAll_cons hA
  obtain ⟨v1, vs1, d1, ds1, p1, q1, rfl, rfl, rfl, h1, r1⟩ := trodAll_cons r0
  obtain ⟨v2, vs2, d2, ds2, p2, q2, rfl, rfl, rfl, h2, r2⟩ := trodAll_cons r1
  obtain ⟨rfl, rfl, rfl⟩ := trodAll_nil r2
  obtain rfl : args = #[v0, v1, v2] := by cases args; simp_all
  obtain ⟨rfl, rfl⟩ := trodVars_none hV
  obtain ⟨a0, len0, cap0, rfl⟩ := okWide_slice Try.underlying22 (hval 0 22 v0 rfl rfl)
  have k0 := h0
  have lt0 : ∀ x ∈ p0, x.block < W.heap.size := by obtain ⟨m, hm⟩ := k0; exact DataW.trod_lt m _ _ _ hm
  obtain ⟨z0, w0, rc0⟩ : ∃ zs, IsRow .u8 W a0 len0 cap0 zs ∧ cap0 * 1 ≤ 140737488351232 := by
    obtain ⟨fuel, hf⟩ := h0
    rcases open_ints Try.underlying22 Try.underlying5 (by kernel_rfl) hf with ⟨hcs, _⟩ | ⟨x, l, c, zs, hcs, _, hl, hm, hz, hx, hcell, hwz⟩
    · simp [Value.cells] at hcs
      obtain ⟨rfl, rfl, rfl⟩ := hcs
      exact ⟨[], .inl ⟨rfl, rfl, rfl, rfl⟩, by omega⟩
    · simp [Value.cells] at hcs
      obtain ⟨rfl, rfl, rfl⟩ := hcs
      simp only [Prod.mk.injEq] at hx
      have hdx := hx.1
      subst hdx
      have hrr := sized_slice hsz (j := 0) (t := 22) (e := 5) rfl rfl Try.underlying22
      rw [show Try.prog.bytesOf 5 = 1 by kernel_rfl] at hrr
      simp only [lits, List.length_map, List.length_take, List.length_drop, reachBytes] at hrr
      have hz2 : zs.length = cap0 := by simpa using hz
      exact ⟨zs, .inr ⟨_, rfl, hl, hm, hz2, hcell, hwz⟩, by omega⟩
  obtain ⟨a1, len1, cap1, rfl⟩ := okWide_slice Try.underlying22 (hval 1 22 v1 rfl rfl)
  have k1 := h1
  have lt1 : ∀ x ∈ p1, x.block < W.heap.size := by obtain ⟨m, hm⟩ := k1; exact DataW.trod_lt m _ _ _ hm
  obtain ⟨z1, w1, rc1⟩ : ∃ zs, IsRow .u8 W a1 len1 cap1 zs ∧ cap1 * 1 ≤ 140737488351232 := by
    obtain ⟨fuel, hf⟩ := h1
    rcases open_ints Try.underlying22 Try.underlying5 (by kernel_rfl) hf with ⟨hcs, _⟩ | ⟨x, l, c, zs, hcs, _, hl, hm, hz, hx, hcell, hwz⟩
    · simp [Value.cells] at hcs
      obtain ⟨rfl, rfl, rfl⟩ := hcs
      exact ⟨[], .inl ⟨rfl, rfl, rfl, rfl⟩, by omega⟩
    · simp [Value.cells] at hcs
      obtain ⟨rfl, rfl, rfl⟩ := hcs
      simp only [Prod.mk.injEq] at hx
      have hdx := hx.1
      subst hdx
      have hrr := sized_slice hsz (j := 1) (t := 22) (e := 5) rfl rfl Try.underlying22
      rw [show Try.prog.bytesOf 5 = 1 by kernel_rfl] at hrr
      simp only [lits, List.length_map, List.length_take, List.length_drop, reachBytes] at hrr
      have hz2 : zs.length = cap1 := by simpa using hz
      exact ⟨zs, .inr ⟨_, rfl, hl, hm, hz2, hcell, hwz⟩, by omega⟩
  obtain ⟨a2, rfl, rfl, rfl, w2⟩ := open_int Try.underlying3 (hval 2 3 v2 rfl rfl) h2
  clear hA0 hval0
  refine (walk a0 len0 cap0 z0 a1 len1 cap1 z1 a2 W w0 w1 w2 rc0 rc1).mono fun e W' ⟨he, bel⟩ => ?_
  subst he
  exact ⟨_, rfl, _, _, _, [], _, [], hW', trodAll_mk1 (shut_bool Try.underlying4 _), (trodAll_cons_mk (Below.trod laidOut (by kernel_rfl) (of_decide_eq_true (by kernel_rfl)) k0 bel lt0) (trodAll_cons_mk (Below.trod laidOut (by kernel_rfl) (of_decide_eq_true (by kernel_rfl)) k1 bel lt1) (trodAll_cons_mk (shut_int Try.underlying3 w2) trodAll_mk0))), rfl, bel.frame _, fun h => by cases h⟩

theorem over : Rows.crcJoinsRow.holds Try.pinned (OpenSpec.ofChange Rows.crcJoinsSpec) :=
  OpenClaim.holds_of_wide 8 Try.f8 rfl rfl rfl rfl rfl rfl rfl ⟨rfl, rfl, rfl, rfl, rfl⟩ rfl rfl rfl rfl rfl (by kernel_rfl) Try.func8 (by kernel_rfl)
    (of_decide_eq_true (by kernel_rfl)) (by unfold Func.isWrapper; first | (rw [if_pos (by decide +kernel)]; kernel_rfl) | (rw [if_neg (by decide +kernel)]; exact ⟨rfl, rfl⟩))
    (fun os started H enc _ => lifted os started H enc)

/-- ████ THE STATEMENT ████ -/
theorem proved : Rows.CrcJoinsSaid := over
#print axioms proved
end Go.Proofs.Ytmegchcocjnbbaa.crcJoins
