/-
  Disk: the reference: Append.
-/
import Derived.Test.YtplanmiggeghfaaDR8
import Derived.Shelf.Abstract
namespace Go.Proofs.Ytplanmiggeghfaa
open Go.RowKit Go Go.Sort Go.Maps Go.WideMaps
set_option linter.unusedVariables false
set_option maxRecDepth 20000

/-- The world while bytes are put behind a file's: before the store, behind it. -/
def RaW (w8 : World) (g i : Nat) (t : List UInt8) : Nat → World → Prop
  | 4, W => ∃ W3 ua m uc, Below w8.heap.size w8 W3 ∧ OwnB W3 w8.heap.size 5 (.slice ua m uc) t ∧ W = W3.setCell ⟨g, i * 3 + 1, none⟩ (.slice ua m uc)
  | _, W => Below w8.heap.size w8 W
def RaV (vals : List (Option Value)) (i : Nat) (v : Value) : Prop := ∀ x, vals.getD i none = some x → v = x
def RaE (B : Nat) (fb l : List UInt8) (L : Nat → Bool) (xs : Nat → Value) (W : World) : Prop :=
  (L 5 = true → L 14 = false → EmptyV B (xs 5) W) ∧ (L 14 = true → L 16 = false → OwnB W B 5 (xs 14) fb) ∧ (L 16 = true → L 19 = false → OwnB W B 5 (xs 16) (fb ++ l)) ∧ (L 14 = true → L 13 = true)
theorem RaE.pure {B : Nat} {fb l : List UInt8} {L : Nat → Bool} {xs : Nat → Value} {W : World} (h : RaE B fb l L xs W) {i : Nat} (v : Value) (h5 : i ≠ 5) (h14 : i ≠ 14) (h16 : i ≠ 16) (h19 : i ≠ 19) : RaE B fb l (fun j => if j = i then true else L j) (fun j => if j = i then v else xs j) W := by
  obtain ⟨a, b, c, d⟩ := h
  refine ⟨fun x y => ?_, fun x y => ?_, fun x y => ?_, fun x => ?_⟩
  · simp only [if_neg (Ne.symm h5), if_neg (Ne.symm h14)] at x y ⊢; exact a x y
  · simp only [if_neg (Ne.symm h14), if_neg (Ne.symm h16)] at x y ⊢; exact b x y
  · simp only [if_neg (Ne.symm h16), if_neg (Ne.symm h19)] at x y ⊢; exact c x y
  · simp only [if_neg (Ne.symm h14)] at x
    by_cases e : 13 = i
    · simp [e]
    · simp only [if_neg e]; exact d x
theorem InvQ.later {S : List Nat} {n : Nat} {V : Nat → Value → Prop} {R : Nat → World → Prop} {L : Nat → Bool} {xs : Nat → Value} {W : World} (h : InvQ S n V R L xs W) {j j' p p' : Nat} (hj : S[j]? = some p) (hj' : S[j']? = some p') (hjj : j ≤ j') (hL : L p = false) : L p' = false := by
  obtain ⟨k, hk, hs, -⟩ := h.stage
  cases hp : L p' with
  | false => rfl
  | true =>
    have h1 := (hs j' p' hj').1 hp
    have h2 := (hs j p hj).2 (by omega)
    rw [hL] at h2
    cases h2
theorem InvQ.before {n : Nat} {V : Nat → Value → Prop} {w8 : World} {g i : Nat} {t : List UInt8} {L : Nat → Bool} {xs : Nat → Value} {W : World} (h : InvQ [5, 14, 16, 19] n V (RaW w8 g i t) L xs W) (hL : L 19 = false) : Below w8.heap.size w8 W := by
  obtain ⟨k, hk, hs, hr⟩ := h.stage
  have h3 : ¬ 3 < k := fun h9 => by have := (hs 3 19 rfl).2 h9; rw [hL] at this; cases this
  rcases (by omega : k = 0 ∨ k = 1 ∨ k = 2 ∨ k = 3) with rfl | rfl | rfl | rfl <;> exact hr
theorem InvQ.q1 {n q gn cap : Nat} {V : Nat → Value → Prop} {w8 : World} {g i : Nat} {t : List UInt8} {FS : List Fr} {st : Ds} (hr0 : RefIn w8 q (.slice (some ⟨g, 0, none⟩) gn cap) FS st) {L : Nat → Bool} {xs : Nat → Value} {W : World} (h : InvQ [5, 14, 16, 19] n V (RaW w8 g i t) L xs W) : W.cell? ⟨q, 1, none⟩ = some (.slice (some ⟨g, 0, none⟩) gn cap) := by
  obtain ⟨k, hk, hs, hr⟩ := h.stage
  have key : ∀ {W3 : World}, Below w8.heap.size w8 W3 → W3.cell? ⟨q, 1, none⟩ = some (.slice (some ⟨g, 0, none⟩) gn cap) := fun hb => (hr0.below hb).cs.2.1
  by_cases e : k = 4
  · subst e
    obtain ⟨W3, ua, m, uc, hb, -, rfl⟩ := hr
    obtain ⟨cur, hcur, -⟩ := hr0.lb
    have hne : q ≠ g := fun e => by subst e; exact absurd (tneD hcur hr0.head) (by decide)
    rw [cell_of_row _ q 1 _ 48 (0, 0) ((heap_setCell_other _ _ _ _ hne).trans (hr0.below hb).head)]
    rfl
  · have hk4 : k ≤ 4 := hk
    rcases (by omega : k = 0 ∨ k = 1 ∨ k = 2 ∨ k = 3) with rfl | rfl | rfl | rfl <;> exact key hr
set_option maxRecDepth 100000 in
set_option maxHeartbeats 6400000 in
theorem rappend_c {w : World} {q : Nat} {st : Ds} {F : Nat → Prop} (hk : Rk w q st F) (nm : List UInt8) {ab : Option Addr} {bl cb : Nat} {l : List UInt8} (hbl : Bys w ab bl cb l) (hbl2 : l.length ≤ 1000000) (hbn : 0 < bl → ∀ b off, ab = some ⟨b, off, none⟩ → ¬ F b) : Calls Try.prog 49 #[.pointer (some ⟨q, 0, none⟩), .string (text nm), .slice ab bl cb] w (RPost q F (.int .i64 (st.append nm l).1) (st.append nm l).2 w) := by
  have HKK := Lib.hid hk
  have HBL := Lib.hid hbl
  have HBL2 := Lib.hid (show bl ≤ 1000000 from by have := hbl.len; omega)
  have HBN := Lib.hid hbn
  clear hbl hbl2 hbn
  obtain ⟨i0, hi0, hz0, hz1, hz2⟩ := info_parts infoD5
  obtain ⟨fv, FS, h, rfl⟩ := hk
  obtain ⟨c0, c1, c2, c3, c4, c5, c6, c7⟩ := h.cs
  cases hon : st.on with
  | false =>
    have e : st.append nm l = (150, st) := by unfold Ds.append; rw [if_pos hon]
    rw [e]
    rw [hon] at c2
    clear h hon e
    go_enter Try.func49, Try.ntmps49
    go_wp2
    go_ret
    exact rk_same HKK.out _
  | true =>
    rw [hon] at c2
    rcases h.look nm with ⟨hl, hno⟩ | ⟨i, hi, hnm, hl⟩
    · have e : st.append nm l = (152, st) := by unfold Ds.append; rw [if_neg (by simp [hon]), hl]
      rw [e]
      have HFN := Lib.hid (rfind_none h nm hno)
      obtain ⟨tx, htx⟩ : ∃ s, text nm = s := ⟨_, rfl⟩
      rw [htx] at HFN ⊢
      clear htx h hl hno hon e c0 c1 c3 c4 c5 c6 c7
      go_enter Try.func49, Try.ntmps49
      go_wp2_with (go_at_call 60; (with_reducible refine HFN.out.mono ?_); rintro e9 w9 ⟨rfl, hb9⟩; have HB9 := Lib.hid hb9; clear hb9)
      go_ret
      exact rk_below HKK.out HB9.out _
    · have HFN := Lib.hid (rfind_some h nm hi hnm)
      have HH := Lib.hid h
      have HI := Lib.hid (And.intro hi hnm)
      have HLK := Lib.hid (And.intro hon hl)
      obtain ⟨tx, htx⟩ : ∃ s, text nm = s := ⟨_, rfl⟩
      rw [htx] at HFN ⊢
      clear htx
      have hi0n : ¬ (i : Int) < 0 := by omega
      obtain ⟨a, cap, rfl, -⟩ := HH.out.at
      obtain ⟨hn, hle, g, xa, xc, rfl, hxv, hxb, hat⟩ := HH.out.spot HI.out.1
      obtain ⟨n, hn9⟩ : ∃ n, FS.length = n := ⟨_, rfl⟩
      have hii : (i : Int) < (n : Int) := by have := HI.out.1; omega
      have hic : (i : Int) < (cap : Int) := by omega
      have hlen := (HH.out.mem HI.out.1).2.1
      obtain ⟨fb, hfb⟩ : ∃ z, (FS.getD i Fr.zero).f.b = z := ⟨_, rfl⟩
      obtain ⟨xl, hxl⟩ : ∃ z, fb.length = z := ⟨_, rfl⟩
      have HFB := Lib.hid hfb
      have HXV := Lib.hid hxv
      have HXL := Lib.hid hxl
      rw [hn9] at hat HKK HH HBN ⊢
      rw [hfb, hxl] at hat hxb HXV
      rw [hfb, hxl] at hlen
      have HAT9 := Lib.hid hat
      have HXB := Lib.hid hxb
      have hbl9 := HBL.out.len
      have hadd : IntKind.i64.wrap ((xl : Int) + (bl : Int)) = (xl : Int) + (bl : Int) := by rw [IntKind.wrap_i64]; have := HBL2.out; omega
      by_cases hlong : 1048576 < xl + bl
      · have e : st.append nm l = (3, st) := by
          unfold Ds.append
          rw [if_neg (by simp [hon]), hl]
          simp only
          rw [if_pos (by rw [hfb, hxl, hbl9]; exact hlong)]
        rw [e]
        have hlg : (1048576 : Int) < (xl : Int) + (bl : Int) := by omega
        clear h hl hon hi hnm e hxv hxb hn hat hfb hxl hle hn9 hlen hlong hbl9 c0 c1 c3 c4 c5 c6 c7
        go_enter Try.func49, Try.ntmps49
        go_wp2_with (go_at_call 60; (with_reducible refine HFN.out.mono ?_); rintro e9 w9 ⟨rfl, hb9⟩; have HB9 := Lib.hid hb9; obtain ⟨z1, z2, z3, z4, z5⟩ := HAT9.out w9 hb9; have HR9 := Lib.hid (HH.out.below hb9); clear hb9 z5)
        go_ret
        exact rk_below HKK.out HB9.out _
      · have hlg : ¬ (1048576 : Int) < (xl : Int) + (bl : Int) := by omega
        have hus : 0 ≤ (usedF st.F : Int) ∧ (usedF st.F : Int) ≤ 67108864 := by
          have h9 := rsum_le h FS.length
          rw [List.take_length] at h9
          have hu : usedF st.F = (FS.map fun x => x.f.b.length).sum := by unfold usedF; rw [← h.pr, List.map_map]; rfl
          omega
        have hrm := h.ok.room
        have HUS := Lib.hid (fun W (hb : Below w.heap.size w W) => rused_c (h.below hb))
        by_cases hroom : st.room < (usedF st.F : Int) + (bl : Int)
        · have e : st.append nm l = (151, st) := by
            unfold Ds.append
            rw [if_neg (by simp [hon]), hl]
            simp only
            rw [if_neg (by rw [hfb, hxl, hbl9]; exact hlong), if_pos (by rw [hbl9]; exact hroom)]
          rw [e]
          obtain ⟨U, hU⟩ : ∃ z, (usedF st.F : Int) = z := ⟨_, rfl⟩
          obtain ⟨Rm, hRm⟩ : ∃ z, st.room = z := ⟨_, rfl⟩
          rw [hU] at HUS hus hroom
          rw [hRm] at hroom c0
          have hw8 : IntKind.i64.wrap (U + (bl : Int)) = U + (bl : Int) := by rw [IntKind.wrap_i64]; have := HBL2.out; omega
          have hrd : decide (Rm < U + (bl : Int)) = true := decide_eq_true hroom
          have HCR := Lib.hid (fun W (hb : Below w.heap.size w W) => show W.cell? ⟨q, 0, none⟩ = some (.int .i64 Rm) from by rw [← hRm]; exact (h.below hb).cs.1)
          clear h hl hon hi hnm e hxv hxb hn hat hfb hxl hle hn9 hlen hlong hbl9 c0 c1 c3 c4 c5 c6 c7 hU hRm hus hrm
          go_enter Try.func49, Try.ntmps49
          go_upto_region 8 with (go_at_call 60; (with_reducible refine HFN.out.mono ?_); rintro e9 w9 ⟨rfl, hb9⟩; have HB9 := Lib.hid hb9; obtain ⟨z1, z2, z3, z4, z5⟩ := HAT9.out w9 hb9; have HR9 := Lib.hid (HH.out.below hb9); clear hb9 z5)
          refine wp_region_flow [none, none, none, none, none, none, none, none, none, none, none, none, none, none, none, none, none, none, none, none, none, none, none, none, none, none, none, none, none, none, none, some 0, some 1, some 2, some 3, some 4, some 5, some 6, some 7, some 8, some 9, none, none, none, none, none, none, none, none, none, none, none, none, none, none, none, none, none, none, none, none, none, none, none, none, none, none, none, none, none] (fun i => [undef, undef, undef, undef, undef, undef, undef, undef, undef, undef].getD i undef) [(fun v _ => v = .pointer (some ⟨q, 0, none⟩)), (fun v _ => v = .int .i64 U), (fun v _ => v = .slice ab bl cb), (fun v _ => v = .int .i64 (bl : Int)), (fun v _ => v = .int .i64 (U + (bl : Int))), (fun v _ => v = .pointer (some ⟨q, 0, none⟩)), (fun v _ => v = .pointer (some ⟨q, 0, none⟩)), (fun v _ => v = .pointer (some ⟨q, 0, none⟩)), (fun v _ => v = .int .i64 Rm), (fun v _ => v = .bool true)] (by kernel_rfl) (by kernel_rfl) rfl rfl rfl ?_ ?_ ?_
          · intro g hg v X Y hX hY hv
            simp only [List.mem_cons, List.not_mem_nil, or_false] at hg
            rcases hg with rfl | rfl | rfl | rfl | rfl | rfl | rfl | rfl | rfl | rfl
            all_goals first
              | exact hv
              | exact hv.kept hY
          · simp only [flowOps, and_true]
            refine ⟨?_, ?_, ?_, ?_, ?_, ?_, ?_, ?_, ?_, ?_⟩
            · intro xs W hW hn
              simp only [flowAct, List.zipWith_cons_cons, List.zipWith_nil_left]
              go_wp2_with (fail)
              exact ⟨rfl, _, rfl, Below.refl _ _, rfl⟩
            · intro xs W hW hn
              simp [flowNeeds, Region.binds] at hn
              simp only [flowAct, List.zipWith_cons_cons, List.zipWith_nil_left]
              try simp only [hn]
              go_wp2_with (go_at_call 57; (with_reducible refine (HUS.out _ (HB9.out.trans (hW.mono HB9.out.size))).mono ?_); rintro e8 w8 ⟨rfl, hb8⟩)
              exact ⟨rfl, _, rfl, hb8, rfl⟩
            · intro xs W hW hn
              simp only [flowAct, List.zipWith_cons_cons, List.zipWith_nil_left]
              go_wp2_with (fail)
              exact ⟨rfl, _, rfl, Below.refl _ _, rfl⟩
            · intro xs W hW hn
              simp [flowNeeds, Region.binds] at hn
              simp only [flowAct, List.zipWith_cons_cons, List.zipWith_nil_left]
              try simp only [hn]
              go_wp2_with (fail)
              exact ⟨rfl, _, rfl, Below.refl _ _, rfl⟩
            · intro xs W hW hn
              simp [flowNeeds, Region.binds] at hn
              simp only [flowAct, List.zipWith_cons_cons, List.zipWith_nil_left]
              try simp only [hn]
              go_wp2_with (fail)
              exact ⟨rfl, _, rfl, Below.refl _ _, rfl⟩
            · intro xs W hW hn
              simp only [flowAct, List.zipWith_cons_cons, List.zipWith_nil_left]
              go_wp2_with (fail)
              exact ⟨rfl, _, rfl, Below.refl _ _, rfl⟩
            · intro xs W hW hn
              simp [flowNeeds, Region.binds] at hn
              simp only [flowAct, List.zipWith_cons_cons, List.zipWith_nil_left]
              try simp only [hn]
              go_wp2_with (fail)
              exact ⟨rfl, _, rfl, Below.refl _ _, rfl⟩
            · intro xs W hW hn
              simp [flowNeeds, Region.binds] at hn
              simp only [flowAct, List.zipWith_cons_cons, List.zipWith_nil_left]
              try simp only [hn]
              go_wp2_with (fail)
              exact ⟨rfl, _, rfl, Below.refl _ _, rfl⟩
            · intro xs W hW hn
              have r0 := HCR.out W (HB9.out.trans (hW.mono HB9.out.size))
              simp [flowNeeds, Region.binds] at hn
              simp only [flowAct, List.zipWith_cons_cons, List.zipWith_nil_left]
              try simp only [hn]
              go_wp2_with (fail)
              exact ⟨rfl, _, rfl, Below.refl _ _, rfl⟩
            · intro xs W hW hn
              simp [flowNeeds, Region.binds] at hn
              simp only [flowAct, List.zipWith_cons_cons, List.zipWith_nil_left]
              try simp only [hn]
              go_wp2_with (fail)
              exact ⟨rfl, _, rfl, Below.refl _ _, rfl⟩
          · intro xs W hW hall
            simp only [flowAll, and_true, Nat.zero_add, Nat.reduceAdd] at hall
            obtain ⟨u0a, u1a, u2a, u3a, u4a, u5a, u6a, u7a, u8a, u9a⟩ := hall
            simp only [flowAct, List.zipWith_cons_cons, List.zipWith_nil_left]
            simp only [u0a, u1a, u2a, u3a, u4a, u5a, u6a, u7a, u8a, u9a]
            clear u0a u1a u2a u3a u4a u5a u6a u7a u8a u9a
            have HBW := Lib.hid (HB9.out.trans (hW.mono HB9.out.size))
            clear hW
            go_wp2
            go_ret
            exact rk_below HKK.out HBW.out _
  
        · have hrd0 : ¬ st.room < (usedF st.F : Int) + (bl : Int) := hroom
          obtain ⟨U, hU⟩ : ∃ z, (usedF st.F : Int) = z := ⟨_, rfl⟩
          obtain ⟨Rm, hRm⟩ : ∃ z, st.room = z := ⟨_, rfl⟩
          have HUU := Lib.hid hU
          rw [hU] at HUS hus
          rw [hU, hRm] at hrd0
          rw [hRm] at c0
          have hw8 : IntKind.i64.wrap (U + (bl : Int)) = U + (bl : Int) := by rw [IntKind.wrap_i64]; have := HBL2.out; omega
          have hrd : decide (Rm < U + (bl : Int)) = false := decide_eq_false hrd0
          have HCR := Lib.hid (fun W (hb : Below w.heap.size w W) => show W.cell? ⟨q, 0, none⟩ = some (.int .i64 Rm) from by rw [← hRm]; exact (h.below hb).cs.1)
          have HSL := Lib.hid (show (FS.getD i Fr.zero).f.su ≤ (fb ++ l).length from by have := (h.mem hi).2.2.1; rw [hfb] at this; rw [List.length_append]; omega)
          have HTL := Lib.hid (show (fb ++ l).length ≤ 1048576 from by rw [List.length_append]; omega)
          have HLL := Lib.hid (show xl ≤ 1048576 ∧ bl ≤ 1000000 from ⟨hlen, HBL2.out⟩)
          by_cases hp : st.plan = true ∧ st.pn = 0
          · have e : st.append nm l = (150, Ds.lost { st with F := st.F.set i ⟨(FS.getD i Fr.zero).f.nm, fb ++ l, (FS.getD i Fr.zero).f.su⟩ } st.keep (st.F.set i ⟨(FS.getD i Fr.zero).f.nm, fb ++ l, (FS.getD i Fr.zero).f.su⟩)) := by
              unfold Ds.append
              rw [if_neg (by simp [hon]), hl]
              simp only
              rw [if_neg (by rw [hfb, hxl, hbl9]; exact hlong), if_neg (by rw [hbl9]; exact hroom), opd_no hp, setF_set h hi hnm]
              simp only [hfb]
              rfl
            rw [e]
            have HP := Lib.hid hp
            clear h hl hon hi hnm e hxv hxb hn hat hfb hxl hle hlen hlong hbl9 c0 c1 c3 c4 c5 c6 c7 hU hRm hus hrm hp hroom hrd0
            go_enter Try.func49, Try.ntmps49
            go_upto_region 8 with (go_at_call 60; (with_reducible refine HFN.out.mono ?_); rintro e9 w9 ⟨rfl, hb9⟩; have HB9 := Lib.hid hb9; obtain ⟨z1, z2, z3, z4, z5⟩ := HAT9.out w9 hb9; have HR9 := Lib.hid (HH.out.below hb9); clear hb9 z5)
            refine wp_region_flow [none, none, none, none, none, none, none, none, none, none, none, none, none, none, none, none, none, none, none, none, none, none, none, none, none, none, none, none, none, none, none, some 0, some 1, some 2, some 3, some 4, some 5, some 6, some 7, some 8, some 9, none, none, none, none, none, none, none, none, none, none, none, none, none, none, none, none, none, none, none, none, none, none, none, none, none, none, none, none, none] (fun i => [undef, undef, undef, undef, undef, undef, undef, undef, undef, undef].getD i undef) [(fun v _ => v = .pointer (some ⟨q, 0, none⟩)), (fun v _ => v = .int .i64 U), (fun v _ => v = .slice ab bl cb), (fun v _ => v = .int .i64 (bl : Int)), (fun v _ => v = .int .i64 (U + (bl : Int))), (fun v _ => v = .pointer (some ⟨q, 0, none⟩)), (fun v _ => v = .pointer (some ⟨q, 0, none⟩)), (fun v _ => v = .pointer (some ⟨q, 0, none⟩)), (fun v _ => v = .int .i64 Rm), (fun v _ => v = .bool false)] (by kernel_rfl) (by kernel_rfl) rfl rfl rfl ?_ ?_ ?_
            · intro g hg v X Y hX hY hv
              simp only [List.mem_cons, List.not_mem_nil, or_false] at hg
              rcases hg with rfl | rfl | rfl | rfl | rfl | rfl | rfl | rfl | rfl | rfl
              all_goals first
                | exact hv
                | exact hv.kept hY
            · simp only [flowOps, and_true]
              refine ⟨?_, ?_, ?_, ?_, ?_, ?_, ?_, ?_, ?_, ?_⟩
              · intro xs W hW hn
                simp only [flowAct, List.zipWith_cons_cons, List.zipWith_nil_left]
                go_wp2_with (fail)
                exact ⟨rfl, _, rfl, Below.refl _ _, rfl⟩
              · intro xs W hW hn
                simp [flowNeeds, Region.binds] at hn
                simp only [flowAct, List.zipWith_cons_cons, List.zipWith_nil_left]
                try simp only [hn]
                go_wp2_with (go_at_call 57; (with_reducible refine (HUS.out _ (HB9.out.trans (hW.mono HB9.out.size))).mono ?_); rintro e8 w8 ⟨rfl, hb8⟩)
                exact ⟨rfl, _, rfl, hb8, rfl⟩
              · intro xs W hW hn
                simp only [flowAct, List.zipWith_cons_cons, List.zipWith_nil_left]
                go_wp2_with (fail)
                exact ⟨rfl, _, rfl, Below.refl _ _, rfl⟩
              · intro xs W hW hn
                simp [flowNeeds, Region.binds] at hn
                simp only [flowAct, List.zipWith_cons_cons, List.zipWith_nil_left]
                try simp only [hn]
                go_wp2_with (fail)
                exact ⟨rfl, _, rfl, Below.refl _ _, rfl⟩
              · intro xs W hW hn
                simp [flowNeeds, Region.binds] at hn
                simp only [flowAct, List.zipWith_cons_cons, List.zipWith_nil_left]
                try simp only [hn]
                go_wp2_with (fail)
                exact ⟨rfl, _, rfl, Below.refl _ _, rfl⟩
              · intro xs W hW hn
                simp only [flowAct, List.zipWith_cons_cons, List.zipWith_nil_left]
                go_wp2_with (fail)
                exact ⟨rfl, _, rfl, Below.refl _ _, rfl⟩
              · intro xs W hW hn
                simp [flowNeeds, Region.binds] at hn
                simp only [flowAct, List.zipWith_cons_cons, List.zipWith_nil_left]
                try simp only [hn]
                go_wp2_with (fail)
                exact ⟨rfl, _, rfl, Below.refl _ _, rfl⟩
              · intro xs W hW hn
                simp [flowNeeds, Region.binds] at hn
                simp only [flowAct, List.zipWith_cons_cons, List.zipWith_nil_left]
                try simp only [hn]
                go_wp2_with (fail)
                exact ⟨rfl, _, rfl, Below.refl _ _, rfl⟩
              · intro xs W hW hn
                have r0 := HCR.out W (HB9.out.trans (hW.mono HB9.out.size))
                simp [flowNeeds, Region.binds] at hn
                simp only [flowAct, List.zipWith_cons_cons, List.zipWith_nil_left]
                try simp only [hn]
                go_wp2_with (fail)
                exact ⟨rfl, _, rfl, Below.refl _ _, rfl⟩
              · intro xs W hW hn
                simp [flowNeeds, Region.binds] at hn
                simp only [flowAct, List.zipWith_cons_cons, List.zipWith_nil_left]
                try simp only [hn]
                go_wp2_with (fail)
                exact ⟨rfl, _, rfl, Below.refl _ _, rfl⟩
            · intro xs W hW hall
              simp only [flowAll, and_true, Nat.zero_add, Nat.reduceAdd] at hall
              obtain ⟨u0a, u1a, u2a, u3a, u4a, u5a, u6a, u7a, u8a, u9a⟩ := hall
              simp only [flowAct, List.zipWith_cons_cons, List.zipWith_nil_left]
              simp only [u0a, u1a, u2a, u3a, u4a, u5a, u6a, u7a, u8a, u9a]
              clear u0a u1a u2a u3a u4a u5a u6a u7a u8a u9a
              have HBW := Lib.hid (HB9.out.trans (hW.mono HB9.out.size))
              have HRW := Lib.hid (HH.out.below HBW.out)
              clear hW hw8 hrd hadd hlg
              go_upto_region 11 with (go_at_call 75; (with_reducible refine (rcounted_no HRW.out HP.out.1 HP.out.2).mono ?_); rintro e8 w8 ⟨rfl, rfl⟩)
              obtain ⟨w8, hw8⟩ : ∃ X, W = X := ⟨_, rfl⟩
              rw [hw8] at HRW HBW ⊢
              clear hw8
              have HR8 := HRW
              have HT8 := Lib.hid (show Trn (rfoot q (.slice (some ⟨g, 0, none⟩) n cap) FS) w w8 from Trn.of HBW.out)
              clear HRW
              have HAX := Lib.hid (show (∀ W', Below w8.heap.size w8 W' → W'.cell? ⟨q, 1, none⟩ = some (.slice (some ⟨g, 0, none⟩) n cap) ∧ W'.cell? ⟨g, i * 3, none⟩ = some (.string (text (FS.getD i Fr.zero).f.nm)) ∧ W'.cell? ⟨g, i * 3 + 1, none⟩ = some (.slice xa xl xc) ∧ W'.cell? ⟨g, i * 3 + 2, none⟩ = some (.int .i64 ((FS.getD i Fr.zero).f.su : Int)) ∧ ∀ j, W'.frozen? ⟨g, j, none⟩ = false) ∧ Bys w8 xa xl xc fb from by
                obtain ⟨-, -, g', xa', xc', e1, hxv', hxb', hat'⟩ := HR8.out.spot HI.out.1
                injection e1 with e1
                injection e1 with e1
                subst e1
                rw [HFB.out, HXL.out] at hat' hxv' hxb'
                rw [HXV.out] at hxv'
                injection hxv' with e2 e3 e4
                subst e2 e4
                exact ⟨hat', hxb'⟩)
              have HAT := Lib.hid HAX.out.1
              have HXB := Lib.hid HAX.out.2
              have HBL8 := Lib.hid (HBL.out.trn HBN.out HT8.out)
              have HBL := HBL8
              refine wp_region_inv [none, none, none, none, none, none, none, none, none, none, none, none, none, none, none, none, none, none, none, none, none, none, none, none, none, none, none, none, none, none, none, none, none, none, none, none, none, none, none, none, none, none, none, some 0, some 1, some 2, some 3, some 4, some 5, some 6, some 7, some 8, some 9, some 10, some 11, some 12, some 13, some 14, some 15, some 16, some 17, some 18, none, none, none, none, none, none, none, none] (fun i => [undef, undef, undef, undef, undef, undef, undef, undef, undef, undef, undef, undef, undef, undef, undef, undef, undef, undef, undef, undef].getD i undef) (fun L xs W => InvQ [5, 14, 16, 19] 20 (RaV [some (.pointer (some ⟨q, 0, none⟩)), some (.pointer (some ⟨q, 0, none⟩)), some (.pointer (some ⟨q, 1, none⟩)), some (.slice (some ⟨g, 0, none⟩) n cap), some (.int .i64 (i : Int)), none, some (.pointer (some ⟨q, 0, none⟩)), some (.pointer (some ⟨q, 0, none⟩)), some (.pointer (some ⟨q, 1, none⟩)), some (.slice (some ⟨g, 0, none⟩) n cap), some (.int .i64 (i : Int)), some (.pointer (some ⟨g, i * 3, none⟩)), some (.pointer (some ⟨g, i * 3 + 1, none⟩)), some (.slice xa xl xc), none, some (.slice ab bl cb), none, some (.pointer (some ⟨g, i * 3, none⟩)), some (.pointer (some ⟨g, i * 3 + 1, none⟩)), none]) (RaW w8 g i (fb ++ l)) L xs W ∧ RaE w8.heap.size fb l L xs W) (by kernel_rfl) (by kernel_rfl) rfl rfl (fun L hL => ⟨InvQ.start hL (by decide) (by decide) ⟨rfl, rfl, rfl, Nat.le_refl _, fun _ _ => rfl⟩, by have e5 := hL 5 (by decide); have e14 := hL 14 (by decide); have e16 := hL 16 (by decide); exact ⟨fun h _ => (by rw [e5] at h; cases h), fun h _ => (by rw [e14] at h; cases h), fun h _ => (by rw [e16] at h; cases h), fun h => (by rw [e14] at h; cases h)⟩⟩) ?_ ?_
              · simp only [invOps, and_true]
                refine ⟨?_, ?_, ?_, ?_, ?_, ?_, ?_, ?_, ?_, ?_, ?_, ?_, ?_, ?_, ?_, ?_, ?_, ?_, ?_, ?_⟩
                · intro L xs W ⟨hI, hE⟩ hL hn
                  simp only [flowAct, List.zipWith_cons_cons, List.zipWith_nil_left]
                  go_wp2_with (fail)
                  exact ⟨rfl, _, rfl, hI.pure 0 (by decide) (fun _ h => h) (fun x hx => by injection hx with hx), hE.pure _ (by decide) (by decide) (by decide) (by decide)⟩
                · intro L xs W ⟨hI, hE⟩ hL hn
                  simp [invNeeds, Region.binds] at hn
                  have e0 : xs 0 = .pointer (some ⟨q, 0, none⟩) := hI.val 0 (by decide) (by simp only [hn]) _ rfl
                  simp only [flowAct, List.zipWith_cons_cons, List.zipWith_nil_left]
                  simp only [e0]
                  go_wp2_with (fail)
                  exact ⟨rfl, _, rfl, hI.pure 1 (by decide) (fun _ h => h) (fun x hx => by injection hx with hx), hE.pure _ (by decide) (by decide) (by decide) (by decide)⟩
                · intro L xs W ⟨hI, hE⟩ hL hn
                  simp [invNeeds, Region.binds] at hn
                  have e1 : xs 1 = .pointer (some ⟨q, 0, none⟩) := hI.val 1 (by decide) (by simp only [hn]) _ rfl
                  simp only [flowAct, List.zipWith_cons_cons, List.zipWith_nil_left]
                  simp only [e1]
                  go_wp2_with (fail)
                  exact ⟨rfl, _, rfl, hI.pure 2 (by decide) (fun _ h => h) (fun x hx => by injection hx with hx), hE.pure _ (by decide) (by decide) (by decide) (by decide)⟩
                · intro L xs W ⟨hI, hE⟩ hL hn
                  simp [invNeeds, Region.binds] at hn
                  have e2 : xs 2 = .pointer (some ⟨q, 1, none⟩) := hI.val 2 (by decide) (by simp only [hn]) _ rfl
                  have z1 := InvQ.q1 HR8.out hI
                  simp only [flowAct, List.zipWith_cons_cons, List.zipWith_nil_left]
                  simp only [e2]
                  go_wp2_with (fail)
                  exact ⟨rfl, _, rfl, hI.pure 3 (by decide) (fun _ h => h) (fun x hx => by injection hx with hx), hE.pure _ (by decide) (by decide) (by decide) (by decide)⟩
                · intro L xs W ⟨hI, hE⟩ hL hn
                  simp only [flowAct, List.zipWith_cons_cons, List.zipWith_nil_left]
                  go_wp2_with (fail)
                  exact ⟨rfl, _, rfl, hI.pure 4 (by decide) (fun _ h => h) (fun x hx => by injection hx with hx), hE.pure _ (by decide) (by decide) (by decide) (by decide)⟩
                · intro L xs W ⟨hI, hE⟩ hL hn
                  have hb := hI.before (hI.later (j := 0) (j' := 3) rfl rfl (by decide) hL)
                  have HB := Lib.hid hb
                  clear hb
                  simp only [flowAct, List.zipWith_cons_cons, List.zipWith_nil_left]
                  go_wp2_with (fail)
                  refine ⟨rfl, _, rfl, hI.step 0 rfl hL (fun p hp => absurd hp.1 (by omega)) (by decide) (HB.out.alloc HB.out.size _) (fun x hx => by cases hx), ?_⟩
                  have L14 := hI.later (j := 0) (j' := 1) rfl rfl (by decide) hL
                  have L16 := hI.later (j := 0) (j' := 2) rfl rfl (by decide) hL
                  exact ⟨fun _ _ => ⟨_, rfl, OwnB.empty W w8.heap.size 5 HB.out.size⟩, fun h => by simp [L14] at h, fun h => by simp [L16] at h, fun h => by simp [L14] at h⟩
                · intro L xs W ⟨hI, hE⟩ hL hn
                  simp only [flowAct, List.zipWith_cons_cons, List.zipWith_nil_left]
                  go_wp2_with (fail)
                  exact ⟨rfl, _, rfl, hI.pure 6 (by decide) (fun _ h => h) (fun x hx => by injection hx with hx), hE.pure _ (by decide) (by decide) (by decide) (by decide)⟩
                · intro L xs W ⟨hI, hE⟩ hL hn
                  simp [invNeeds, Region.binds] at hn
                  have e6 : xs 6 = .pointer (some ⟨q, 0, none⟩) := hI.val 6 (by decide) (by simp only [hn]) _ rfl
                  simp only [flowAct, List.zipWith_cons_cons, List.zipWith_nil_left]
                  simp only [e6]
                  go_wp2_with (fail)
                  exact ⟨rfl, _, rfl, hI.pure 7 (by decide) (fun _ h => h) (fun x hx => by injection hx with hx), hE.pure _ (by decide) (by decide) (by decide) (by decide)⟩
                · intro L xs W ⟨hI, hE⟩ hL hn
                  simp [invNeeds, Region.binds] at hn
                  have e7 : xs 7 = .pointer (some ⟨q, 0, none⟩) := hI.val 7 (by decide) (by simp only [hn]) _ rfl
                  simp only [flowAct, List.zipWith_cons_cons, List.zipWith_nil_left]
                  simp only [e7]
                  go_wp2_with (fail)
                  exact ⟨rfl, _, rfl, hI.pure 8 (by decide) (fun _ h => h) (fun x hx => by injection hx with hx), hE.pure _ (by decide) (by decide) (by decide) (by decide)⟩
                · intro L xs W ⟨hI, hE⟩ hL hn
                  simp [invNeeds, Region.binds] at hn
                  have e8 : xs 8 = .pointer (some ⟨q, 1, none⟩) := hI.val 8 (by decide) (by simp only [hn]) _ rfl
                  have z1 := InvQ.q1 HR8.out hI
                  simp only [flowAct, List.zipWith_cons_cons, List.zipWith_nil_left]
                  simp only [e8]
                  go_wp2_with (fail)
                  exact ⟨rfl, _, rfl, hI.pure 9 (by decide) (fun _ h => h) (fun x hx => by injection hx with hx), hE.pure _ (by decide) (by decide) (by decide) (by decide)⟩
                · intro L xs W ⟨hI, hE⟩ hL hn
                  simp only [flowAct, List.zipWith_cons_cons, List.zipWith_nil_left]
                  go_wp2_with (fail)
                  exact ⟨rfl, _, rfl, hI.pure 10 (by decide) (fun _ h => h) (fun x hx => by injection hx with hx), hE.pure _ (by decide) (by decide) (by decide) (by decide)⟩
                · intro L xs W ⟨hI, hE⟩ hL hn
                  simp [invNeeds, Region.binds] at hn
                  have e9 : xs 9 = .slice (some ⟨g, 0, none⟩) n cap := hI.val 9 (by decide) (by simp only [hn]) _ rfl
                  have e10 : xs 10 = .int .i64 (i : Int) := hI.val 10 (by decide) (by simp only [hn]) _ rfl
                  simp only [flowAct, List.zipWith_cons_cons, List.zipWith_nil_left]
                  simp only [e9, e10]
                  go_wp2_with (fail)
                  exact ⟨rfl, _, rfl, hI.pure 11 (by decide) (fun _ h => h) (fun x hx => by injection hx with hx), hE.pure _ (by decide) (by decide) (by decide) (by decide)⟩
                · intro L xs W ⟨hI, hE⟩ hL hn
                  simp [invNeeds, Region.binds] at hn
                  have e11 : xs 11 = .pointer (some ⟨g, i * 3, none⟩) := hI.val 11 (by decide) (by simp only [hn]) _ rfl
                  simp only [flowAct, List.zipWith_cons_cons, List.zipWith_nil_left]
                  simp only [e11]
                  go_wp2_with (fail)
                  exact ⟨rfl, _, rfl, hI.pure 12 (by decide) (fun _ h => h) (fun x hx => by injection hx with hx), hE.pure _ (by decide) (by decide) (by decide) (by decide)⟩
                · intro L xs W ⟨hI, hE⟩ hL hn
                  simp [invNeeds, Region.binds] at hn
                  have e12 : xs 12 = .pointer (some ⟨g, i * 3 + 1, none⟩) := hI.val 12 (by decide) (by simp only [hn]) _ rfl
                  have L14 : L 14 = false := by
                    cases h : L 14 with
                    | false => rfl
                    | true => have := hE.2.2.2 h; rw [hL] at this; cases this
                  have hb := hI.before (hI.later (j := 1) (j' := 3) rfl rfl (by decide) L14)
                  obtain ⟨-, -, z3, -, -⟩ := HAT.out W hb
                  clear hb
                  simp only [flowAct, List.zipWith_cons_cons, List.zipWith_nil_left]
                  simp only [e12]
                  go_wp2_with (fail)
                  exact ⟨rfl, _, rfl, hI.pure 13 (by decide) (fun _ h => h) (fun x hx => by injection hx with hx), hE.pure _ (by decide) (by decide) (by decide) (by decide)⟩
                · intro L xs W ⟨hI, hE⟩ hL hn
                  simp [invNeeds, Region.binds] at hn
                  have e13 : xs 13 = .slice xa xl xc := hI.val 13 (by decide) (by simp only [hn]) _ rfl
                  have hb := hI.before (hI.later (j := 1) (j' := 3) rfl rfl (by decide) hL)
                  have HB := Lib.hid hb
                  clear hb
                  have h13 : L 13 = true := by simp only [hn]
                  obtain ⟨g7, e5, o7⟩ := hE.1 (by simp only [hn]) hL
                  simp only [flowAct, List.zipWith_cons_cons, List.zipWith_nil_left]
                  simp only [e13, e5]
                  go_wp2_with (refine wpList_append_e0 rfl _ _ 30 rfl (base := w8.heap.size) (e := 5) (g := g7) (l := fb) (i := i0) Try.underlying30 hi0 hz0 hz1 hz2 rfl o7 rfl (HXB.out.below HB.out) (by have := HLL.out; omega) HB.out.size ?_; intro v9 w9 ho9 hb9)
                  refine ⟨rfl, _, rfl, hI.step 1 rfl hL (fun p hp => by obtain ⟨-, h⟩ := hp; injection h with h; subst h; simp only [hn]) (by decide) (HB.out.trans (hb9.mono HB.out.size)) (fun x hx => by cases hx), ?_⟩
                  have L16 := hI.later (j := 1) (j' := 2) rfl rfl (by decide) hL
                  exact ⟨fun _ h => by simp at h, fun _ _ => ho9, fun h => by simp [L16] at h, fun _ => by simp [h13]⟩
                · intro L xs W ⟨hI, hE⟩ hL hn
                  simp only [flowAct, List.zipWith_cons_cons, List.zipWith_nil_left]
                  go_wp2_with (fail)
                  exact ⟨rfl, _, rfl, hI.pure 15 (by decide) (fun _ h => h) (fun x hx => by injection hx with hx), hE.pure _ (by decide) (by decide) (by decide) (by decide)⟩
                · intro L xs W ⟨hI, hE⟩ hL hn
                  simp [invNeeds, Region.binds] at hn
                  have e15 : xs 15 = .slice ab bl cb := hI.val 15 (by decide) (by simp only [hn]) _ rfl
                  have hb := hI.before (hI.later (j := 2) (j' := 3) rfl rfl (by decide) hL)
                  have HB := Lib.hid hb
                  clear hb
                  have HO14 := Lib.hid (hE.2.1 (by simp only [hn]) hL)
                  simp only [flowAct, List.zipWith_cons_cons, List.zipWith_nil_left]
                  simp only [e15]
                  go_wp2_with (refine wpList_append_bysA rfl _ _ 30 rfl (base := w8.heap.size) (e := 5) (v := xs 14) (k := fb) (l := l) (i := i0) (z := .int .u8 0) Try.underlying30 hi0 hz0 hz1 hz2 rfl rfl HO14.out rfl (HBL.out.below HB.out) (by have := HLL.out; have := HBL.out.len; have := HXB.out.len; omega) HB.out.size ?_; intro v9 w9 ho9 hg9 ha9)
                  refine ⟨rfl, _, rfl, hI.step 2 rfl hL (fun p hp => by obtain ⟨-, h⟩ := hp; injection h with h; subst h; simp only [hn]) (by decide) (HB.out.grown hg9 HB.out.size (fun k hk => (HO14.out.lt k hk).1)) (fun x hx => by cases hx), ?_⟩
                  have L14 : L 14 = true := by simp only [hn]
                  exact ⟨fun _ h => by simp [L14] at h, fun _ h => by simp at h, fun _ _ => ho9, fun _ => by simpa using hE.2.2.2 L14⟩
                · intro L xs W ⟨hI, hE⟩ hL hn
                  simp [invNeeds, Region.binds] at hn
                  have e3 : xs 3 = .slice (some ⟨g, 0, none⟩) n cap := hI.val 3 (by decide) (by simp only [hn]) _ rfl
                  have e4 : xs 4 = .int .i64 (i : Int) := hI.val 4 (by decide) (by simp only [hn]) _ rfl
                  simp only [flowAct, List.zipWith_cons_cons, List.zipWith_nil_left]
                  simp only [e3, e4]
                  go_wp2_with (fail)
                  exact ⟨rfl, _, rfl, hI.pure 17 (by decide) (fun _ h => h) (fun x hx => by injection hx with hx), hE.pure _ (by decide) (by decide) (by decide) (by decide)⟩
                · intro L xs W ⟨hI, hE⟩ hL hn
                  simp [invNeeds, Region.binds] at hn
                  have e17 : xs 17 = .pointer (some ⟨g, i * 3, none⟩) := hI.val 17 (by decide) (by simp only [hn]) _ rfl
                  simp only [flowAct, List.zipWith_cons_cons, List.zipWith_nil_left]
                  simp only [e17]
                  go_wp2_with (fail)
                  exact ⟨rfl, _, rfl, hI.pure 18 (by decide) (fun _ h => h) (fun x hx => by injection hx with hx), hE.pure _ (by decide) (by decide) (by decide) (by decide)⟩
                · intro L xs W ⟨hI, hE⟩ hL hn
                  simp [invNeeds, Region.binds] at hn
                  have e18 : xs 18 = .pointer (some ⟨g, i * 3 + 1, none⟩) := hI.val 18 (by decide) (by simp only [hn]) _ rfl
                  have hb := hI.before (hI.later (j := 3) (j' := 3) rfl rfl (by decide) hL)
                  have HB := Lib.hid hb
                  clear hb
                  have h16 : L 16 = true := by simp only [hn]
                  have ho16 := hE.2.2.1 h16 hL
                  obtain ⟨ua, uc, e16, -⟩ := ho16.bys
                  obtain ⟨m16, hm16⟩ : ∃ z, (fb ++ l).length = z := ⟨_, rfl⟩
                  rw [hm16] at e16
                  rw [e16] at ho16
                  have HO16 := Lib.hid ho16
                  obtain ⟨-, -, z3, -, z5⟩ := HAT.out W HB.out
                  have z6 := z5 (i * 3 + 1)
                  clear ho16 hm16 z5
                  simp only [flowAct, List.zipWith_cons_cons, List.zipWith_nil_left]
                  simp only [e18, e16]
                  go_wp2_with (fail)
                  refine ⟨rfl, undef, rfl, hI.step 3 rfl hL (fun p hp => by obtain ⟨-, h⟩ := hp; injection h with h; subst h; exact h16) (by decide) ⟨W, ua, m16, uc, HB.out, HO16.out, rfl⟩ (fun x hx => by cases hx), ?_⟩
                  exact ⟨fun h5 h14 => by
                    have h9 : L 14 = true := by
                      obtain ⟨k, hk, hs, -⟩ := hI.stage
                      exact (hs 1 14 rfl).2 (by have := (hs 2 16 rfl).1 h16; omega)
                    simp [h9] at h14, fun _ h => by simp [h16] at h, fun _ h => by simp at h, fun h => by simpa using hE.2.2.2 (by simpa using h)⟩
              · intro L xs W ⟨hI, _⟩ hL
                have hdone := (hI.done hL (by decide) (by decide)).1
                obtain ⟨W3, ua, m16, uc, hb3, ho3, rfl⟩ : ∃ W3 ua m uc, Below w8.heap.size w8 W3 ∧ OwnB W3 w8.heap.size 5 (.slice ua m uc) (fb ++ l) ∧ W = W3.setCell ⟨g, i * 3 + 1, none⟩ (.slice ua m uc) := hdone
                have hput := (HR8.out.below hb3).put_b HI.out.1 ho3 HTL.out HSL.out
                have htr : Trn (rfoot q (.slice (some ⟨g, 0, none⟩) n cap) FS) w (W3.setCell ⟨g, i * 3 + 1, none⟩ (.slice ua m16 uc)) := (HT8.out.then (Trn.of hb3)).set (.inl (.inr (.inl rfl)))
                have hfo : ∀ k, rfoot q (.slice (some ⟨g, 0, none⟩) n cap) (FS.set i ⟨.slice ua m16 uc, ⟨(FS.getD i Fr.zero).f.nm, fb ++ l, (FS.getD i Fr.zero).f.su⟩⟩) k → rfoot q (.slice (some ⟨g, 0, none⟩) n cap) FS k ∨ w.heap.size ≤ k := by
                  rintro k (h1 | h1 | ⟨x, hx, h1⟩)
                  · exact .inl (.inl h1)
                  · exact .inl (.inr (.inl h1))
                  · rcases List.mem_or_eq_of_mem_set hx with hx | rfl
                    · exact .inl (.inr (.inr ⟨x, hx, h1⟩))
                    · exact .inr (Nat.le_trans HT8.out.size (ho3.lt k h1).1)
                have HPUT := Lib.hid hput
                have HTR := Lib.hid htr
                have HFO := Lib.hid hfo
                clear hput htr hfo hb3 ho3
                simp only [flowAct, List.zipWith_cons_cons, List.zipWith_nil_left]
                generalize W3.setCell ⟨g, i * 3 + 1, none⟩ (.slice ua m16 uc) = W5 at *
                have q7 := HPUT.out.cs.2.2.2.2.2.2.2
                simp only at q7
                go_wp2_with (go_at_call 63; (with_reducible refine (rlose_p HPUT.out st.keep).mono ?_); rintro e7 w7 ⟨rfl, F7, hr7, ht7, hf7⟩)
                go_ret
                refine ⟨rfl, F7, hr7, HTR.out.trans ht7 (fun k hk => HFO.out k hk), fun k hk => ?_⟩
                rcases hf7 k hk with h1 | h1
                · exact HFO.out k h1
                · exact .inr (Nat.le_trans HTR.out.size h1)
  
          · have e : st.append nm l = (0, { st.tick with F := st.F.set i ⟨(FS.getD i Fr.zero).f.nm, fb ++ l, (FS.getD i Fr.zero).f.su⟩ }) := by
              unfold Ds.append
              rw [if_neg (by simp [hon]), hl]
              simp only
              rw [if_neg (by rw [hfb, hxl, hbl9]; exact hlong), if_neg (by rw [hbl9]; exact hroom), opd_yes hp, setF_set h hi hnm]
              simp only [hfb]
            rw [e]
            have HP := Lib.hid hp
            clear h hl hon hi hnm e hxv hxb hn hat hfb hxl hle hlen hlong hbl9 c0 c1 c3 c4 c5 c6 c7 hU hRm hus hrm hp hroom hrd0
            go_enter Try.func49, Try.ntmps49
            go_upto_region 8 with (go_at_call 60; (with_reducible refine HFN.out.mono ?_); rintro e9 w9 ⟨rfl, hb9⟩; have HB9 := Lib.hid hb9; obtain ⟨z1, z2, z3, z4, z5⟩ := HAT9.out w9 hb9; have HR9 := Lib.hid (HH.out.below hb9); clear hb9 z5)
            refine wp_region_flow [none, none, none, none, none, none, none, none, none, none, none, none, none, none, none, none, none, none, none, none, none, none, none, none, none, none, none, none, none, none, none, some 0, some 1, some 2, some 3, some 4, some 5, some 6, some 7, some 8, some 9, none, none, none, none, none, none, none, none, none, none, none, none, none, none, none, none, none, none, none, none, none, none, none, none, none, none, none, none, none] (fun i => [undef, undef, undef, undef, undef, undef, undef, undef, undef, undef].getD i undef) [(fun v _ => v = .pointer (some ⟨q, 0, none⟩)), (fun v _ => v = .int .i64 U), (fun v _ => v = .slice ab bl cb), (fun v _ => v = .int .i64 (bl : Int)), (fun v _ => v = .int .i64 (U + (bl : Int))), (fun v _ => v = .pointer (some ⟨q, 0, none⟩)), (fun v _ => v = .pointer (some ⟨q, 0, none⟩)), (fun v _ => v = .pointer (some ⟨q, 0, none⟩)), (fun v _ => v = .int .i64 Rm), (fun v _ => v = .bool false)] (by kernel_rfl) (by kernel_rfl) rfl rfl rfl ?_ ?_ ?_
            · intro g hg v X Y hX hY hv
              simp only [List.mem_cons, List.not_mem_nil, or_false] at hg
              rcases hg with rfl | rfl | rfl | rfl | rfl | rfl | rfl | rfl | rfl | rfl
              all_goals first
                | exact hv
                | exact hv.kept hY
            · simp only [flowOps, and_true]
              refine ⟨?_, ?_, ?_, ?_, ?_, ?_, ?_, ?_, ?_, ?_⟩
              · intro xs W hW hn
                simp only [flowAct, List.zipWith_cons_cons, List.zipWith_nil_left]
                go_wp2_with (fail)
                exact ⟨rfl, _, rfl, Below.refl _ _, rfl⟩
              · intro xs W hW hn
                simp [flowNeeds, Region.binds] at hn
                simp only [flowAct, List.zipWith_cons_cons, List.zipWith_nil_left]
                try simp only [hn]
                go_wp2_with (go_at_call 57; (with_reducible refine (HUS.out _ (HB9.out.trans (hW.mono HB9.out.size))).mono ?_); rintro e8 w8 ⟨rfl, hb8⟩)
                exact ⟨rfl, _, rfl, hb8, rfl⟩
              · intro xs W hW hn
                simp only [flowAct, List.zipWith_cons_cons, List.zipWith_nil_left]
                go_wp2_with (fail)
                exact ⟨rfl, _, rfl, Below.refl _ _, rfl⟩
              · intro xs W hW hn
                simp [flowNeeds, Region.binds] at hn
                simp only [flowAct, List.zipWith_cons_cons, List.zipWith_nil_left]
                try simp only [hn]
                go_wp2_with (fail)
                exact ⟨rfl, _, rfl, Below.refl _ _, rfl⟩
              · intro xs W hW hn
                simp [flowNeeds, Region.binds] at hn
                simp only [flowAct, List.zipWith_cons_cons, List.zipWith_nil_left]
                try simp only [hn]
                go_wp2_with (fail)
                exact ⟨rfl, _, rfl, Below.refl _ _, rfl⟩
              · intro xs W hW hn
                simp only [flowAct, List.zipWith_cons_cons, List.zipWith_nil_left]
                go_wp2_with (fail)
                exact ⟨rfl, _, rfl, Below.refl _ _, rfl⟩
              · intro xs W hW hn
                simp [flowNeeds, Region.binds] at hn
                simp only [flowAct, List.zipWith_cons_cons, List.zipWith_nil_left]
                try simp only [hn]
                go_wp2_with (fail)
                exact ⟨rfl, _, rfl, Below.refl _ _, rfl⟩
              · intro xs W hW hn
                simp [flowNeeds, Region.binds] at hn
                simp only [flowAct, List.zipWith_cons_cons, List.zipWith_nil_left]
                try simp only [hn]
                go_wp2_with (fail)
                exact ⟨rfl, _, rfl, Below.refl _ _, rfl⟩
              · intro xs W hW hn
                have r0 := HCR.out W (HB9.out.trans (hW.mono HB9.out.size))
                simp [flowNeeds, Region.binds] at hn
                simp only [flowAct, List.zipWith_cons_cons, List.zipWith_nil_left]
                try simp only [hn]
                go_wp2_with (fail)
                exact ⟨rfl, _, rfl, Below.refl _ _, rfl⟩
              · intro xs W hW hn
                simp [flowNeeds, Region.binds] at hn
                simp only [flowAct, List.zipWith_cons_cons, List.zipWith_nil_left]
                try simp only [hn]
                go_wp2_with (fail)
                exact ⟨rfl, _, rfl, Below.refl _ _, rfl⟩
            · intro xs W hW hall
              simp only [flowAll, and_true, Nat.zero_add, Nat.reduceAdd] at hall
              obtain ⟨u0a, u1a, u2a, u3a, u4a, u5a, u6a, u7a, u8a, u9a⟩ := hall
              simp only [flowAct, List.zipWith_cons_cons, List.zipWith_nil_left]
              simp only [u0a, u1a, u2a, u3a, u4a, u5a, u6a, u7a, u8a, u9a]
              clear u0a u1a u2a u3a u4a u5a u6a u7a u8a u9a
              have HBW := Lib.hid (HB9.out.trans (hW.mono HB9.out.size))
              have HRW := Lib.hid (HH.out.below HBW.out)
              clear hW hw8 hrd hadd hlg
              go_upto_region 11 with (go_at_call 75; (with_reducible refine (rcounted_c HRW.out HP.out).mono ?_); rintro e8 w8 ⟨rfl, hr8, ht8⟩; have HR8 := Lib.hid hr8; have HT8 := Lib.hid (show Trn (rfoot q (.slice (some ⟨g, 0, none⟩) n cap) FS) w w8 from (Trn.of HBW.out).then (rtrn_q ht8)); clear hr8 ht8)
              have HAX := Lib.hid (show (∀ W', Below w8.heap.size w8 W' → W'.cell? ⟨q, 1, none⟩ = some (.slice (some ⟨g, 0, none⟩) n cap) ∧ W'.cell? ⟨g, i * 3, none⟩ = some (.string (text (FS.getD i Fr.zero).f.nm)) ∧ W'.cell? ⟨g, i * 3 + 1, none⟩ = some (.slice xa xl xc) ∧ W'.cell? ⟨g, i * 3 + 2, none⟩ = some (.int .i64 ((FS.getD i Fr.zero).f.su : Int)) ∧ ∀ j, W'.frozen? ⟨g, j, none⟩ = false) ∧ Bys w8 xa xl xc fb from by
                obtain ⟨-, -, g', xa', xc', e1, hxv', hxb', hat'⟩ := HR8.out.spot HI.out.1
                injection e1 with e1
                injection e1 with e1
                subst e1
                rw [HFB.out, HXL.out] at hat' hxv' hxb'
                rw [HXV.out] at hxv'
                injection hxv' with e2 e3 e4
                subst e2 e4
                exact ⟨hat', hxb'⟩)
              have HAT := Lib.hid HAX.out.1
              have HXB := Lib.hid HAX.out.2
              have HBL8 := Lib.hid (HBL.out.trn HBN.out HT8.out)
              have HBL := HBL8
              refine wp_region_inv [none, none, none, none, none, none, none, none, none, none, none, none, none, none, none, none, none, none, none, none, none, none, none, none, none, none, none, none, none, none, none, none, none, none, none, none, none, none, none, none, none, none, none, some 0, some 1, some 2, some 3, some 4, some 5, some 6, some 7, some 8, some 9, some 10, some 11, some 12, some 13, some 14, some 15, some 16, some 17, some 18, none, none, none, none, none, none, none, none] (fun i => [undef, undef, undef, undef, undef, undef, undef, undef, undef, undef, undef, undef, undef, undef, undef, undef, undef, undef, undef, undef].getD i undef) (fun L xs W => InvQ [5, 14, 16, 19] 20 (RaV [some (.pointer (some ⟨q, 0, none⟩)), some (.pointer (some ⟨q, 0, none⟩)), some (.pointer (some ⟨q, 1, none⟩)), some (.slice (some ⟨g, 0, none⟩) n cap), some (.int .i64 (i : Int)), none, some (.pointer (some ⟨q, 0, none⟩)), some (.pointer (some ⟨q, 0, none⟩)), some (.pointer (some ⟨q, 1, none⟩)), some (.slice (some ⟨g, 0, none⟩) n cap), some (.int .i64 (i : Int)), some (.pointer (some ⟨g, i * 3, none⟩)), some (.pointer (some ⟨g, i * 3 + 1, none⟩)), some (.slice xa xl xc), none, some (.slice ab bl cb), none, some (.pointer (some ⟨g, i * 3, none⟩)), some (.pointer (some ⟨g, i * 3 + 1, none⟩)), none]) (RaW w8 g i (fb ++ l)) L xs W ∧ RaE w8.heap.size fb l L xs W) (by kernel_rfl) (by kernel_rfl) rfl rfl (fun L hL => ⟨InvQ.start hL (by decide) (by decide) ⟨rfl, rfl, rfl, Nat.le_refl _, fun _ _ => rfl⟩, by have e5 := hL 5 (by decide); have e14 := hL 14 (by decide); have e16 := hL 16 (by decide); exact ⟨fun h _ => (by rw [e5] at h; cases h), fun h _ => (by rw [e14] at h; cases h), fun h _ => (by rw [e16] at h; cases h), fun h => (by rw [e14] at h; cases h)⟩⟩) ?_ ?_
              · simp only [invOps, and_true]
                refine ⟨?_, ?_, ?_, ?_, ?_, ?_, ?_, ?_, ?_, ?_, ?_, ?_, ?_, ?_, ?_, ?_, ?_, ?_, ?_, ?_⟩
                · intro L xs W ⟨hI, hE⟩ hL hn
                  simp only [flowAct, List.zipWith_cons_cons, List.zipWith_nil_left]
                  go_wp2_with (fail)
                  exact ⟨rfl, _, rfl, hI.pure 0 (by decide) (fun _ h => h) (fun x hx => by injection hx with hx), hE.pure _ (by decide) (by decide) (by decide) (by decide)⟩
                · intro L xs W ⟨hI, hE⟩ hL hn
                  simp [invNeeds, Region.binds] at hn
                  have e0 : xs 0 = .pointer (some ⟨q, 0, none⟩) := hI.val 0 (by decide) (by simp only [hn]) _ rfl
                  simp only [flowAct, List.zipWith_cons_cons, List.zipWith_nil_left]
                  simp only [e0]
                  go_wp2_with (fail)
                  exact ⟨rfl, _, rfl, hI.pure 1 (by decide) (fun _ h => h) (fun x hx => by injection hx with hx), hE.pure _ (by decide) (by decide) (by decide) (by decide)⟩
                · intro L xs W ⟨hI, hE⟩ hL hn
                  simp [invNeeds, Region.binds] at hn
                  have e1 : xs 1 = .pointer (some ⟨q, 0, none⟩) := hI.val 1 (by decide) (by simp only [hn]) _ rfl
                  simp only [flowAct, List.zipWith_cons_cons, List.zipWith_nil_left]
                  simp only [e1]
                  go_wp2_with (fail)
                  exact ⟨rfl, _, rfl, hI.pure 2 (by decide) (fun _ h => h) (fun x hx => by injection hx with hx), hE.pure _ (by decide) (by decide) (by decide) (by decide)⟩
                · intro L xs W ⟨hI, hE⟩ hL hn
                  simp [invNeeds, Region.binds] at hn
                  have e2 : xs 2 = .pointer (some ⟨q, 1, none⟩) := hI.val 2 (by decide) (by simp only [hn]) _ rfl
                  have z1 := InvQ.q1 HR8.out hI
                  simp only [flowAct, List.zipWith_cons_cons, List.zipWith_nil_left]
                  simp only [e2]
                  go_wp2_with (fail)
                  exact ⟨rfl, _, rfl, hI.pure 3 (by decide) (fun _ h => h) (fun x hx => by injection hx with hx), hE.pure _ (by decide) (by decide) (by decide) (by decide)⟩
                · intro L xs W ⟨hI, hE⟩ hL hn
                  simp only [flowAct, List.zipWith_cons_cons, List.zipWith_nil_left]
                  go_wp2_with (fail)
                  exact ⟨rfl, _, rfl, hI.pure 4 (by decide) (fun _ h => h) (fun x hx => by injection hx with hx), hE.pure _ (by decide) (by decide) (by decide) (by decide)⟩
                · intro L xs W ⟨hI, hE⟩ hL hn
                  have hb := hI.before (hI.later (j := 0) (j' := 3) rfl rfl (by decide) hL)
                  have HB := Lib.hid hb
                  clear hb
                  simp only [flowAct, List.zipWith_cons_cons, List.zipWith_nil_left]
                  go_wp2_with (fail)
                  refine ⟨rfl, _, rfl, hI.step 0 rfl hL (fun p hp => absurd hp.1 (by omega)) (by decide) (HB.out.alloc HB.out.size _) (fun x hx => by cases hx), ?_⟩
                  have L14 := hI.later (j := 0) (j' := 1) rfl rfl (by decide) hL
                  have L16 := hI.later (j := 0) (j' := 2) rfl rfl (by decide) hL
                  exact ⟨fun _ _ => ⟨_, rfl, OwnB.empty W w8.heap.size 5 HB.out.size⟩, fun h => by simp [L14] at h, fun h => by simp [L16] at h, fun h => by simp [L14] at h⟩
                · intro L xs W ⟨hI, hE⟩ hL hn
                  simp only [flowAct, List.zipWith_cons_cons, List.zipWith_nil_left]
                  go_wp2_with (fail)
                  exact ⟨rfl, _, rfl, hI.pure 6 (by decide) (fun _ h => h) (fun x hx => by injection hx with hx), hE.pure _ (by decide) (by decide) (by decide) (by decide)⟩
                · intro L xs W ⟨hI, hE⟩ hL hn
                  simp [invNeeds, Region.binds] at hn
                  have e6 : xs 6 = .pointer (some ⟨q, 0, none⟩) := hI.val 6 (by decide) (by simp only [hn]) _ rfl
                  simp only [flowAct, List.zipWith_cons_cons, List.zipWith_nil_left]
                  simp only [e6]
                  go_wp2_with (fail)
                  exact ⟨rfl, _, rfl, hI.pure 7 (by decide) (fun _ h => h) (fun x hx => by injection hx with hx), hE.pure _ (by decide) (by decide) (by decide) (by decide)⟩
                · intro L xs W ⟨hI, hE⟩ hL hn
                  simp [invNeeds, Region.binds] at hn
                  have e7 : xs 7 = .pointer (some ⟨q, 0, none⟩) := hI.val 7 (by decide) (by simp only [hn]) _ rfl
                  simp only [flowAct, List.zipWith_cons_cons, List.zipWith_nil_left]
                  simp only [e7]
                  go_wp2_with (fail)
                  exact ⟨rfl, _, rfl, hI.pure 8 (by decide) (fun _ h => h) (fun x hx => by injection hx with hx), hE.pure _ (by decide) (by decide) (by decide) (by decide)⟩
                · intro L xs W ⟨hI, hE⟩ hL hn
                  simp [invNeeds, Region.binds] at hn
                  have e8 : xs 8 = .pointer (some ⟨q, 1, none⟩) := hI.val 8 (by decide) (by simp only [hn]) _ rfl
                  have z1 := InvQ.q1 HR8.out hI
                  simp only [flowAct, List.zipWith_cons_cons, List.zipWith_nil_left]
                  simp only [e8]
                  go_wp2_with (fail)
                  exact ⟨rfl, _, rfl, hI.pure 9 (by decide) (fun _ h => h) (fun x hx => by injection hx with hx), hE.pure _ (by decide) (by decide) (by decide) (by decide)⟩
                · intro L xs W ⟨hI, hE⟩ hL hn
                  simp only [flowAct, List.zipWith_cons_cons, List.zipWith_nil_left]
                  go_wp2_with (fail)
                  exact ⟨rfl, _, rfl, hI.pure 10 (by decide) (fun _ h => h) (fun x hx => by injection hx with hx), hE.pure _ (by decide) (by decide) (by decide) (by decide)⟩
                · intro L xs W ⟨hI, hE⟩ hL hn
                  simp [invNeeds, Region.binds] at hn
                  have e9 : xs 9 = .slice (some ⟨g, 0, none⟩) n cap := hI.val 9 (by decide) (by simp only [hn]) _ rfl
                  have e10 : xs 10 = .int .i64 (i : Int) := hI.val 10 (by decide) (by simp only [hn]) _ rfl
                  simp only [flowAct, List.zipWith_cons_cons, List.zipWith_nil_left]
                  simp only [e9, e10]
                  go_wp2_with (fail)
                  exact ⟨rfl, _, rfl, hI.pure 11 (by decide) (fun _ h => h) (fun x hx => by injection hx with hx), hE.pure _ (by decide) (by decide) (by decide) (by decide)⟩
                · intro L xs W ⟨hI, hE⟩ hL hn
                  simp [invNeeds, Region.binds] at hn
                  have e11 : xs 11 = .pointer (some ⟨g, i * 3, none⟩) := hI.val 11 (by decide) (by simp only [hn]) _ rfl
                  simp only [flowAct, List.zipWith_cons_cons, List.zipWith_nil_left]
                  simp only [e11]
                  go_wp2_with (fail)
                  exact ⟨rfl, _, rfl, hI.pure 12 (by decide) (fun _ h => h) (fun x hx => by injection hx with hx), hE.pure _ (by decide) (by decide) (by decide) (by decide)⟩
                · intro L xs W ⟨hI, hE⟩ hL hn
                  simp [invNeeds, Region.binds] at hn
                  have e12 : xs 12 = .pointer (some ⟨g, i * 3 + 1, none⟩) := hI.val 12 (by decide) (by simp only [hn]) _ rfl
                  have L14 : L 14 = false := by
                    cases h : L 14 with
                    | false => rfl
                    | true => have := hE.2.2.2 h; rw [hL] at this; cases this
                  have hb := hI.before (hI.later (j := 1) (j' := 3) rfl rfl (by decide) L14)
                  obtain ⟨-, -, z3, -, -⟩ := HAT.out W hb
                  clear hb
                  simp only [flowAct, List.zipWith_cons_cons, List.zipWith_nil_left]
                  simp only [e12]
                  go_wp2_with (fail)
                  exact ⟨rfl, _, rfl, hI.pure 13 (by decide) (fun _ h => h) (fun x hx => by injection hx with hx), hE.pure _ (by decide) (by decide) (by decide) (by decide)⟩
                · intro L xs W ⟨hI, hE⟩ hL hn
                  simp [invNeeds, Region.binds] at hn
                  have e13 : xs 13 = .slice xa xl xc := hI.val 13 (by decide) (by simp only [hn]) _ rfl
                  have hb := hI.before (hI.later (j := 1) (j' := 3) rfl rfl (by decide) hL)
                  have HB := Lib.hid hb
                  clear hb
                  have h13 : L 13 = true := by simp only [hn]
                  obtain ⟨g7, e5, o7⟩ := hE.1 (by simp only [hn]) hL
                  simp only [flowAct, List.zipWith_cons_cons, List.zipWith_nil_left]
                  simp only [e13, e5]
                  go_wp2_with (refine wpList_append_e0 rfl _ _ 30 rfl (base := w8.heap.size) (e := 5) (g := g7) (l := fb) (i := i0) Try.underlying30 hi0 hz0 hz1 hz2 rfl o7 rfl (HXB.out.below HB.out) (by have := HLL.out; omega) HB.out.size ?_; intro v9 w9 ho9 hb9)
                  refine ⟨rfl, _, rfl, hI.step 1 rfl hL (fun p hp => by obtain ⟨-, h⟩ := hp; injection h with h; subst h; simp only [hn]) (by decide) (HB.out.trans (hb9.mono HB.out.size)) (fun x hx => by cases hx), ?_⟩
                  have L16 := hI.later (j := 1) (j' := 2) rfl rfl (by decide) hL
                  exact ⟨fun _ h => by simp at h, fun _ _ => ho9, fun h => by simp [L16] at h, fun _ => by simp [h13]⟩
                · intro L xs W ⟨hI, hE⟩ hL hn
                  simp only [flowAct, List.zipWith_cons_cons, List.zipWith_nil_left]
                  go_wp2_with (fail)
                  exact ⟨rfl, _, rfl, hI.pure 15 (by decide) (fun _ h => h) (fun x hx => by injection hx with hx), hE.pure _ (by decide) (by decide) (by decide) (by decide)⟩
                · intro L xs W ⟨hI, hE⟩ hL hn
                  simp [invNeeds, Region.binds] at hn
                  have e15 : xs 15 = .slice ab bl cb := hI.val 15 (by decide) (by simp only [hn]) _ rfl
                  have hb := hI.before (hI.later (j := 2) (j' := 3) rfl rfl (by decide) hL)
                  have HB := Lib.hid hb
                  clear hb
                  have HO14 := Lib.hid (hE.2.1 (by simp only [hn]) hL)
                  simp only [flowAct, List.zipWith_cons_cons, List.zipWith_nil_left]
                  simp only [e15]
                  go_wp2_with (refine wpList_append_bysA rfl _ _ 30 rfl (base := w8.heap.size) (e := 5) (v := xs 14) (k := fb) (l := l) (i := i0) (z := .int .u8 0) Try.underlying30 hi0 hz0 hz1 hz2 rfl rfl HO14.out rfl (HBL.out.below HB.out) (by have := HLL.out; have := HBL.out.len; have := HXB.out.len; omega) HB.out.size ?_; intro v9 w9 ho9 hg9 ha9)
                  refine ⟨rfl, _, rfl, hI.step 2 rfl hL (fun p hp => by obtain ⟨-, h⟩ := hp; injection h with h; subst h; simp only [hn]) (by decide) (HB.out.grown hg9 HB.out.size (fun k hk => (HO14.out.lt k hk).1)) (fun x hx => by cases hx), ?_⟩
                  have L14 : L 14 = true := by simp only [hn]
                  exact ⟨fun _ h => by simp [L14] at h, fun _ h => by simp at h, fun _ _ => ho9, fun _ => by simpa using hE.2.2.2 L14⟩
                · intro L xs W ⟨hI, hE⟩ hL hn
                  simp [invNeeds, Region.binds] at hn
                  have e3 : xs 3 = .slice (some ⟨g, 0, none⟩) n cap := hI.val 3 (by decide) (by simp only [hn]) _ rfl
                  have e4 : xs 4 = .int .i64 (i : Int) := hI.val 4 (by decide) (by simp only [hn]) _ rfl
                  simp only [flowAct, List.zipWith_cons_cons, List.zipWith_nil_left]
                  simp only [e3, e4]
                  go_wp2_with (fail)
                  exact ⟨rfl, _, rfl, hI.pure 17 (by decide) (fun _ h => h) (fun x hx => by injection hx with hx), hE.pure _ (by decide) (by decide) (by decide) (by decide)⟩
                · intro L xs W ⟨hI, hE⟩ hL hn
                  simp [invNeeds, Region.binds] at hn
                  have e17 : xs 17 = .pointer (some ⟨g, i * 3, none⟩) := hI.val 17 (by decide) (by simp only [hn]) _ rfl
                  simp only [flowAct, List.zipWith_cons_cons, List.zipWith_nil_left]
                  simp only [e17]
                  go_wp2_with (fail)
                  exact ⟨rfl, _, rfl, hI.pure 18 (by decide) (fun _ h => h) (fun x hx => by injection hx with hx), hE.pure _ (by decide) (by decide) (by decide) (by decide)⟩
                · intro L xs W ⟨hI, hE⟩ hL hn
                  simp [invNeeds, Region.binds] at hn
                  have e18 : xs 18 = .pointer (some ⟨g, i * 3 + 1, none⟩) := hI.val 18 (by decide) (by simp only [hn]) _ rfl
                  have hb := hI.before (hI.later (j := 3) (j' := 3) rfl rfl (by decide) hL)
                  have HB := Lib.hid hb
                  clear hb
                  have h16 : L 16 = true := by simp only [hn]
                  have ho16 := hE.2.2.1 h16 hL
                  obtain ⟨ua, uc, e16, -⟩ := ho16.bys
                  obtain ⟨m16, hm16⟩ : ∃ z, (fb ++ l).length = z := ⟨_, rfl⟩
                  rw [hm16] at e16
                  rw [e16] at ho16
                  have HO16 := Lib.hid ho16
                  obtain ⟨-, -, z3, -, z5⟩ := HAT.out W HB.out
                  have z6 := z5 (i * 3 + 1)
                  clear ho16 hm16 z5
                  simp only [flowAct, List.zipWith_cons_cons, List.zipWith_nil_left]
                  simp only [e18, e16]
                  go_wp2_with (fail)
                  refine ⟨rfl, undef, rfl, hI.step 3 rfl hL (fun p hp => by obtain ⟨-, h⟩ := hp; injection h with h; subst h; exact h16) (by decide) ⟨W, ua, m16, uc, HB.out, HO16.out, rfl⟩ (fun x hx => by cases hx), ?_⟩
                  exact ⟨fun h5 h14 => by
                    have h9 : L 14 = true := by
                      obtain ⟨k, hk, hs, -⟩ := hI.stage
                      exact (hs 1 14 rfl).2 (by have := (hs 2 16 rfl).1 h16; omega)
                    simp [h9] at h14, fun _ h => by simp [h16] at h, fun _ h => by simp at h, fun h => by simpa using hE.2.2.2 (by simpa using h)⟩
              · intro L xs W ⟨hI, _⟩ hL
                have hdone := (hI.done hL (by decide) (by decide)).1
                obtain ⟨W3, ua, m16, uc, hb3, ho3, rfl⟩ : ∃ W3 ua m uc, Below w8.heap.size w8 W3 ∧ OwnB W3 w8.heap.size 5 (.slice ua m uc) (fb ++ l) ∧ W = W3.setCell ⟨g, i * 3 + 1, none⟩ (.slice ua m uc) := hdone
                have hput := (HR8.out.below hb3).put_b HI.out.1 ho3 HTL.out HSL.out
                have htr : Trn (rfoot q (.slice (some ⟨g, 0, none⟩) n cap) FS) w (W3.setCell ⟨g, i * 3 + 1, none⟩ (.slice ua m16 uc)) := (HT8.out.then (Trn.of hb3)).set (.inl (.inr (.inl rfl)))
                have hfo : ∀ k, rfoot q (.slice (some ⟨g, 0, none⟩) n cap) (FS.set i ⟨.slice ua m16 uc, ⟨(FS.getD i Fr.zero).f.nm, fb ++ l, (FS.getD i Fr.zero).f.su⟩⟩) k → rfoot q (.slice (some ⟨g, 0, none⟩) n cap) FS k ∨ w.heap.size ≤ k := by
                  rintro k (h1 | h1 | ⟨x, hx, h1⟩)
                  · exact .inl (.inl h1)
                  · exact .inl (.inr (.inl h1))
                  · rcases List.mem_or_eq_of_mem_set hx with hx | rfl
                    · exact .inl (.inr (.inr ⟨x, hx, h1⟩))
                    · exact .inr (Nat.le_trans HT8.out.size (ho3.lt k h1).1)
                have HPUT := Lib.hid hput
                have HTR := Lib.hid htr
                have HFO := Lib.hid hfo
                clear hput htr hfo hb3 ho3
                simp only [flowAct, List.zipWith_cons_cons, List.zipWith_nil_left]
                generalize W3.setCell ⟨g, i * 3 + 1, none⟩ (.slice ua m16 uc) = W5 at *
                go_wp2
                go_ret
                exact ⟨rfl, _, ⟨_, _, HPUT.out, rfl⟩, HTR.out, HFO.out⟩
  
end Go.Proofs.Ytplanmiggeghfaa
