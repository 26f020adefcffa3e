/-
  Disk: the program's Append, Cut, Read.
-/
import Derived.Test.YtplanmiggeghfaaD9
import Derived.Shelf.Abstract
import Derived.Test.YtplanmiggeghfaaPM
namespace Go.Proofs.Ytplanmiggeghfaa
open Go.RowKit Go Go.Sort Go.Maps Go.WideMaps
set_option linter.unusedVariables false
set_option maxRecDepth 20000

theorem Bys.trn {F : Nat → Prop} {w W : World} {a : Option Addr} {n cap : Nat} {l : List UInt8} (h : Bys w a n cap l) (hn : 0 < n → ∀ b off, a = some ⟨b, off, none⟩ → ¬ F b) (ht : Trn F w W) : Bys W a n cap l := by
  refine ⟨h.len, h.le, h.max, ?_⟩
  rcases h.adr with h4 | ⟨b, off, rfl, hc⟩
  · exact .inl h4
  · exact .inr ⟨b, off, rfl, fun i hi => by rw [World.cell?_of_block (ht.block b (World.block_lt_of_cell? w _ (hc i hi)) (hn (by omega) b off rfl))]; exact hc i hi⟩
theorem used_F {w : World} {q m : Nat} {pv : Value} {FS : List Fl} {st : Ds} (h : DiskIn w q m pv FS st) : usedF st.F ≤ 67108864 := by
  have hu : usedF st.F = (FS.map fun x => x.f.b.length).sum := by unfold usedF; rw [← h.pr, List.map_map]; rfl
  rw [hu]
  exact h.few (Nat.le_refl _) (fun x hx => hx)
set_option maxRecDepth 100000 in
set_option maxHeartbeats 6400000 in
theorem dappend_c {w : World} {q : Nat} {st : Ds} {F : Nat → Prop} (hk : Dk w q st F) (nm : List UInt8) (hn : nm.length ≤ 9223372036854775807) {ab : Option Addr} {bl cb : Nat} {l : List UInt8} (hbl : Bys w ab bl cb l) (hbl2 : l.length ≤ 1000000) (hbn : 0 < bl → ∀ b off, ab = some ⟨b, off, none⟩ → ¬ F b) : Calls Try.prog 28 #[.pointer (some ⟨q, 0, none⟩), .string (text nm), .slice ab bl cb] w (DPost q F (.int .i64 (st.append nm l).1) (st.append nm l).2 w) := by
  obtain ⟨m, pv, FS, h, rfl⟩ := hk
  have hb := alloc_below w (.cells #[.slice ab bl cb] 30)
  have HV0 := Lib.hid (heap_alloc_new w (.cells #[.slice ab bl cb] 30))
  have HD1 := Lib.hid (h.below hb)
  have HFL := Lib.hid (fun k (hk : foot q m pv FS k) => h.lt hk)
  have HB := Lib.hid hb
  have HLF := Lib.hid (h.lookF nm)
  have HN := Lib.hid hn
  have HUS := Lib.hid (used_F h)
  have HBL := Lib.hid (hbl.below hb)
  have HBN := Lib.hid hbn
  have hlb := hbl.len
  have HLB := Lib.hid (show l.length = bl ∧ bl ≤ 1000000 from ⟨hlb, by omega⟩)
  clear hbl hbl2 hbn hlb
  clear h hb hn
  cases hon : st.on with
  | false =>
    have HON := Lib.hid hon
    have HR := Lib.hid (show st.append nm l = (150, st) by unfold Ds.append; rw [if_pos hon])
    rw [HR.out]
    clear hon
    go_enter Try.func28, Try.ntmps28
    go_upto_region 1 with (fail)
    generalize w.alloc (.cells #[.slice ab bl cb] 30) = W1 at *
    go_wp2_with (go_at_call 59; (with_reducible refine (dfind_off HD1.out _ HON.out).mono ?_); rintro e9 w9 ⟨rfl, rfl⟩)
    go_ret
    exact (dk_below (⟨m, pv, FS, HD1.out, rfl⟩ : Dk W1 q st _) (alloc_below _ _) _).pre HB.out
  | true =>
    have HON := Lib.hid hon
    cases hf : FS.find? (fun x => x.f.nm == nm) with
    | none =>
      have HF := Lib.hid hf
      have HR := Lib.hid (show st.append nm l = (152, st) by unfold Ds.append; rw [if_neg (by simp [hon]), HLF.out, hf]; rfl)
      rw [HR.out]
      have HFN := Lib.hid (dfind_none HD1.out nm HN.out HON.out HF.out)
      obtain ⟨tx, htx⟩ : ∃ s, text nm = s := ⟨_, rfl⟩
      rw [htx] at HFN ⊢
      clear htx hon hf
      go_enter Try.func28, Try.ntmps28
      go_upto_region 1 with (fail)
      generalize w.alloc (.cells #[.slice ab bl cb] 30) = W1 at *
      go_wp2_with (go_at_call 59; (with_reducible refine HFN.out.mono ?_); rintro e9 w9 ⟨rfl, rfl⟩)
      go_ret
      exact (dk_below (⟨m, pv, FS, HD1.out, rfl⟩ : Dk W1 q st _) (alloc_below _ _) _).pre HB.out
    | some x =>
      have HF := Lib.hid hf
      have HLS := Lib.hid (show lookF st.F nm = some x.f by rw [HLF.out, hf]; rfl)
      have HFI := Lib.hid (HD1.out.file hf)
      have HFN := Lib.hid (dfind_some HD1.out nm HN.out HON.out HF.out)
      have hb4 := alloc_below (w.alloc (.cells #[.slice ab bl cb] 30)) (.cells #[.pointer (some ⟨x.g, 0, none⟩)] 94)
      have hv4 := heap_alloc_new (w.alloc (.cells #[.slice ab bl cb] 30)) (.cells #[.pointer (some ⟨x.g, 0, none⟩)] 94)
      rw [World.size_alloc] at hv4
      have HV4 := Lib.hid hv4
      have HB47 := Lib.hid hb4
      have HXG0 := Lib.hid (show x.g = x.g from rfl)
      have HV5 := Lib.hid (heapB HV0.out hb4)
      have HD4 := Lib.hid (HD1.out.below hb4)
      have HB4 := Lib.hid (HB.out.trans (hb4.mono HB.out.size))
      obtain ⟨-, -, hxl, hxs, xa, xc, hxv, hxb, hbx⟩ := HD4.out.file hf
      obtain ⟨xl, hxl2⟩ : ∃ n, x.f.b.length = n := ⟨_, rfl⟩
      obtain ⟨xg, hxg⟩ : ∃ n, x.g = n := ⟨_, rfl⟩
      obtain ⟨tx, htx⟩ : ∃ s, text nm = s := ⟨_, rfl⟩
      rw [hxl2, hxg] at hbx
      rw [hxl2] at hxl
      have HXL := Lib.hid hxl2
      have HBX := Lib.hid hbx
      have HXL2 := Lib.hid hxl
      rw [hxg] at HFN HV4 HV5 HD4 HB4 HB47
      replace HXG0 := Lib.hid hxg
      rw [htx] at HFN ⊢
      have HMU := Lib.hid (show st.append nm l = st.append nm l from rfl)
      clear hb4 hv4 hxs hxv hxb hbx hxl hon hf
      have s1 : IntKind.i64.wrap ((xl : Int) + (bl : Int)) = ((xl + bl : Nat) : Int) := by have := HLB.out; have := HXL2.out; rw [IntKind.wrap_i64]; omega
      have s2 : wrap64 ((xl : Int) + (bl : Int)) = ((xl + bl : Nat) : Int) := by have := HLB.out; have := HXL2.out; unfold wrap64; omega
      have HS1 := Lib.hid s1
      have HS2 := Lib.hid s2
      clear s1 s2 hxl2 hxg htx
      by_cases hlong : 1048576 < xl + bl
      · have HR := Lib.hid (show st.append nm l = (3, st) by
          unfold Ds.append; rw [if_neg (by rw [HON.out]; simp), HLS.out]; simp only; rw [if_pos (by have := HLB.out; have := HXL.out; omega)])
        rw [HR.out]
        have hd : decide ((1048576 : Int) < ((xl + bl : Nat) : Int)) = true := by simp; omega
        have hd3 : (1048576 : Int) < (xl : Int) + (bl : Int) := by omega
        clear hlong
        go_enter Try.func28, Try.ntmps28
        go_upto_region 4 with (go_at_call 59; (with_reducible refine HFN.out.mono ?_); rintro e9 w9 ⟨rfl, rfl⟩)
        generalize hW4 : (w.alloc (.cells #[.slice ab bl cb] 30)).alloc (.cells #[.pointer (some ⟨xg, 0, none⟩)] 94) = W4 at *
        clear hW4
        have k0 := cell_regrown (var_c HV5.out)
        have k1 := cell_regrown (var_c HV4.out)
        have k2 := cell_regrown (box_cs HBX.out).1
        have s1 := HS1.out
        have s2 := HS2.out
        refine wp_region_quiet_below (by kernel_rfl) (by kernel_rfl) ?_
        repeat (go_big_quiet_step (fail))
        refine wpQuiet_nil ?_
        intro _ hw'
        obtain ⟨⟨dq5, osq5⟩, hw''⟩ := hw'
        subst hw''
        have hbq := below_regrown W4 dq5 osq5
        clear k0 k1 k2 s1 s2
        go_wp2
        go_ret
        exact (dk_below (⟨m, pv, FS, HD4.out, rfl⟩ : Dk W4 q st _) hbq _).pre HB4.out
      · have hd : decide ((1048576 : Int) < ((xl + bl : Nat) : Int)) = false := by simp; omega
        have hd3 : ¬ (1048576 : Int) < (xl : Int) + (bl : Int) := by omega
        obtain ⟨us, hus⟩ : ∃ n, usedF st.F = n := ⟨_, rfl⟩
        have HUS2 := Lib.hid (show usedF st.F = us ∧ us ≤ 67108864 from ⟨hus, by have := HUS.out; omega⟩)
        have s3 : IntKind.i64.wrap ((us : Int) + (bl : Int)) = ((us + bl : Nat) : Int) := by have := HLB.out; have := HUS2.out; rw [IntKind.wrap_i64]; omega
        have s4 : wrap64 ((us : Int) + (bl : Int)) = ((us + bl : Nat) : Int) := by have := HLB.out; have := HUS2.out; unfold wrap64; omega
        have HS3 := Lib.hid (And.intro s3 s4)
        have HD := Lib.hid (And.intro hd hd3)
        have HLG := Lib.hid hlong
        clear s3 s4 hd hd3 hlong hus
        by_cases hroom : st.room < ((us + bl : Nat) : Int)
        · have HR := Lib.hid (show st.append nm l = (151, st) by
            unfold Ds.append; rw [if_neg (by rw [HON.out]; simp), HLS.out]; simp only
            rw [if_neg (by have := HLB.out; have := HXL.out; have := HLG.out; omega), if_pos (by have := HLB.out; have := HUS2.out; omega)])
          rw [HR.out]
          have HDR := Lib.hid (show decide (st.room < ((us + bl : Nat) : Int)) = true ∧ st.room < (us : Int) + (bl : Int) from ⟨by simpa using hroom, by omega⟩)
          clear hroom
          go_enter Try.func28, Try.ntmps28
          go_upto_region 4 with (go_at_call 59; (with_reducible refine HFN.out.mono ?_); rintro e9 w9 ⟨rfl, rfl⟩)
          generalize hW4 : (w.alloc (.cells #[.slice ab bl cb] 30)).alloc (.cells #[.pointer (some ⟨xg, 0, none⟩)] 94) = W4 at *
          clear hW4
          have k0 := cell_regrown (var_c HV5.out)
          have k1 := cell_regrown (var_c HV4.out)
          have k2 := cell_regrown (box_cs HBX.out).1
          have s1 := HS1.out
          have s2 := HS2.out
          obtain ⟨hd, hd3⟩ := HD.out
          refine wp_region_quiet_below (by kernel_rfl) (by kernel_rfl) ?_
          repeat (go_big_quiet_step (fail))
          refine wpQuiet_nil ?_
          intro _ hw'
          obtain ⟨⟨dq5, osq5⟩, hw''⟩ := hw'
          subst hw''
          have hbq := below_regrown W4 dq5 osq5
          have HB5 := Lib.hid hbq
          have HD5 := Lib.hid (HD4.out.below hbq)
          have HV45 := Lib.hid (heapB HV5.out hbq)
          clear k0 k1 k2 s1 s2 hbq
          generalize grow (redrawn W4 dq5) osq5 = W5 at *
          have k0 := cell_regrown (var_c HV45.out)
          have k3 := cell_regrown HD5.out.cs.2.1
          have hus := fun (d : Nat) (os : Array Obj) => (dused_c (HD5.out.below (below_regrown W5 d os))).regrown_of
          rw [HUS2.out.1] at hus
          have HUD := Lib.hid hus
          obtain ⟨s3, s4⟩ := HS3.out
          obtain ⟨hdr, hdr2⟩ := HDR.out
          clear hus
          go_upto_region 6 with (fail)
          clear hd hd3
          refine wp_region_quiet_below (by kernel_rfl) (by kernel_rfl) ?_
          repeat (go_big_quiet_step (with_reducible exact HUD.out _ _))
          refine wpQuiet_nil ?_
          intro _ hw'
          obtain ⟨⟨dq6, osq6⟩, hw''⟩ := hw'
          subst hw''
          have hbq := below_regrown W5 dq6 osq6
          have HB6 := Lib.hid (HB5.out.trans (hbq.mono HB5.out.size))
          clear k0 k3 s3 s4 hbq
          generalize grow (redrawn W5 dq6) osq6 = W6 at *
          go_wp2
          go_ret
          exact (dk_below (⟨m, pv, FS, HD4.out, rfl⟩ : Dk W4 q st _) HB6.out _).pre HB4.out
        · have HR := Lib.hid (show st.append nm l = st.opd (setF nm fun f => ⟨f.nm, f.b ++ l, f.su⟩) (setF nm fun f => ⟨f.nm, f.b ++ l, f.su⟩) by
            unfold Ds.append; rw [if_neg (by rw [HON.out]; simp), HLS.out]; simp only
            rw [if_neg (by have := HLB.out; have := HXL.out; have := HLG.out; omega), if_neg (by have := HLB.out; have := HUS2.out; omega)])
          rw [HR.out]
          have HDR := Lib.hid (show decide (st.room < ((us + bl : Nat) : Int)) = false ∧ ¬ st.room < (us : Int) + (bl : Int) from ⟨by simpa using hroom, by omega⟩)
          clear hroom
          go_enter Try.func28, Try.ntmps28
          go_upto_region 4 with (go_at_call 59; (with_reducible refine HFN.out.mono ?_); rintro e9 w9 ⟨rfl, rfl⟩)
          generalize hW4 : (w.alloc (.cells #[.slice ab bl cb] 30)).alloc (.cells #[.pointer (some ⟨xg, 0, none⟩)] 94) = W4 at *
          clear hW4
          have k0 := cell_regrown (var_c HV5.out)
          have k1 := cell_regrown (var_c HV4.out)
          have k2 := cell_regrown (box_cs HBX.out).1
          have s1 := HS1.out
          have s2 := HS2.out
          obtain ⟨hd, hd3⟩ := HD.out
          refine wp_region_quiet_below (by kernel_rfl) (by kernel_rfl) ?_
          repeat (go_big_quiet_step (fail))
          refine wpQuiet_nil ?_
          intro _ hw'
          obtain ⟨⟨dq5, osq5⟩, hw''⟩ := hw'
          subst hw''
          have hbq := below_regrown W4 dq5 osq5
          have HB5 := Lib.hid hbq
          have HD5 := Lib.hid (HD4.out.below hbq)
          have HV45 := Lib.hid (heapB HV5.out hbq)
          clear k0 k1 k2 s1 s2 hbq
          generalize grow (redrawn W4 dq5) osq5 = W5 at *
          have k0 := cell_regrown (var_c HV45.out)
          have k3 := cell_regrown HD5.out.cs.2.1
          have hus := fun (d : Nat) (os : Array Obj) => (dused_c (HD5.out.below (below_regrown W5 d os))).regrown_of
          rw [HUS2.out.1] at hus
          have HUD := Lib.hid hus
          obtain ⟨s3, s4⟩ := HS3.out
          obtain ⟨hdr, hdr2⟩ := HDR.out
          clear hus
          go_upto_region 6 with (fail)
          clear hd hd3
          refine wp_region_quiet_below (by kernel_rfl) (by kernel_rfl) ?_
          repeat (go_big_quiet_step (with_reducible exact HUD.out _ _))
          refine wpQuiet_nil ?_
          intro _ hw'
          obtain ⟨⟨dq6, osq6⟩, hw''⟩ := hw'
          subst hw''
          have hbq := below_regrown W5 dq6 osq6
          have HB6 := Lib.hid (HB5.out.trans (hbq.mono HB5.out.size))
          clear k0 k3 s3 s4 hbq
          generalize grow (redrawn W5 dq6) osq6 = W6 at *
          have HV8 := Lib.hid (heapB HV4.out HB6.out)
          have HV9 := Lib.hid (heapB HV5.out HB6.out)
          have HD8 := Lib.hid (HD4.out.below HB6.out)
          have HBL8 := Lib.hid (HBL.out.below (HB47.out.trans (HB6.out.mono HB47.out.size)))
          have HE0 := Lib.hid (enD Try.func69 (by kernel_rfl) rfl)
          have HXX := Lib.hid (show x.f.b.length + l.length ≤ 1048576 by have := HLB.out; have := HXL.out; have := HLG.out; omega)
          have HXG := Lib.hid (show x.g = xg from HXG0.out)
          have HOP := Lib.hid (doperate22_c HD8.out HE0.out HE0.out (x0 := .pointer (some ⟨w.heap.size + 1, 0, none⟩)) (x1 := .pointer (some ⟨w.heap.size, 0, none⟩)) (y0 := .pointer (some ⟨w.heap.size + 1, 0, none⟩)) (y1 := .pointer (some ⟨w.heap.size, 0, none⟩)) (setF nm fun f => ⟨f.nm, f.b ++ l, f.su⟩) (setF nm fun f => ⟨f.nm, f.b ++ l, f.su⟩)
            (fun W st' ht hF hd => dappend1_c hd HF.out (by rw [HXG.out]; exact ht.box HFL.out (by omega) HV8.out) (ht.box HFL.out (Nat.le_refl _) HV9.out) (HBL8.out.trn HBN.out ht) HXX.out)
            (fun W st' ht hF hd => dappend1_c hd HF.out (by rw [HXG.out]; exact ht.box HFL.out (by omega) HV8.out) (ht.box HFL.out (Nat.le_refl _) HV9.out) (HBL8.out.trn HBN.out ht) HXX.out))
          go_wp2_with (go_at_call 65; (with_reducible refine HOP.out.mono ?_); rintro e5 w5 ⟨rfl, F5, hk5, ht5, hf5⟩; have HP5 := Lib.hid (And.intro hk5 (And.intro ht5 hf5)); clear hk5 ht5 hf5)
          go_ret
          exact DPost.pre HB4.out (DPost.pre HB6.out ⟨rfl, F5, HP5.out⟩)
end Go.Proofs.Ytplanmiggeghfaa
