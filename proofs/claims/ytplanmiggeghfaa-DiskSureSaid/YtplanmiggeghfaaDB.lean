/-
  Disk: the program's Cut, Read.
-/
import Derived.Test.YtplanmiggeghfaaDA
import Derived.Shelf.Abstract
namespace Go.Proofs.Ytplanmiggeghfaa
open Go.RowKit Go Go.Sort Go.Maps Go.WideMaps
set_option linter.unusedVariables false
set_option maxRecDepth 20000

set_option maxRecDepth 100000 in
set_option maxHeartbeats 6400000 in
theorem dcut_c {w : World} {q : Nat} {st : Ds} {F : Nat → Prop} (hk : Dk w q st F) (nm : List UInt8) (hn : nm.length ≤ 9223372036854775807) (n : Int) : Calls Try.prog 51 #[.pointer (some ⟨q, 0, none⟩), .string (text nm), .int .i64 n] w (DPost q F (.int .i64 (st.cut nm n).1) (st.cut nm n).2 w) := by
  obtain ⟨m, pv, FS, h, rfl⟩ := hk
  have hb := alloc_below w (.cells #[.int .i64 n] 3)
  have HV0 := Lib.hid (heap_alloc_new w (.cells #[.int .i64 n] 3))
  have HD1 := Lib.hid (h.below hb)
  have HFL := Lib.hid (fun k (hk : foot q m pv FS k) => h.lt hk)
  have HB := Lib.hid hb
  have HLF := Lib.hid (h.lookF nm)
  have HN := Lib.hid hn
  clear h hb hn
  cases hon : st.on with
  | false =>
    have HON := Lib.hid hon
    have HR := Lib.hid (show st.cut nm n = (150, st) by unfold Ds.cut; rw [if_pos hon])
    rw [HR.out]
    clear hon
    go_enter Try.func51, Try.ntmps51
    go_upto_region 1 with (fail)
    generalize w.alloc (.cells #[.int .i64 n] 3) = W1 at *
    go_wp2_with (go_at_call 59; (with_reducible refine (dfind_off HD1.out _ HON.out).mono ?_); rintro e9 w9 ⟨rfl, rfl⟩)
    go_ret
    exact (dk_below (⟨m, pv, FS, HD1.out, rfl⟩ : Dk W1 q st _) (alloc_below _ _) _).pre HB.out
  | true =>
    have HON := Lib.hid hon
    cases hf : FS.find? (fun x => x.f.nm == nm) with
    | none =>
      have HF := Lib.hid hf
      have HR := Lib.hid (show st.cut nm n = (152, st) by unfold Ds.cut; rw [if_neg (by simp [hon]), HLF.out, hf]; rfl)
      rw [HR.out]
      have HFN := Lib.hid (dfind_none HD1.out nm HN.out HON.out HF.out)
      obtain ⟨tx, htx⟩ : ∃ s, text nm = s := ⟨_, rfl⟩
      rw [htx] at HFN ⊢
      clear htx hon hf
      go_enter Try.func51, Try.ntmps51
      go_upto_region 1 with (fail)
      generalize w.alloc (.cells #[.int .i64 n] 3) = W1 at *
      go_wp2_with (go_at_call 59; (with_reducible refine HFN.out.mono ?_); rintro e9 w9 ⟨rfl, rfl⟩)
      go_ret
      exact (dk_below (⟨m, pv, FS, HD1.out, rfl⟩ : Dk W1 q st _) (alloc_below _ _) _).pre HB.out
    | some x =>
      have HF := Lib.hid hf
      have HLS := Lib.hid (show lookF st.F nm = some x.f by rw [HLF.out, hf]; rfl)
      have HFI := Lib.hid (HD1.out.file hf)
      have HFN := Lib.hid (dfind_some HD1.out nm HN.out HON.out HF.out)
      have hb4 := alloc_below (w.alloc (.cells #[.int .i64 n] 3)) (.cells #[.pointer (some ⟨x.g, 0, none⟩)] 94)
      have hv4 := heap_alloc_new (w.alloc (.cells #[.int .i64 n] 3)) (.cells #[.pointer (some ⟨x.g, 0, none⟩)] 94)
      rw [World.size_alloc] at hv4
      have HV4 := Lib.hid hv4
      have HXG0 := Lib.hid (show x.g = x.g from rfl)
      have HV5 := Lib.hid (heapB HV0.out hb4)
      have HD4 := Lib.hid (HD1.out.below hb4)
      have HB4 := Lib.hid (HB.out.trans (hb4.mono HB.out.size))
      obtain ⟨-, -, hxl, hxs, xa, xc, hxv, hxb, hbx⟩ := HD4.out.file hf
      obtain ⟨xl, hxl2⟩ : ∃ n, x.f.b.length = n := ⟨_, rfl⟩
      obtain ⟨xg, hxg⟩ : ∃ n, x.g = n := ⟨_, rfl⟩
      obtain ⟨tx, htx⟩ : ∃ s, text nm = s := ⟨_, rfl⟩
      rw [hxl2, hxg] at hbx
      rw [hxl2] at hxl
      have HXL := Lib.hid hxl2
      have HBX := Lib.hid hbx
      have HXL2 := Lib.hid hxl
      rw [hxg] at HFN HV4 HV5 HD4 HB4
      replace HXG0 := Lib.hid hxg
      rw [htx] at HFN ⊢
      have HMU := Lib.hid (show st.cut nm n = st.cut nm n from rfl)
      clear hb4 hv4 hxs hxv hxb hbx hxl hon hf
      clear hxl2 hxg htx
      by_cases hneg : n < 0
      · have HR := Lib.hid (show st.cut nm n = (2, st) by
          unfold Ds.cut; rw [if_neg (by rw [HON.out]; simp), HLS.out]; simp only; rw [if_pos (.inl hneg)])
        rw [HR.out]
        have hd : decide (n < 0) = true := by simpa using hneg
        go_enter Try.func51, Try.ntmps51
        go_upto_region 4 with (go_at_call 59; (with_reducible refine HFN.out.mono ?_); rintro e9 w9 ⟨rfl, rfl⟩)
        generalize hW4 : (w.alloc (.cells #[.int .i64 n] 3)).alloc (.cells #[.pointer (some ⟨xg, 0, none⟩)] 94) = W4 at *
        clear hW4
        have k0 := cell_regrown (var_c HV5.out)
        have k1 := cell_regrown (var_c HV4.out)
        have k2 := cell_regrown (box_cs HBX.out).1
        refine wp_region_quiet_below (by kernel_rfl) (by kernel_rfl) ?_
        repeat (go_big_quiet_step (fail))
        refine wpQuiet_nil ?_
        intro _ hw'
        obtain ⟨⟨dq5, osq5⟩, hw''⟩ := hw'
        subst hw''
        have hbq := below_regrown W4 dq5 osq5
        clear k0 k1 k2
        go_wp2
        go_ret
        exact (dk_below (⟨m, pv, FS, HD4.out, rfl⟩ : Dk W4 q st _) hbq _).pre HB4.out
      obtain ⟨k, rfl⟩ := Int.eq_ofNat_of_zero_le (show 0 ≤ n by omega)
      clear hneg
      have hd0 : ¬ ((k : Nat) : Int) < 0 := by omega
      have hd1 : decide (((k : Nat) : Int) < 0) = false := by simp
      by_cases hbig : (xl : Int) < (k : Int)
      · have HR := Lib.hid (show st.cut nm k = (2, st) by
          unfold Ds.cut; rw [if_neg (by rw [HON.out]; simp), HLS.out]; simp only; rw [if_pos (.inr (by rw [HXL.out]; exact hbig))])
        rw [HR.out]
        have hd : decide ((xl : Int) < (k : Int)) = true := by simpa using hbig
        go_enter Try.func51, Try.ntmps51
        go_upto_region 4 with (go_at_call 59; (with_reducible refine HFN.out.mono ?_); rintro e9 w9 ⟨rfl, rfl⟩)
        generalize hW4 : (w.alloc (.cells #[.int .i64 (k : Int)] 3)).alloc (.cells #[.pointer (some ⟨xg, 0, none⟩)] 94) = W4 at *
        clear hW4
        have k0 := cell_regrown (var_c HV5.out)
        have k1 := cell_regrown (var_c HV4.out)
        have k2 := cell_regrown (box_cs HBX.out).1
        refine wp_region_quiet_below (by kernel_rfl) (by kernel_rfl) ?_
        repeat (go_big_quiet_step (fail))
        refine wpQuiet_nil ?_
        intro _ hw'
        obtain ⟨⟨dq5, osq5⟩, hw''⟩ := hw'
        subst hw''
        have hbq := below_regrown W4 dq5 osq5
        clear k0 k1 k2
        go_wp2
        go_ret
        exact (dk_below (⟨m, pv, FS, HD4.out, rfl⟩ : Dk W4 q st _) hbq _).pre HB4.out
      have HR := Lib.hid (show st.cut nm k = st.opd (setF nm fun f => ⟨f.nm, f.b.take k, min f.su k⟩) id by
        unfold Ds.cut; rw [if_neg (by rw [HON.out]; simp), HLS.out]; simp only; rw [if_neg (by rw [HXL.out]; omega)]; rfl)
      rw [HR.out]
      have hd : decide ((xl : Int) < (k : Int)) = false := by simpa using hbig
      have HKL := Lib.hid (show k ≤ x.f.b.length by rw [HXL.out]; omega)
      go_enter Try.func51, Try.ntmps51
      go_upto_region 4 with (go_at_call 59; (with_reducible refine HFN.out.mono ?_); rintro e9 w9 ⟨rfl, rfl⟩)
      generalize hW4 : (w.alloc (.cells #[.int .i64 (k : Int)] 3)).alloc (.cells #[.pointer (some ⟨xg, 0, none⟩)] 94) = W4 at *
      clear hW4
      have k0 := cell_regrown (var_c HV5.out)
      have k1 := cell_regrown (var_c HV4.out)
      have k2 := cell_regrown (box_cs HBX.out).1
      refine wp_region_quiet_below (by kernel_rfl) (by kernel_rfl) ?_
      repeat (go_big_quiet_step (fail))
      refine wpQuiet_nil ?_
      intro _ hw'
      obtain ⟨⟨dq5, osq5⟩, hw''⟩ := hw'
      subst hw''
      have hbq := below_regrown W4 dq5 osq5
      clear k0 k1 k2
      have HB5 := Lib.hid hbq
      have HD5 := Lib.hid (HD4.out.below hbq)
      have HV8 := Lib.hid (heapB HV4.out hbq)
      have HV9 := Lib.hid (heapB HV5.out hbq)
      clear hbq
      generalize grow (redrawn W4 dq5) osq5 = W5 at *
      have HE0 := Lib.hid (enD Try.func76 (by kernel_rfl) rfl)
      have HXG := Lib.hid (show x.g = xg from HXG0.out)
      have HOP := Lib.hid (doperate20_c HD5.out HE0.out enNothing (x0 := .pointer (some ⟨w.heap.size + 1, 0, none⟩)) (x1 := .pointer (some ⟨w.heap.size, 0, none⟩)) (setF nm fun f => ⟨f.nm, f.b.take k, min f.su k⟩) id
        (fun W st' ht hF hd => dcut1_c hd HF.out (by rw [HXG.out]; exact ht.box HFL.out (by omega) HV8.out) (ht.box HFL.out (Nat.le_refl _) HV9.out) HKL.out)
        (fun W st' ht hF hd => dnothing_c hd))
      go_wp2_with (go_at_call 65; (with_reducible refine HOP.out.mono ?_); rintro e5 w5 ⟨rfl, F5, hk5, ht5, hf5⟩; have HP5 := Lib.hid (And.intro hk5 (And.intro ht5 hf5)); clear hk5 ht5 hf5)
      go_ret
      exact DPost.pre HB4.out (DPost.pre HB5.out ⟨rfl, F5, HP5.out⟩)
end Go.Proofs.Ytplanmiggeghfaa
