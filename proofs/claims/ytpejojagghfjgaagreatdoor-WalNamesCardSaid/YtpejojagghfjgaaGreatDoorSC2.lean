/-
  Merged: DA DE DL WM1 WM2 NW PW Tb IZ IW WL1 WL2 Rd WL3 WL4 DC WM3 WM4 WM5 WM6 WM7 IQ WM8 CM CB CW Co CF FM PP RP FW WM9 DS DO DM DN DP.
-/
import Derived.WalkKit
import Derived.Laws.CopyOwn
import Derived.WalkSmall
import Derived.Deep.QuietTactic
import Derived.StillTail
import Derived.Lib.QuietBelow
import Derived.Test.YtpejojagghfjgaaGreatDoorRows
import Derived.Lib.Hide
import Derived.BigQuiet
import Derived.BigRegion
import Derived.Deep.Cut
import Derived.Deep.MidRow
import Derived.Great.BuildSlice
import Derived.Outline
import Derived.OwnWalk
import Derived.Laws.Rows
import Derived.ChangeKeysEq
import Derived.Laws.StructEq
import Derived.Deep.DeepAppendWide
import Derived.Deep.AppendSrc
import Derived.Maps.RangeWalk
import Derived.Maps.OwnSet
import Derived.Maps.OwnOps
import Derived.Lib.MinMax
import Derived.Deep.RegionWith
import Derived.Maps.AppendAt
import Derived.Shelf.Abstract
import Derived.Lib.ConvBytes
import Derived.Lib.SlBytesConst
import Derived.WalkSpells
import Derived.WalkLawsBesides
import Derived.Lib.LaidTab
import Derived.Stop.LaidErr
import Derived.Lib.ItoaNum
import Derived.Shelf.Strings.Builder1
import Derived.Shelf.Strings.Builder2
import Derived.Shelf.Small.Bits
import Derived.Shelf.Strings.BuilderF
import Derived.Shelf.Strconv.Atoi
import Derived.Shelf.Strconv.Itoa0
import Derived.Shelf.Strconv.Itoa1
import Derived.Shelf.LaysM
import Derived.Shelf.Strconv.Itoa2
import Derived.Shelf.Strconv.Itoa3
import Derived.Shelf.Strconv.AtoiErrFast
import Derived.Shelf.Strconv.ParseIntEmpty
import Derived.Shelf.Strconv.AtoiFail
import Derived.Shelf.Strconv.Clone
import Derived.Shelf.Strconv.SyntaxError
import Derived.Shelf.LaysC
import Derived.Shelf.Strconv.ToError
import Derived.Shelf.Strconv.Lower
import Derived.Shelf.Strconv.ParseUint10
import Derived.Shelf.Strconv.ParseUint10Empty
import Derived.Shelf.Strconv.ParseUint10Any
import Derived.Shelf.Strconv.ParseInt10
import Derived.Shelf.Strconv.AtoiLong
import Derived.Shelf.Strconv.AtoiInnerAll
import Derived.Shelf.Strconv.RangeError
import Derived.Shelf.Strconv.ToErrorRange
import Derived.Shelf.Strconv.AtoiAll
import Derived.Shelf.Strconv.ErrVarAll
import Derived.Shelf.Sort.Plain
import Derived.Shelf.Strings.Prefix
import Derived.Shelf.Bits.Mul64
import Derived.Shelf.Strings.Repeat
import Derived.Ground.Names2Prog
import Derived.Shelf.Slices.Delete
import Derived.Shelf.Slices.Cells
import Derived.Shelf.Slices.In.SortNone
import Derived.Shelf.Slices.Empties
import Derived.Test.YtpejojagghfjgaaGreatDoorProg
import Derived.Lib.AtoiTie
import Derived.Lib.AtoiAll
import Derived.Lib.ItoaMem
import Derived.Lib.ItoaLen
import Derived.Lib.AtoiErrMem
import Derived.Lib.AtoiAllCases
import Derived.WideShapes
import Derived.OpenShut
import Derived.ChangeSlices
import Derived.Deep.RegionLaw
import Derived.Deep.RegionHeld3
import Derived.Sort.OwnSorted
import Derived.Sort.KeysCollected
import Derived.Deep.Slices
import Derived.Test.YtpejojagghfjgaaGreatDoorSC1

section
namespace Go.Proofs.YtpejojagghfjgaaGreatDoor
open Go.RowKit Go Go.Sort Go.Maps Go.WideMaps
set_option linter.unusedVariables false
set_option maxRecDepth 20000

theorem Bys.trn {F : Nat → Prop} {w W : World} {a : Option Addr} {n cap : Nat} {l : List UInt8} (h : Bys w a n cap l) (hn : 0 < n → ∀ b off, a = some ⟨b, off, none⟩ → ¬ F b) (ht : Trn F w W) : Bys W a n cap l := by
  refine ⟨h.len, h.le, h.max, ?_⟩
  rcases h.adr with h4 | ⟨b, off, rfl, hc⟩
  · exact .inl h4
  · exact .inr ⟨b, off, rfl, fun i hi => by rw [World.cell?_of_block (ht.block b (World.block_lt_of_cell? w _ (hc i hi)) (hn (by omega) b off rfl))]; exact hc i hi⟩
theorem used_F {w : World} {q m : Nat} {pv : Value} {FS : List Fl} {st : Ds} (h : DiskIn w q m pv FS st) : usedF st.F ≤ 67108864 := by
  have hu : usedF st.F = (FS.map fun x => x.f.b.length).sum := by unfold usedF; rw [← h.pr, List.map_map]; rfl
  rw [hu]
  exact h.few (Nat.le_refl _) (fun x hx => hx)
set_option maxRecDepth 100000 in
set_option maxHeartbeats 6400000 in
theorem dappend_c {w : World} {q : Nat} {st : Ds} {F : Nat → Prop} (hk : Dk w q st F) (nm : List UInt8) (hn : nm.length ≤ 9223372036854775807) {ab : Option Addr} {bl cb : Nat} {l : List UInt8} (hbl : Bys w ab bl cb l) (hbl2 : l.length ≤ 1000000) (hbn : 0 < bl → ∀ b off, ab = some ⟨b, off, none⟩ → ¬ F b) : Calls Tryz.prog 37 #[.pointer (some ⟨q, 0, none⟩), .string (text nm), .slice ab bl cb] w (DPost q F (.int .i64 (st.append nm l).1) (st.append nm l).2 w) := by
  obtain ⟨m, pv, FS, h, rfl⟩ := hk
  have hb := alloc_below w (.cells #[.slice ab bl cb] 34)
  have HV0 := Lib.hid (heap_alloc_new w (.cells #[.slice ab bl cb] 34))
  have HD1 := Lib.hid (h.below hb)
  have HFL := Lib.hid (fun k (hk : foot q m pv FS k) => h.lt hk)
  have HB := Lib.hid hb
  have HLF := Lib.hid (h.lookF nm)
  have HN := Lib.hid hn
  have HUS := Lib.hid (used_F h)
  have HBL := Lib.hid (hbl.below hb)
  have HBN := Lib.hid hbn
  have hlb := hbl.len
  have HLB := Lib.hid (show l.length = bl ∧ bl ≤ 1000000 from ⟨hlb, by omega⟩)
  clear hbl hbl2 hbn hlb
  clear h hb hn
  cases hon : st.on with
  | false =>
    have HON := Lib.hid hon
    have HR := Lib.hid (show st.append nm l = (150, st) by unfold Ds.append; rw [if_pos hon])
    rw [HR.out]
    clear hon
    go_enter Tryz.func37, Tryz.ntmps37
    go_upto_region 1 with (fail)
    generalize w.alloc (.cells #[.slice ab bl cb] 34) = W1 at *
    go_wp2_with (go_at_call 80; (with_reducible refine (dfind_off HD1.out _ HON.out).mono ?_); rintro e9 w9 ⟨rfl, rfl⟩)
    go_ret
    exact (dk_below (⟨m, pv, FS, HD1.out, rfl⟩ : Dk W1 q st _) (alloc_below _ _) _).pre HB.out
  | true =>
    have HON := Lib.hid hon
    cases hf : FS.find? (fun x => x.f.nm == nm) with
    | none =>
      have HF := Lib.hid hf
      have HR := Lib.hid (show st.append nm l = (152, st) by unfold Ds.append; rw [if_neg (by simp [hon]), HLF.out, hf]; rfl)
      rw [HR.out]
      have HFN := Lib.hid (dfind_none HD1.out nm HN.out HON.out HF.out)
      obtain ⟨tx, htx⟩ : ∃ s, text nm = s := ⟨_, rfl⟩
      rw [htx] at HFN ⊢
      clear htx hon hf
      go_enter Tryz.func37, Tryz.ntmps37
      go_upto_region 1 with (fail)
      generalize w.alloc (.cells #[.slice ab bl cb] 34) = W1 at *
      go_wp2_with (go_at_call 80; (with_reducible refine HFN.out.mono ?_); rintro e9 w9 ⟨rfl, rfl⟩)
      go_ret
      exact (dk_below (⟨m, pv, FS, HD1.out, rfl⟩ : Dk W1 q st _) (alloc_below _ _) _).pre HB.out
    | some x =>
      have HF := Lib.hid hf
      have HLS := Lib.hid (show lookF st.F nm = some x.f by rw [HLF.out, hf]; rfl)
      have HFI := Lib.hid (HD1.out.file hf)
      have HFN := Lib.hid (dfind_some HD1.out nm HN.out HON.out HF.out)
      have hb4 := alloc_below (w.alloc (.cells #[.slice ab bl cb] 34)) (.cells #[.pointer (some ⟨x.g, 0, none⟩)] 112)
      have hv4 := heap_alloc_new (w.alloc (.cells #[.slice ab bl cb] 34)) (.cells #[.pointer (some ⟨x.g, 0, none⟩)] 112)
      rw [World.size_alloc] at hv4
      have HV4 := Lib.hid hv4
      have HB47 := Lib.hid hb4
      have HXG0 := Lib.hid (show x.g = x.g from rfl)
      have HV5 := Lib.hid (heapB HV0.out hb4)
      have HD4 := Lib.hid (HD1.out.below hb4)
      have HB4 := Lib.hid (HB.out.trans (hb4.mono HB.out.size))
      obtain ⟨-, -, hxl, hxs, xa, xc, hxv, hxb, hbx⟩ := HD4.out.file hf
      obtain ⟨xl, hxl2⟩ : ∃ n, x.f.b.length = n := ⟨_, rfl⟩
      obtain ⟨xg, hxg⟩ : ∃ n, x.g = n := ⟨_, rfl⟩
      obtain ⟨tx, htx⟩ : ∃ s, text nm = s := ⟨_, rfl⟩
      rw [hxl2, hxg] at hbx
      rw [hxl2] at hxl
      have HXL := Lib.hid hxl2
      have HBX := Lib.hid hbx
      have HXL2 := Lib.hid hxl
      rw [hxg] at HFN HV4 HV5 HD4 HB4 HB47
      replace HXG0 := Lib.hid hxg
      rw [htx] at HFN ⊢
      have HMU := Lib.hid (show st.append nm l = st.append nm l from rfl)
      clear hb4 hv4 hxs hxv hxb hbx hxl hon hf
      have s1 : IntKind.i64.wrap ((xl : Int) + (bl : Int)) = ((xl + bl : Nat) : Int) := by have := HLB.out; have := HXL2.out; rw [IntKind.wrap_i64]; omega
      have s2 : wrap64 ((xl : Int) + (bl : Int)) = ((xl + bl : Nat) : Int) := by have := HLB.out; have := HXL2.out; unfold wrap64; omega
      have HS1 := Lib.hid s1
      have HS2 := Lib.hid s2
      clear s1 s2 hxl2 hxg htx
      by_cases hlong : 1048576 < xl + bl
      · have HR := Lib.hid (show st.append nm l = (3, st) by
          unfold Ds.append; rw [if_neg (by rw [HON.out]; simp), HLS.out]; simp only; rw [if_pos (by have := HLB.out; have := HXL.out; omega)])
        rw [HR.out]
        have hd : decide ((1048576 : Int) < ((xl + bl : Nat) : Int)) = true := by simp; omega
        have hd3 : (1048576 : Int) < (xl : Int) + (bl : Int) := by omega
        clear hlong
        go_enter Tryz.func37, Tryz.ntmps37
        go_upto_region 4 with (go_at_call 80; (with_reducible refine HFN.out.mono ?_); rintro e9 w9 ⟨rfl, rfl⟩)
        generalize hW4 : (w.alloc (.cells #[.slice ab bl cb] 34)).alloc (.cells #[.pointer (some ⟨xg, 0, none⟩)] 112) = W4 at *
        clear hW4
        have k0 := cell_regrown (var_c HV5.out)
        have k1 := cell_regrown (var_c HV4.out)
        have k2 := cell_regrown (box_cs HBX.out).1
        have s1 := HS1.out
        have s2 := HS2.out
        refine wp_region_quiet_below (by kernel_rfl) (by kernel_rfl) ?_
        repeat (go_big_quiet_step (fail))
        refine wpQuiet_nil ?_
        intro _ hw'
        obtain ⟨⟨dq5, osq5⟩, hw''⟩ := hw'
        subst hw''
        have hbq := below_regrown W4 dq5 osq5
        clear k0 k1 k2 s1 s2
        go_wp2
        go_ret
        exact (dk_below (⟨m, pv, FS, HD4.out, rfl⟩ : Dk W4 q st _) hbq _).pre HB4.out
      · have hd : decide ((1048576 : Int) < ((xl + bl : Nat) : Int)) = false := by simp; omega
        have hd3 : ¬ (1048576 : Int) < (xl : Int) + (bl : Int) := by omega
        obtain ⟨us, hus⟩ : ∃ n, usedF st.F = n := ⟨_, rfl⟩
        have HUS2 := Lib.hid (show usedF st.F = us ∧ us ≤ 67108864 from ⟨hus, by have := HUS.out; omega⟩)
        have s3 : IntKind.i64.wrap ((us : Int) + (bl : Int)) = ((us + bl : Nat) : Int) := by have := HLB.out; have := HUS2.out; rw [IntKind.wrap_i64]; omega
        have s4 : wrap64 ((us : Int) + (bl : Int)) = ((us + bl : Nat) : Int) := by have := HLB.out; have := HUS2.out; unfold wrap64; omega
        have HS3 := Lib.hid (And.intro s3 s4)
        have HD := Lib.hid (And.intro hd hd3)
        have HLG := Lib.hid hlong
        clear s3 s4 hd hd3 hlong hus
        by_cases hroom : st.room < ((us + bl : Nat) : Int)
        · have HR := Lib.hid (show st.append nm l = (151, st) by
            unfold Ds.append; rw [if_neg (by rw [HON.out]; simp), HLS.out]; simp only
            rw [if_neg (by have := HLB.out; have := HXL.out; have := HLG.out; omega), if_pos (by have := HLB.out; have := HUS2.out; omega)])
          rw [HR.out]
          have HDR := Lib.hid (show decide (st.room < ((us + bl : Nat) : Int)) = true ∧ st.room < (us : Int) + (bl : Int) from ⟨by simpa using hroom, by omega⟩)
          clear hroom
          go_enter Tryz.func37, Tryz.ntmps37
          go_upto_region 4 with (go_at_call 80; (with_reducible refine HFN.out.mono ?_); rintro e9 w9 ⟨rfl, rfl⟩)
          generalize hW4 : (w.alloc (.cells #[.slice ab bl cb] 34)).alloc (.cells #[.pointer (some ⟨xg, 0, none⟩)] 112) = W4 at *
          clear hW4
          have k0 := cell_regrown (var_c HV5.out)
          have k1 := cell_regrown (var_c HV4.out)
          have k2 := cell_regrown (box_cs HBX.out).1
          have s1 := HS1.out
          have s2 := HS2.out
          obtain ⟨hd, hd3⟩ := HD.out
          refine wp_region_quiet_below (by kernel_rfl) (by kernel_rfl) ?_
          repeat (go_big_quiet_step (fail))
          refine wpQuiet_nil ?_
          intro _ hw'
          obtain ⟨⟨dq5, osq5⟩, hw''⟩ := hw'
          subst hw''
          have hbq := below_regrown W4 dq5 osq5
          have HB5 := Lib.hid hbq
          have HD5 := Lib.hid (HD4.out.below hbq)
          have HV45 := Lib.hid (heapB HV5.out hbq)
          clear k0 k1 k2 s1 s2 hbq
          generalize grow (redrawn W4 dq5) osq5 = W5 at *
          have k0 := cell_regrown (var_c HV45.out)
          have k3 := cell_regrown HD5.out.cs.2.1
          have hus := fun (d : Nat) (os : Array Obj) => (dused_c (HD5.out.below (below_regrown W5 d os))).regrown_of
          rw [HUS2.out.1] at hus
          have HUD := Lib.hid hus
          obtain ⟨s3, s4⟩ := HS3.out
          obtain ⟨hdr, hdr2⟩ := HDR.out
          clear hus
          go_upto_region 6 with (fail)
          clear hd hd3
          refine wp_region_quiet_below (by kernel_rfl) (by kernel_rfl) ?_
          repeat (go_big_quiet_step (with_reducible exact HUD.out _ _))
          refine wpQuiet_nil ?_
          intro _ hw'
          obtain ⟨⟨dq6, osq6⟩, hw''⟩ := hw'
          subst hw''
          have hbq := below_regrown W5 dq6 osq6
          have HB6 := Lib.hid (HB5.out.trans (hbq.mono HB5.out.size))
          clear k0 k3 s3 s4 hbq
          generalize grow (redrawn W5 dq6) osq6 = W6 at *
          go_wp2
          go_ret
          exact (dk_below (⟨m, pv, FS, HD4.out, rfl⟩ : Dk W4 q st _) HB6.out _).pre HB4.out
        · have HR := Lib.hid (show st.append nm l = st.opd (setF nm fun f => ⟨f.nm, f.b ++ l, f.su⟩) (setF nm fun f => ⟨f.nm, f.b ++ l, f.su⟩) by
            unfold Ds.append; rw [if_neg (by rw [HON.out]; simp), HLS.out]; simp only
            rw [if_neg (by have := HLB.out; have := HXL.out; have := HLG.out; omega), if_neg (by have := HLB.out; have := HUS2.out; omega)])
          rw [HR.out]
          have HDR := Lib.hid (show decide (st.room < ((us + bl : Nat) : Int)) = false ∧ ¬ st.room < (us : Int) + (bl : Int) from ⟨by simpa using hroom, by omega⟩)
          clear hroom
          go_enter Tryz.func37, Tryz.ntmps37
          go_upto_region 4 with (go_at_call 80; (with_reducible refine HFN.out.mono ?_); rintro e9 w9 ⟨rfl, rfl⟩)
          generalize hW4 : (w.alloc (.cells #[.slice ab bl cb] 34)).alloc (.cells #[.pointer (some ⟨xg, 0, none⟩)] 112) = W4 at *
          clear hW4
          have k0 := cell_regrown (var_c HV5.out)
          have k1 := cell_regrown (var_c HV4.out)
          have k2 := cell_regrown (box_cs HBX.out).1
          have s1 := HS1.out
          have s2 := HS2.out
          obtain ⟨hd, hd3⟩ := HD.out
          refine wp_region_quiet_below (by kernel_rfl) (by kernel_rfl) ?_
          repeat (go_big_quiet_step (fail))
          refine wpQuiet_nil ?_
          intro _ hw'
          obtain ⟨⟨dq5, osq5⟩, hw''⟩ := hw'
          subst hw''
          have hbq := below_regrown W4 dq5 osq5
          have HB5 := Lib.hid hbq
          have HD5 := Lib.hid (HD4.out.below hbq)
          have HV45 := Lib.hid (heapB HV5.out hbq)
          clear k0 k1 k2 s1 s2 hbq
          generalize grow (redrawn W4 dq5) osq5 = W5 at *
          have k0 := cell_regrown (var_c HV45.out)
          have k3 := cell_regrown HD5.out.cs.2.1
          have hus := fun (d : Nat) (os : Array Obj) => (dused_c (HD5.out.below (below_regrown W5 d os))).regrown_of
          rw [HUS2.out.1] at hus
          have HUD := Lib.hid hus
          obtain ⟨s3, s4⟩ := HS3.out
          obtain ⟨hdr, hdr2⟩ := HDR.out
          clear hus
          go_upto_region 6 with (fail)
          clear hd hd3
          refine wp_region_quiet_below (by kernel_rfl) (by kernel_rfl) ?_
          repeat (go_big_quiet_step (with_reducible exact HUD.out _ _))
          refine wpQuiet_nil ?_
          intro _ hw'
          obtain ⟨⟨dq6, osq6⟩, hw''⟩ := hw'
          subst hw''
          have hbq := below_regrown W5 dq6 osq6
          have HB6 := Lib.hid (HB5.out.trans (hbq.mono HB5.out.size))
          clear k0 k3 s3 s4 hbq
          generalize grow (redrawn W5 dq6) osq6 = W6 at *
          have HV8 := Lib.hid (heapB HV4.out HB6.out)
          have HV9 := Lib.hid (heapB HV5.out HB6.out)
          have HD8 := Lib.hid (HD4.out.below HB6.out)
          have HBL8 := Lib.hid (HBL.out.below (HB47.out.trans (HB6.out.mono HB47.out.size)))
          have HE0 := Lib.hid (enD Tryz.func82 (by kernel_rfl) rfl)
          have HXX := Lib.hid (show x.f.b.length + l.length ≤ 1048576 by have := HLB.out; have := HXL.out; have := HLG.out; omega)
          have HXG := Lib.hid (show x.g = xg from HXG0.out)
          have HOP := Lib.hid (doperate22_c HD8.out HE0.out HE0.out (x0 := .pointer (some ⟨w.heap.size + 1, 0, none⟩)) (x1 := .pointer (some ⟨w.heap.size, 0, none⟩)) (y0 := .pointer (some ⟨w.heap.size + 1, 0, none⟩)) (y1 := .pointer (some ⟨w.heap.size, 0, none⟩)) (setF nm fun f => ⟨f.nm, f.b ++ l, f.su⟩) (setF nm fun f => ⟨f.nm, f.b ++ l, f.su⟩)
            (fun W st' ht hF hd => dappend1_c hd HF.out (by rw [HXG.out]; exact ht.box HFL.out (by omega) HV8.out) (ht.box HFL.out (Nat.le_refl _) HV9.out) (HBL8.out.trn HBN.out ht) HXX.out)
            (fun W st' ht hF hd => dappend1_c hd HF.out (by rw [HXG.out]; exact ht.box HFL.out (by omega) HV8.out) (ht.box HFL.out (Nat.le_refl _) HV9.out) (HBL8.out.trn HBN.out ht) HXX.out))
          go_wp2_with (go_at_call 77; (with_reducible refine HOP.out.mono ?_); rintro e5 w5 ⟨rfl, F5, hk5, ht5, hf5⟩; have HP5 := Lib.hid (And.intro hk5 (And.intro ht5 hf5)); clear hk5 ht5 hf5)
          go_ret
          exact DPost.pre HB4.out (DPost.pre HB6.out ⟨rfl, F5, HP5.out⟩)
end Go.Proofs.YtpejojagghfjgaaGreatDoor
end

section
namespace Go.Proofs.YtpejojagghfjgaaGreatDoor
open Go.RowKit Go Go.Sort Go.Maps Go.WideMaps
set_option linter.unusedVariables false
set_option maxRecDepth 20000

theorem infoD5 : (Tryz.prog.info? 5).map (fun i => (i.zero, i.size, i.bytes)) = some (some (.int .u8 0), 1, 1) := by kernel_rfl
/-- What Read leaves. -/
def ReadPost (w : World) (b : Option (List UInt8)) (n : Int) (e : Ending) (w' : World) : Prop :=
  ∃ v, e = .returned (.tuple #[v, .int .i64 n]) ∧ Below w.heap.size w w' ∧ match b with
    | none => v = .slice none 0 0
    | some l => OwnB w' w.heap.size 5 v l
set_option maxRecDepth 100000 in
set_option maxHeartbeats 6400000 in
theorem dread_c {w : World} {q : Nat} {st : Ds} {F : Nat → Prop} (hk : Dk w q st F) (nm : List UInt8) (hn : nm.length ≤ 9223372036854775807) : Calls Tryz.prog 38 #[.pointer (some ⟨q, 0, none⟩), .string (text nm)] w (ReadPost w (st.read nm).1 (st.read nm).2) := by
  obtain ⟨m, pv, FS, h, rfl⟩ := hk
  have HD1 := Lib.hid h
  have HLF := Lib.hid (h.lookF nm)
  have HN := Lib.hid hn
  clear h hn
  cases hon : st.on with
  | false =>
    have HON := Lib.hid hon
    have HR := Lib.hid (show st.read nm = (none, 150) by unfold Ds.read; rw [if_pos hon])
    rw [HR.out]
    clear hon
    go_enter Tryz.func38, Tryz.ntmps38
    go_wp2_with (go_at_call 80; (with_reducible refine (dfind_off HD1.out _ HON.out).mono ?_); rintro e9 w9 ⟨rfl, rfl⟩)
    go_ret2
    exact ⟨_, rfl, Below.refl _ _, rfl⟩
  | true =>
    have HON := Lib.hid hon
    cases hf : FS.find? (fun x => x.f.nm == nm) with
    | none =>
      have HF := Lib.hid hf
      have HR := Lib.hid (show st.read nm = (none, 152) by unfold Ds.read; rw [if_neg (by simp [hon]), HLF.out, hf]; rfl)
      rw [HR.out]
      have HFN := Lib.hid (dfind_none HD1.out nm HN.out HON.out HF.out)
      obtain ⟨tx, htx⟩ : ∃ s, text nm = s := ⟨_, rfl⟩
      rw [htx] at HFN ⊢
      clear htx hon hf
      go_enter Tryz.func38, Tryz.ntmps38
      go_wp2_with (go_at_call 80; (with_reducible refine HFN.out.mono ?_); rintro e9 w9 ⟨rfl, rfl⟩)
      go_ret2
      exact ⟨_, rfl, Below.refl _ _, rfl⟩
    | some x =>
      have HF := Lib.hid hf
      have HLS := Lib.hid (show lookF st.F nm = some x.f by rw [HLF.out, hf]; rfl)
      have HR := Lib.hid (show st.read nm = (some x.f.b, 0) by unfold Ds.read; rw [if_neg (by simp [hon]), HLS.out])
      rw [HR.out]
      have HFN := Lib.hid (dfind_some HD1.out nm HN.out HON.out HF.out)
      obtain ⟨-, -, hxl, -, xa, xc, hxv, hxb, hbx⟩ := HD1.out.file hf
      obtain ⟨l, hl⟩ : ∃ l, x.f.b = l := ⟨_, rfl⟩
      obtain ⟨xg, hxg⟩ : ∃ n, x.g = n := ⟨_, rfl⟩
      obtain ⟨tx, htx⟩ : ∃ s, text nm = s := ⟨_, rfl⟩
      rw [hl] at hxb hbx hxl
      rw [hxg] at hbx HFN
      rw [hl]
      rw [htx] at HFN ⊢
      clear htx hxg hl hon hf hxv
      obtain ⟨i0, hi, hz0, hz1, hz2⟩ := info_parts infoD5
      have hsz : (Tryz.prog.info? 5).map (·.size) = some 1 := by rw [hi]; simp [hz1]
      have k2 := (box_cs hbx).1
      have hbel0 := Below.refl w.heap.size w
      go_enter Tryz.func38, Tryz.ntmps38
      go_wp2_with (first
        | (go_at_call 80; (with_reducible refine HFN.out.mono ?_); rintro e9 w9 ⟨rfl, rfl⟩)
        | (at_make; refine wpList_make_full _ rfl _ _ 34 rfl w.heap.size 5 i0 (.int .u8 0) 1 Tryz.underlying34 hi hz0 hz1 .i64 .i64 _ _ l.length rfl rfl ?c1 ?c2 ?c3 ?c4 ?c5 ?_))
      case c1 => simp
      case c2 => simp
      case c3 => rw [hz2]; omega
      case c4 => unfold maxLen; omega
      case c5 => exact Nat.le_refl _
      intro w1 hown hgr
      have hbel : Below w.heap.size w w1 := (Below.refl _ _).grown hgr (Nat.le_refl _) (fun k hk => by cases hk)
      have HH := Lib.hid (show w1.heap[w.heap.size]? = some (.cells (List.replicate l.length (Value.int .u8 0)).toArray 5 (0, 0)) from heap_of_made hown)
      have hcl : (u8v l).length = l.length := u8v_length l
      have HP := Lib.hid (show 0 < (u8v l).length → ∃ ad, xa = some ad ∧ ∀ j v, (u8v l)[j]? = some v → w1.cell? (ad.add j) = some v from fun hp => (hxb.below hbel).cells (by rw [hcl] at hp; exact hp))
      have HM := Lib.hid (show (u8v l).length = Nat.min l.length l.length by rw [hcl]; exact (Nat.min_self _).symm)
      have hfit : 0 + (u8v l).length ≤ (List.replicate l.length (Value.int .u8 0)).length := by rw [hcl]; simp
      have k3 := (box_cs (heapB hbx hbel)).1
      clear hown hgr k2
      go_wp2_with (with_reducible refine wpList_copy_splice rfl (.tmp 24) (.tmp 28) 34 34 rfl 5 Tryz.underlying34 hsz (some ⟨w.heap.size, 0, none⟩) xa l.length l.length l.length xc rfl rfl w.heap.size 0 (List.replicate l.length (Value.int .u8 0)) 5 HH.out (u8v l) HM.out (fun hp => ⟨rfl, HP.out hp⟩) hfit (u8v_one l) w.heap.size w hbel (Nat.le_refl _) ?_; intro w4 hg4 hb4)
      go_ret2
      have ho := own_copied (k := 0) (Nat.le_refl w.heap.size) (by omega) hg4.out
      exact ⟨_, rfl, hb4, by simpa [OwnB] using ho⟩
end Go.Proofs.YtpejojagghfjgaaGreatDoor
end

section
namespace Go.Proofs.YtpejojagghfjgaaGreatDoor
open Go.RowKit Go Go.Sort Go.Maps Go.WideMaps
set_option linter.unusedVariables false
set_option maxRecDepth 20000

/-- A disk whose memory is behind w0's. -/
def Lv (w0 W : World) (q : Nat) (st : Ds) : Prop := ∃ F, Dk W q st F ∧ (∀ k, F k → w0.heap.size ≤ k) ∧ Below w0.heap.size w0 W
section
variable {w0 w w' : World} {q : Nat} {st st' : Ds}
theorem Lv.b (h : Lv w0 w q st) : Below w0.heap.size w0 w := by obtain ⟨F, -, -, hb⟩ := h; exact hb
theorem Lv.keep (h : Lv w0 w q st) (hb : Below w.heap.size w w') : Lv w0 w' q st := by
  obtain ⟨F, hk, hlo, hb0⟩ := h
  exact ⟨F, hk.below hb, hlo, hb0.trans (hb.mono hb0.size)⟩
theorem lv_new (room : Int) (w : World) (h0 : 0 ≤ room) (h1 : room ≤ 1073741824) : Calls Tryz.prog 9 #[.int .i64 room] w (fun e w' => ∃ q, e = .returned (.pointer (some ⟨q, 0, none⟩)) ∧ Lv w w' q (Ds.new room)) :=
  (dnew_c room w h0 h1).mono fun e w' ⟨q, he, F, hk, hlo, hb⟩ => ⟨q, he, F, hk, hlo, hb⟩
end
end Go.Proofs.YtpejojagghfjgaaGreatDoor
end

section
namespace Go.Proofs.YtpejojagghfjgaaGreatDoor
open Go.RowKit Go Go.Sort Go.Maps Go.WideMaps
set_option linter.unusedVariables false
set_option maxRecDepth 20000

/-- A log: the numbers with which its segments begin, the bytes of the last one, the next number, the last that is sure, the bytes of a segment, how often the power had failed. -/
structure Lg where
  B : List Int
  size : Int
  next : Int
  sure : Int
  most : Int
  fails : Int
def iarr (n : Int) : Array Value := #[.int .i64 n]
theorem iarr_size (n : Int) : (iarr n).size = 1 := rfl
/-- A log in memory. -/
structure LogIn (W : World) (p q : Nat) (bv : Value) (g : Lg) : Prop where
  head : W.heap[p]? = some (.cells #[.pointer (some ⟨q, 0, none⟩), .int .i64 g.fails, bv, .int .i64 g.size, .int .i64 g.next, .int .i64 g.sure, .int .i64 g.most] 70 (0, 0))
  list : OwnL 1 3 iarr W 0 bv g.B
def lgfoot (p : Nat) (bv : Value) (k : Nat) : Prop := k = p ∨ bv.ownBlock = some k
theorem LogIn.keep {W W' : World} {p q : Nat} {bv : Value} {g : Lg} (h : LogIn W p q bv g) (hk : ∀ k, lgfoot p bv k → W'.heap[k]? = W.heap[k]?) : LogIn W' p q bv g :=
  ⟨(hk p (.inl rfl)).trans h.head, h.list.of_block (fun k hv => hk k (.inr hv))⟩
theorem LogIn.lt {W : World} {p q : Nat} {bv : Value} {g : Lg} (h : LogIn W p q bv g) {k : Nat} (hk : lgfoot p bv k) : k < W.heap.size := by
  rcases hk with rfl | hk
  · exact (Array.getElem?_eq_some_iff.1 h.head).1
  · exact (h.list.lt k hk).2
theorem LogIn.below {W W' : World} {p q : Nat} {bv : Value} {g : Lg} (h : LogIn W p q bv g) (hb : Below W.heap.size W W') : LogIn W' p q bv g := h.keep fun k hk => hb.block k (h.lt hk)
theorem LogIn.cs {W : World} {p q : Nat} {bv : Value} {g : Lg} (h : LogIn W p q bv g) : W.cell? ⟨p, 0, none⟩ = some (.pointer (some ⟨q, 0, none⟩)) ∧ W.cell? ⟨p, 1, none⟩ = some (.int .i64 g.fails) ∧ W.cell? ⟨p, 2, none⟩ = some bv ∧ W.cell? ⟨p, 3, none⟩ = some (.int .i64 g.size) ∧ W.cell? ⟨p, 4, none⟩ = some (.int .i64 g.next) ∧ W.cell? ⟨p, 5, none⟩ = some (.int .i64 g.sure) ∧ W.cell? ⟨p, 6, none⟩ = some (.int .i64 g.most) := by
  refine ⟨?_, ?_, ?_, ?_, ?_, ?_, ?_⟩ <;> (rw [cell_of_row W p _ _ 70 (0, 0) h.head]; rfl)
theorem LogIn.fz {W : World} {p q : Nat} {bv : Value} {g : Lg} (h : LogIn W p q bv g) (i : Nat) : W.frozen? ⟨p, i, none⟩ = false := frozen_of_row W p i _ 70 h.head
/-- The numbers lie there. -/
theorem LogIn.place {W : World} {p q : Nat} {bv : Value} {g : Lg} (h : LogIn W p q bv g) : ∃ a cap, bv = .slice a g.B.length cap ∧ g.B.length ≤ cap ∧ cap ≤ 9223372036854775807 ∧ ∀ k, k < g.B.length → ∃ b o, a = some ⟨b, o, none⟩ ∧ ∀ W', Below W.heap.size W W' → W'.cell? ⟨b, o + k, none⟩ = some (.int .i64 (g.B.getD k 0)) := by
  obtain ⟨a, cap, hv, hs⟩ := h.list.ls (z := (0 : Int)) iarr_size
  refine ⟨a, cap, hv, hs.le, hs.max, fun k hk => ?_⟩
  obtain ⟨b, o, ha, hc⟩ := hs.at hk
  refine ⟨b, o, ha, fun W' hb => ?_⟩
  have := hc W' hb 0 (.int .i64 (g.B.getD k 0)) rfl
  simpa using this
theorem LogIn.first {W : World} {p q : Nat} {bv : Value} {g : Lg} (h : LogIn W p q bv g) {n : Int} {r : List Int} (hB : g.B = n :: r) : ∃ b o m c, bv = .slice (some ⟨b, o, none⟩) m c ∧ 0 < m ∧ W.cell? ⟨b, o, none⟩ = some (.int .i64 n) := by
  obtain ⟨a, cap, rfl, -, -, hp⟩ := h.place
  obtain ⟨b, o, rfl, hc⟩ := hp 0 (by rw [hB]; simp)
  have h1 := hc W (Below.refl _ _)
  rw [hB] at h1 ⊢
  exact ⟨b, o, _, _, rfl, by simp, h1⟩
/-- A log that no call made: nil, or all zero. -/
def UnL (W : World) (p : Nat) : Prop := W.heap[p]? = some (.cells #[.pointer none, .int .i64 0, .slice none 0 0, .int .i64 0, .int .i64 0, .int .i64 0, .int .i64 0] 70 (0, 0))
theorem UnL.below {W W' : World} {p : Nat} (h : UnL W p) (hb : Below W.heap.size W W') : UnL W' p := (hb.block p (Array.getElem?_eq_some_iff.1 h).1).trans h
theorem lmade_nil (w : World) : Calls Tryz.prog 62 #[.pointer none] w (Tells (.bool false) w) := by
  go_enter Tryz.func62, Tryz.ntmps62
  go_wp2
  go_ret
  exact ⟨rfl, Below.refl _ _⟩
theorem lmade_un {w : World} {p : Nat} (h : UnL w p) : Calls Tryz.prog 62 #[.pointer (some ⟨p, 0, none⟩)] w (Tells (.bool false) w) := by
  have c0 : w.cell? ⟨p, 0, none⟩ = some (.pointer none) := by rw [cell_of_row w p 0 _ 70 (0, 0) h]; rfl
  clear h
  go_enter Tryz.func62, Tryz.ntmps62
  go_wp2
  go_ret
  exact ⟨rfl, Below.refl _ _⟩
theorem lmade_c {w : World} {p q : Nat} {bv : Value} {g : Lg} (h : LogIn w p q bv g) : Calls Tryz.prog 62 #[.pointer (some ⟨p, 0, none⟩)] w (Tells (.bool true) w) := by
  have c0 := h.cs.1
  clear h
  go_enter Tryz.func62, Tryz.ntmps62
  go_wp2
  go_ret
  exact ⟨rfl, Below.refl _ _⟩
/-- What tells of a log that no call made. -/
theorem lnext_un {w : World} {v : Value} (HM : Calls Tryz.prog 62 #[v] w (Tells (.bool false) w)) : Calls Tryz.prog 30 #[v] w (Tells (.int .i64 0) w) := by
  have HM1 := Lib.hid HM
  clear HM
  go_enter Tryz.func30, Tryz.ntmps30
  go_wp2_with (go_at_call 62; (with_reducible refine HM1.out.mono ?_); rintro e1 w1 ⟨rfl, hb1⟩; have HB1 := Lib.hid hb1; clear hb1)
  go_ret
  exact ⟨rfl, HB1.out⟩
theorem lfirst_un {w : World} {v : Value} (HM : Calls Tryz.prog 62 #[v] w (Tells (.bool false) w)) : Calls Tryz.prog 33 #[v] w (Tells (.int .i64 0) w) := by
  have HM1 := Lib.hid HM
  clear HM
  go_enter Tryz.func33, Tryz.ntmps33
  go_wp2_with (go_at_call 62; (with_reducible refine HM1.out.mono ?_); rintro e1 w1 ⟨rfl, hb1⟩; have HB1 := Lib.hid hb1; clear hb1)
  go_ret
  exact ⟨rfl, HB1.out⟩
theorem lsure_un {w : World} {v : Value} (HM : Calls Tryz.prog 62 #[v] w (Tells (.bool false) w)) : Calls Tryz.prog 26 #[v] w (Tells (.int .i64 0) w) := by
  have HM1 := Lib.hid HM
  clear HM
  go_enter Tryz.func26, Tryz.ntmps26
  go_wp2_with (go_at_call 62; (with_reducible refine HM1.out.mono ?_); rintro e1 w1 ⟨rfl, hb1⟩; have HB1 := Lib.hid hb1; clear hb1)
  go_ret
  exact ⟨rfl, HB1.out⟩
theorem lready_un {w : World} {v : Value} (HM : Calls Tryz.prog 62 #[v] w (Tells (.bool false) w)) : Calls Tryz.prog 64 #[v] w (Tells (.int .i64 1) w) := by
  have HM1 := Lib.hid HM
  clear HM
  go_enter Tryz.func64, Tryz.ntmps64
  go_wp2_with (go_at_call 62; (with_reducible refine HM1.out.mono ?_); rintro e1 w1 ⟨rfl, hb1⟩; have HB1 := Lib.hid hb1; clear hb1)
  go_ret
  exact ⟨rfl, HB1.out⟩
theorem lsync_un {w : World} {v : Value} (HM : Calls Tryz.prog 62 #[v] w (Tells (.bool false) w)) : Calls Tryz.prog 25 #[v] w (Tells (.int .i64 1) w) := by
  have HM1 := Lib.hid (lready_un HM)
  clear HM
  go_enter Tryz.func25, Tryz.ntmps25
  go_wp2_with (go_at_call 64; (with_reducible refine HM1.out.mono ?_); rintro e1 w1 ⟨rfl, hb1⟩; have HB1 := Lib.hid hb1; clear hb1)
  go_ret
  exact ⟨rfl, HB1.out⟩
theorem lretire_un {w : World} {v : Value} (HM : Calls Tryz.prog 62 #[v] w (Tells (.bool false) w)) (n : Int) : Calls Tryz.prog 32 #[v, .int .i64 n] w (Tells (.int .i64 1) w) := by
  have HM1 := Lib.hid (lready_un HM)
  clear HM
  go_enter Tryz.func32, Tryz.ntmps32
  go_wp2_with (go_at_call 64; (with_reducible refine HM1.out.mono ?_); rintro e1 w1 ⟨rfl, hb1⟩; have HB1 := Lib.hid hb1; clear hb1)
  go_ret
  exact ⟨rfl, HB1.out⟩
theorem lappend_un {w : World} {v : Value} (HM : Calls Tryz.prog 62 #[v] w (Tells (.bool false) w)) (x : Value) : Calls Tryz.prog 24 #[v, x] w (Tells (.tuple #[.int .i64 0, .int .i64 1]) w) := by
  have HM1 := Lib.hid (lready_un HM)
  clear HM
  go_enter Tryz.func24, Tryz.ntmps24
  go_wp2_with (go_at_call 64; (with_reducible refine HM1.out.mono ?_); rintro e1 w1 ⟨rfl, hb1⟩; have HB1 := Lib.hid hb1; clear hb1)
  go_ret2
  exact ⟨rfl, HB1.out⟩
/-- What tells of a log. -/
theorem lnext_c {w : World} {p q : Nat} {bv : Value} {g : Lg} (h : LogIn w p q bv g) : Calls Tryz.prog 30 #[.pointer (some ⟨p, 0, none⟩)] w (Tells (.int .i64 g.next) w) := by
  have HM1 := Lib.hid (lmade_c h)
  have HL := Lib.hid h
  clear h
  go_enter Tryz.func30, Tryz.ntmps30
  go_wp2_with (go_at_call 62; (with_reducible refine HM1.out.mono ?_); rintro e1 w1 ⟨rfl, hb1⟩; have HB1 := Lib.hid hb1; obtain ⟨c0, c1, c2, c3, c4, c5, c6⟩ := (HL.out.below hb1).cs; clear hb1)
  go_ret
  exact ⟨rfl, HB1.out⟩
end Go.Proofs.YtpejojagghfjgaaGreatDoor
end

section
namespace Go.Proofs.YtpejojagghfjgaaGreatDoor
open Go.RowKit Go Go.Sort Go.Maps Go.WideMaps
set_option linter.unusedVariables false
set_option maxRecDepth 20000

theorem lon_un {w : World} {v : Value} (HM : ∀ d os, Calls Tryz.prog 62 #[v] (grow (redrawn w d) os) (Tells (.bool false) (grow (redrawn w d) os))) : Calls Tryz.prog 23 #[v] w (Tells (.bool false) w) := by
  have HM1 := Lib.hid (fun (d : Nat) (os : Array Obj) => (HM d os).regrown_of)
  clear HM
  go_enter Tryz.func23, Tryz.ntmps23
  go_wp2
  refine wp_region_quiet_below (by kernel_rfl) (by kernel_rfl) ?_
  repeat (go_big_quiet_step (with_reducible exact HM1.out _ _))
  refine wpQuiet_nil ?_
  intro _ hw'
  obtain ⟨⟨dq, osq⟩, hw''⟩ := hw'
  subst hw''
  have HB8 := Lib.hid (below_regrown w dq osq)
  go_wp2
  go_ret
  exact ⟨rfl, HB8.out⟩
theorem lon_c {w : World} {p q : Nat} {bv : Value} {g : Lg} {st : Ds} {F : Nat → Prop} (h : LogIn w p q bv g) (hd : Dk w q st F) : Calls Tryz.prog 23 #[.pointer (some ⟨p, 0, none⟩)] w (Tells (.bool (decide (st.fails = g.fails))) w) := by
  have HM1 := Lib.hid (fun (d : Nat) (os : Array Obj) => (lmade_c (h.below (below_regrown w d os))).regrown_of)
  have HF1 := Lib.hid (fun (d : Nat) (os : Array Obj) => (show Calls Tryz.prog 63 #[.pointer (some ⟨q, 0, none⟩)] (grow (redrawn w d) os) (Tells (.int .i64 st.fails) (grow (redrawn w d) os)) from by
    obtain ⟨m, pv, FS, h1, -⟩ := hd.below (below_regrown w d os)
    exact (dfails_c h1).mono fun e w' ⟨he, hw⟩ => ⟨he, hw ▸ Below.refl _ _⟩).regrown_of)
  obtain ⟨c0, c1, c2, c3, c4, c5, c6⟩ := h.cs
  have k0 := cell_regrown c0
  have k1 := cell_regrown c1
  clear c0 c1 c2 c3 c4 c5 c6 h hd
  go_enter Tryz.func23, Tryz.ntmps23
  go_wp2
  refine wp_region_quiet_below (by kernel_rfl) (by kernel_rfl) ?_
  repeat (go_big_quiet_step (first | with_reducible exact HM1.out _ _ | with_reducible exact HF1.out _ _))
  refine wpQuiet_nil ?_
  intro _ hw'
  obtain ⟨⟨dq, osq⟩, hw''⟩ := hw'
  subst hw''
  have HB8 := Lib.hid (below_regrown w dq osq)
  go_wp2
  go_ret
  exact ⟨by first | rfl | simp, HB8.out⟩
end Go.Proofs.YtpejojagghfjgaaGreatDoor
end

section
namespace Go.Proofs.YtpejojagghfjgaaGreatDoor
open Go.RowKit

/-- Three numbers come back, and the world is as it was. -/
def Ret3 (t : Int × Int × Int) (w : World) (e : Ending) (w' : World) : Prop := e = .returned (.tuple #[.int .i64 t.1, .int .i64 t.2.1, .int .i64 t.2.2]) ∧ w = w'
theorem Ret3.mk {x y z : Int} {t : Int × Int × Int} {w : World} (h : t = (x, y, z)) : Ret3 t w (.returned (.tuple #[.int .i64 x, .int .i64 y, .int .i64 z])) w := by
  subst h; exact ⟨rfl, rfl⟩

set_option maxHeartbeats 400000 in
theorem size_c (n : Int) (h0 : -9223372036854775808 ≤ n) (h1 : n ≤ 9223372036854775807) (w : World) :
    Calls Tryz.prog 144 #[.int .i64 n] w fun e w' => e = .returned (.int .i64 (sizeS n)) ∧ w = w' := by
  by_cases c1 : n < 0
  · rw [sizeS_neg (.inl c1)]
    go_enter Tryz.func144, Tryz.ntmps144
    go_wp2
    go_ret
    exact ⟨rfl, rfl⟩
  by_cases c2 : 4611686018427387903 < n
  · rw [sizeS_neg (.inr c2)]
    go_enter Tryz.func144, Tryz.ntmps144
    go_wp2
    go_ret
    exact ⟨rfl, rfl⟩
  by_cases c3 : n < 64
  · rw [sizeS_1 (by omega) c3]
    go_enter Tryz.func144, Tryz.ntmps144
    go_wp2
    go_ret
    exact ⟨rfl, rfl⟩
  by_cases c4 : n < 16384
  · rw [sizeS_2 (by omega) c4]
    go_enter Tryz.func144, Tryz.ntmps144
    go_wp2
    go_ret
    exact ⟨rfl, rfl⟩
  by_cases c5 : n < 1073741824
  · rw [sizeS_4 (by omega) c5]
    go_enter Tryz.func144, Tryz.ntmps144
    go_wp2
    go_ret
    exact ⟨rfl, rfl⟩
  · rw [sizeS_8 (by omega) (by omega)]
    go_enter Tryz.func144, Tryz.ntmps144
    go_wp2
    go_ret
    exact ⟨rfl, rfl⟩

end Go.Proofs.YtpejojagghfjgaaGreatDoor
end

section
namespace Go.Proofs.YtpejojagghfjgaaGreatDoor
open Go.RowKit
set_option linter.unusedVariables false

/-- The four cells of the table that sizes of numbers lead to. -/
structure TabW (w : World) : Prop where
  c0 : w.cell? ⟨5, 0, none⟩ = some (.int .u8 0)
  c1 : w.cell? ⟨5, 1, none⟩ = some (.int .u8 1)
  c2 : w.cell? ⟨5, 3, none⟩ = some (.int .u8 2)
  c3 : w.cell? ⟨5, 7, none⟩ = some (.int .u8 3)

theorem TabW.below {w w' : World} (h : TabW w) (hb : Below w.heap.size w w') : TabW w' := by
  have hlt : 5 < w.heap.size := World.block_lt_of_cell? w _ h.c0
  exact ⟨by rw [hb.cell hlt]; exact h.c0, by rw [hb.cell hlt]; exact h.c1, by rw [hb.cell hlt]; exact h.c2, by rw [hb.cell hlt]; exact h.c3⟩

def RetU8 (x : Int) (w : World) (e : Ending) (w' : World) : Prop := e = .returned (.int .u8 x) ∧ w = w'
theorem RetU8.mk {a x : Int} {w : World} (h : a = x) : RetU8 x w (.returned (.int .u8 a)) w := by subst h; exact ⟨rfl, rfl⟩

set_option maxHeartbeats 800000 in
theorem mark_c (k : Nat) (hk : k = 1 ∨ k = 2 ∨ k = 4 ∨ k = 8) {w : World} (hT : TabW w) : Calls Tryz.prog 145 #[.int .i64 (k : Int)] w (RetU8 (markS k : Nat) w) := by
  obtain ⟨c0, c1, c2, c3⟩ := hT
  rcases hk with rfl | rfl | rfl | rfl
  · have hx : IntKind.u64.wrap (bits BinOp.and IntKind.u64 1 (IntKind.u64.wrap (-1)) * 285870213051353865) / 288230376151711744 = 0 := by decide
    go_enter Tryz.func145, Tryz.ntmps145
    go_wp2
    go_ret
    exact RetU8.mk (by decide)
  · have hx : IntKind.u64.wrap (bits BinOp.and IntKind.u64 2 (IntKind.u64.wrap (-2)) * 285870213051353865) / 288230376151711744 = 1 := by decide
    go_enter Tryz.func145, Tryz.ntmps145
    go_wp2
    go_ret
    exact RetU8.mk (by decide)
  · have hx : IntKind.u64.wrap (bits BinOp.and IntKind.u64 4 (IntKind.u64.wrap (-4)) * 285870213051353865) / 288230376151711744 = 3 := by decide
    go_enter Tryz.func145, Tryz.ntmps145
    go_wp2
    go_ret
    exact RetU8.mk (by decide)
  · have hx : IntKind.u64.wrap (bits BinOp.and IntKind.u64 8 (IntKind.u64.wrap (-8)) * 285870213051353865) / 288230376151711744 = 7 := by decide
    go_enter Tryz.func145, Tryz.ntmps145
    go_wp2
    go_ret
    exact RetU8.mk (by decide)
end Go.Proofs.YtpejojagghfjgaaGreatDoor
end

section
namespace Go.Proofs.YtpejojagghfjgaaGreatDoor
open Go.RowKit
set_option maxRecDepth 100000

theorem gTab : Tryz.prog.globalNamed "math/bits.deBruijn64tab" = some 5 := by kernel_rfl
theorem gTabType : (Tryz.prog.globals[5]?).map (·.type) = some 218 := by kernel_rfl
theorem cells48 : Tryz.prog.cellsOf 218 = 64 := by kernel_rfl
theorem cells5 : Tryz.prog.cellsOf 5 = 1 := by kernel_rfl

def tab64 : List Int := [0, 1, 56, 2, 57, 49, 28, 3, 61, 58, 42, 50, 38, 29, 17, 4, 62, 47, 59, 36, 45, 43, 51, 22, 53, 39, 33, 30, 24, 18, 12, 5, 63, 55, 48, 27, 60, 41, 37, 16, 46, 35, 44, 21, 52, 32, 23, 11, 54, 26, 40, 15, 34, 20, 31, 10, 25, 14, 19, 9, 13, 8, 7, 6]
def tab32 : List Int := [0, 1, 28, 2, 29, 14, 24, 3, 30, 22, 20, 15, 25, 17, 4, 8, 31, 27, 13, 23, 21, 19, 16, 7, 26, 12, 18, 6, 11, 5, 10, 9]

end Go.Proofs.YtpejojagghfjgaaGreatDoor
end

section
namespace Go.Proofs.YtpejojagghfjgaaGreatDoor
open Go.RowKit
set_option maxRecDepth 100000

theorem gPow : Tryz.prog.globalNamed "internal/strconv.uint64pow10" = some 2 := by kernel_rfl
theorem gPowType : (Tryz.prog.globals[2]?).map (·.type) = some 204 := by kernel_rfl
theorem cells20 : Tryz.prog.cellsOf 204 = 20 := by kernel_rfl
theorem cellsU64 : Tryz.prog.cellsOf 152 = 1 := by kernel_rfl

def powZ : List Int := [1, 10, 100, 1000, 10000, 100000, 1000000, 10000000, 100000000, 1000000000, 10000000000, 100000000000, 1000000000000, 10000000000000, 100000000000000, 1000000000000000, 10000000000000000, 100000000000000000, 1000000000000000000, 10000000000000000000]
theorem powZ_eq : powZ = Lib.pow10Tab := by decide +kernel

/-- What the stamps' walks read of tables. -/
structure TabI (w : World) : Prop where
  b : TabW w
  p : Lib.TabIs Tryz.prog w "internal/strconv.uint64pow10" .u64 Lib.pow10Tab
theorem TabI.grown {w w' : World} (h : TabI w) (hb : Below w.heap.size w w') : TabI w' := by
  refine ⟨h.b.below hb, ?_⟩
  have hp := h.p
  unfold Lib.TabIs World.var? at hp ⊢
  rw [gPow] at hp ⊢
  simp only [Option.bind_some] at hp ⊢
  have hlt : 2 < w.heap.size := by
    cases hx : w.heap[(2 : Nat)]? with
    | none => rw [hx] at hp; cases hp
    | some o => exact (Array.getElem?_eq_some_iff.1 hx).1
  rw [hb.block _ hlt]
  exact hp

end Go.Proofs.YtpejojagghfjgaaGreatDoor
end

section
namespace Go.Proofs
open Go.Shelf
def Tryz.laysM171_ren : Go.Shelf.Ren := ⟨fun | 171 => 50 | 243 => 99 | 246 => 128 | 283 => 159 | 284 => 160 | 285 => 161 | 286 => 162 | 129 => 158 | 317 => 179 | 318 => 180 | 319 => 181 | 320 => 171 | 337 => 186 | 338 => 187 | n => n, fun | 3 => 3 | 9 => 9 | 2 => 2 | 4 => 4 | 171 => 180 | 0 => 0 | 53 => 152 | 37 => 34 | 5 => 5 | 173 => 182 | 212 => 204 | 51 => 140 | 20 => 20 | 213 => 205 | 46 => 47 | 232 => 217 | 233 => 218 | n => n, fun | 17 => 2 | 18 => 4 | 19 => 5 | n => n⟩
theorem Tryz.laysM171 : Go.Proofs.LaysM.n171 Tryz.prog Tryz.laysM171_ren := {
  mixed := by kernel_rfl
  f129 := Tryz.func158.trans (congrArg some (by kernel_rfl))
  f171 := Tryz.func50.trans (congrArg some (by kernel_rfl))
  f243 := Tryz.func99.trans (congrArg some (by kernel_rfl))
  f246 := Tryz.func128.trans (congrArg some (by kernel_rfl))
  f283 := Tryz.func159.trans (congrArg some (by kernel_rfl))
  f284 := Tryz.func160.trans (congrArg some (by kernel_rfl))
  f285 := Tryz.func161.trans (congrArg some (by kernel_rfl))
  f286 := Tryz.func162.trans (congrArg some (by kernel_rfl))
  f317 := Tryz.func179.trans (congrArg some (by kernel_rfl))
  f318 := Tryz.func180.trans (congrArg some (by kernel_rfl))
  f319 := Tryz.func181.trans (congrArg some (by kernel_rfl))
  f320 := Tryz.func171.trans (congrArg some (by kernel_rfl))
  f337 := Tryz.func186.trans (congrArg some (by kernel_rfl))
  f338 := Tryz.func187.trans (congrArg some (by kernel_rfl))
  t0 := Tryz.underlying0
  a0 := Tryz.isAgg0
  z0 := Tryz.sizeOf0
  v0 := Tryz.zeroValue0
  t2 := Tryz.underlying2
  a2 := Tryz.isAgg2
  z2 := Tryz.sizeOf2
  v2 := Tryz.zeroValue2
  t3 := Tryz.underlying3
  a3 := Tryz.isAgg3
  z3 := Tryz.sizeOf3
  v3 := Tryz.zeroValue3
  t4 := Tryz.underlying4
  a4 := Tryz.isAgg4
  z4 := Tryz.sizeOf4
  v4 := Tryz.zeroValue4
  t5 := Tryz.underlying5
  a5 := Tryz.isAgg5
  z5 := Tryz.sizeOf5
  v5 := Tryz.zeroValue5
  t9 := Tryz.underlying9
  a9 := Tryz.isAgg9
  z9 := Tryz.sizeOf9
  v9 := Tryz.zeroValue9
  t20 := Tryz.underlying20
  a20 := Tryz.isAgg20
  z20 := Tryz.sizeOf20
  v20 := Tryz.zeroValue20
  t37 := Tryz.underlying34
  a37 := Tryz.isAgg34
  z37 := Tryz.sizeOf34
  v37 := Tryz.zeroValue34
  t46 := Tryz.underlying47
  a46 := Tryz.isAgg47
  z46 := Tryz.sizeOf47
  v46 := Tryz.zeroValue47
  t51 := Tryz.underlying140
  a51 := Tryz.isAgg140
  z51 := Tryz.sizeOf140
  v51 := Tryz.zeroValue140
  t53 := Tryz.underlying152
  a53 := Tryz.isAgg152
  z53 := Tryz.sizeOf152
  v53 := Tryz.zeroValue152
  t171 := Tryz.underlying180
  a171 := Tryz.isAgg180
  z171 := Tryz.sizeOf180
  v171 := Tryz.zeroValue180
  t173 := Tryz.underlying182
  a173 := Tryz.isAgg182
  z173 := Tryz.sizeOf182
  v173 := Tryz.zeroValue182
  t212 := Tryz.underlying204
  a212 := Tryz.isAgg204
  z212 := Tryz.sizeOf204
  v212 := Tryz.zeroValue204
  t213 := Tryz.underlying205
  a213 := Tryz.isAgg205
  z213 := Tryz.sizeOf205
  t232 := Tryz.underlying217
  a232 := Tryz.isAgg217
  z232 := Tryz.sizeOf217
  v232 := Tryz.zeroValue217
  t233 := Tryz.underlying218
  a233 := Tryz.isAgg218
  z233 := Tryz.sizeOf218
  v233 := Tryz.zeroValue218
  g17 := by kernel_rfl
  g18 := by kernel_rfl
  g19 := by kernel_rfl
  i0 := by kernel_rfl
  i2 := by kernel_rfl
  i3 := by kernel_rfl
  i4 := by kernel_rfl
  i5 := by kernel_rfl
  i9 := by kernel_rfl
  i20 := by kernel_rfl
  i37 := by kernel_rfl
  i46 := by kernel_rfl
  i51 := by kernel_rfl
  i53 := by kernel_rfl
  i171 := by kernel_rfl
  i173 := by kernel_rfl
  i212 := by kernel_rfl
  i232 := by kernel_rfl
  i233 := by kernel_rfl
  m17 := by kernel_rfl
  m18 := by kernel_rfl
  m19 := by kernel_rfl }
open Go.RowKit Go.Sort Go.Lib in
theorem Tryz.strconv_Itoa (n : Int) (h0 : -9223372036854775808 ≤ n) (h1 : n ≤ 9223372036854775807) (w : World) (htab : Lib.TabIs Tryz.prog w "internal/strconv.uint64pow10" .u64 Lib.pow10Tab) :
    Calls Tryz.prog 50 #[.int .i64 n] w fun e w' => e = .returned (.string ⟨(Lib.itoa n).toArray⟩) ∧ ∃ k os, w' = grow (w.drewN k) os := Any.strconv_Itoa Tryz.laysM171 n h0 h1 w htab
open Go.RowKit Go.Sort Go.Lib in
def Tryz.laysC172_ren : Go.Shelf.Ren := ⟨fun | 172 => 53 | 244 => 106 | 245 => 107 | 247 => 134 | 279 => 135 | 280 => 136 | 281 => 137 | 282 => 138 | 287 => 165 | 316 => 166 | 171 => 50 | 205 => 167 | 321 => 182 | 322 => 183 | 243 => 99 | 246 => 128 | 283 => 159 | 284 => 160 | 285 => 161 | 286 => 162 | 129 => 158 | 317 => 179 | 318 => 180 | 319 => 181 | 320 => 171 | 337 => 186 | 338 => 187 | n => n, fun | 9 => 9 | 3 => 3 | 75 => 94 | 76 => 95 | 4 => 4 | 5 => 5 | 167 => 156 | 37 => 34 | 0 => 0 | 85 => 157 | 2 => 2 | 168 => 159 | 53 => 152 | 175 => 187 | 46 => 47 | 210 => 191 | 127 => 155 | 145 => 210 | 143 => 208 | 21 => 21 | 171 => 180 | 173 => 182 | 212 => 204 | 51 => 140 | 20 => 20 | 213 => 205 | 232 => 217 | 233 => 218 | 80 => 134 | n => n, fun | 15 => 0 | 16 => 1 | 17 => 2 | 18 => 4 | 19 => 5 | n => n⟩
theorem Tryz.laysC172 : Go.Proofs.LaysC.n172 Tryz.prog Tryz.laysC172_ren := {
  mixed := by kernel_rfl
  f129 := Tryz.func158.trans (congrArg some (by kernel_rfl))
  f171 := Tryz.func50.trans (congrArg some (by kernel_rfl))
  f172 := Tryz.func53.trans (congrArg some (by kernel_rfl))
  f205 := Tryz.func167.trans (congrArg some (by kernel_rfl))
  f243 := Tryz.func99.trans (congrArg some (by kernel_rfl))
  f244 := Tryz.func106.trans (congrArg some (by kernel_rfl))
  f245 := Tryz.func107.trans (congrArg some (by kernel_rfl))
  f246 := Tryz.func128.trans (congrArg some (by kernel_rfl))
  f247 := Tryz.func134.trans (congrArg some (by kernel_rfl))
  f279 := Tryz.func135.trans (congrArg some (by kernel_rfl))
  f280 := Tryz.func136.trans (congrArg some (by kernel_rfl))
  f281 := Tryz.func137.trans (congrArg some (by kernel_rfl))
  f282 := Tryz.func138.trans (congrArg some (by kernel_rfl))
  f283 := Tryz.func159.trans (congrArg some (by kernel_rfl))
  f284 := Tryz.func160.trans (congrArg some (by kernel_rfl))
  f285 := Tryz.func161.trans (congrArg some (by kernel_rfl))
  f286 := Tryz.func162.trans (congrArg some (by kernel_rfl))
  f287 := Tryz.func165.trans (congrArg some (by kernel_rfl))
  f316 := Tryz.func166.trans (congrArg some (by kernel_rfl))
  f317 := Tryz.func179.trans (congrArg some (by kernel_rfl))
  f318 := Tryz.func180.trans (congrArg some (by kernel_rfl))
  f319 := Tryz.func181.trans (congrArg some (by kernel_rfl))
  f320 := Tryz.func171.trans (congrArg some (by kernel_rfl))
  f321 := Tryz.func182.trans (congrArg some (by kernel_rfl))
  f322 := Tryz.func183.trans (congrArg some (by kernel_rfl))
  f337 := Tryz.func186.trans (congrArg some (by kernel_rfl))
  f338 := Tryz.func187.trans (congrArg some (by kernel_rfl))
  t0 := Tryz.underlying0
  a0 := Tryz.isAgg0
  z0 := Tryz.sizeOf0
  v0 := Tryz.zeroValue0
  t2 := Tryz.underlying2
  a2 := Tryz.isAgg2
  z2 := Tryz.sizeOf2
  v2 := Tryz.zeroValue2
  t3 := Tryz.underlying3
  a3 := Tryz.isAgg3
  z3 := Tryz.sizeOf3
  v3 := Tryz.zeroValue3
  t4 := Tryz.underlying4
  a4 := Tryz.isAgg4
  z4 := Tryz.sizeOf4
  v4 := Tryz.zeroValue4
  t5 := Tryz.underlying5
  a5 := Tryz.isAgg5
  z5 := Tryz.sizeOf5
  v5 := Tryz.zeroValue5
  t9 := Tryz.underlying9
  a9 := Tryz.isAgg9
  z9 := Tryz.sizeOf9
  v9 := Tryz.zeroValue9
  t20 := Tryz.underlying20
  a20 := Tryz.isAgg20
  z20 := Tryz.sizeOf20
  v20 := Tryz.zeroValue20
  t21 := Tryz.underlying21
  a21 := Tryz.isAgg21
  z21 := Tryz.sizeOf21
  v21 := Tryz.zeroValue21
  t37 := Tryz.underlying34
  a37 := Tryz.isAgg34
  z37 := Tryz.sizeOf34
  v37 := Tryz.zeroValue34
  t46 := Tryz.underlying47
  a46 := Tryz.isAgg47
  z46 := Tryz.sizeOf47
  v46 := Tryz.zeroValue47
  t51 := Tryz.underlying140
  a51 := Tryz.isAgg140
  z51 := Tryz.sizeOf140
  v51 := Tryz.zeroValue140
  t53 := Tryz.underlying152
  a53 := Tryz.isAgg152
  z53 := Tryz.sizeOf152
  v53 := Tryz.zeroValue152
  t75 := Tryz.underlying94
  a75 := Tryz.isAgg94
  z75 := Tryz.sizeOf94
  v75 := Tryz.zeroValue94
  t76 := Tryz.underlying95
  a76 := Tryz.isAgg95
  z76 := Tryz.sizeOf95
  v76 := Tryz.zeroValue95
  t85 := Tryz.underlying157
  a85 := Tryz.isAgg157
  z85 := Tryz.sizeOf157
  v85 := Tryz.zeroValue157
  t127 := Tryz.underlying155
  a127 := Tryz.isAgg155
  z127 := Tryz.sizeOf155
  v127 := Tryz.zeroValue155
  t143 := Tryz.underlying208
  a143 := Tryz.isAgg208
  z143 := Tryz.sizeOf208
  v143 := Tryz.zeroValue208
  t145 := Tryz.underlying210
  a145 := Tryz.isAgg210
  z145 := Tryz.sizeOf210
  v145 := Tryz.zeroValue210
  t167 := Tryz.underlying156
  a167 := Tryz.isAgg156
  z167 := Tryz.sizeOf156
  v167 := Tryz.zeroValue156
  t168 := Tryz.underlying159
  a168 := Tryz.isAgg159
  z168 := Tryz.sizeOf159
  v168 := Tryz.zeroValue159
  t171 := Tryz.underlying180
  a171 := Tryz.isAgg180
  z171 := Tryz.sizeOf180
  v171 := Tryz.zeroValue180
  t173 := Tryz.underlying182
  a173 := Tryz.isAgg182
  z173 := Tryz.sizeOf182
  v173 := Tryz.zeroValue182
  t175 := Tryz.underlying187
  a175 := Tryz.isAgg187
  z175 := Tryz.sizeOf187
  v175 := Tryz.zeroValue187
  t210 := Tryz.underlying191
  a210 := Tryz.isAgg191
  z210 := Tryz.sizeOf191
  v210 := Tryz.zeroValue191
  t212 := Tryz.underlying204
  a212 := Tryz.isAgg204
  z212 := Tryz.sizeOf204
  v212 := Tryz.zeroValue204
  t213 := Tryz.underlying205
  a213 := Tryz.isAgg205
  z213 := Tryz.sizeOf205
  t232 := Tryz.underlying217
  a232 := Tryz.isAgg217
  z232 := Tryz.sizeOf217
  v232 := Tryz.zeroValue217
  t233 := Tryz.underlying218
  a233 := Tryz.isAgg218
  z233 := Tryz.sizeOf218
  v233 := Tryz.zeroValue218
  g15 := by kernel_rfl
  g16 := by kernel_rfl
  g17 := by kernel_rfl
  g18 := by kernel_rfl
  g19 := by kernel_rfl
  t80 := Tryz.underlying134
  a80 := Tryz.isAgg134
  z80 := Tryz.sizeOf134
  v80 := Tryz.zeroValue134
  i0 := by kernel_rfl
  i2 := by kernel_rfl
  i3 := by kernel_rfl
  i4 := by kernel_rfl
  i5 := by kernel_rfl
  i9 := by kernel_rfl
  i20 := by kernel_rfl
  i21 := by kernel_rfl
  i37 := by kernel_rfl
  i46 := by kernel_rfl
  i51 := by kernel_rfl
  i53 := by kernel_rfl
  i75 := by kernel_rfl
  i76 := by kernel_rfl
  i80 := by kernel_rfl
  i85 := by kernel_rfl
  i127 := by kernel_rfl
  i143 := by kernel_rfl
  i145 := by kernel_rfl
  i167 := by kernel_rfl
  i168 := by kernel_rfl
  i171 := by kernel_rfl
  i173 := by kernel_rfl
  i175 := by kernel_rfl
  i210 := by kernel_rfl
  i212 := by kernel_rfl
  i232 := by kernel_rfl
  i233 := by kernel_rfl
  m15 := by kernel_rfl
  m16 := by kernel_rfl
  m17 := by kernel_rfl
  m18 := by kernel_rfl
  m19 := by kernel_rfl
  c0 := by kernel_rfl
  c2 := by kernel_rfl
  c3 := by kernel_rfl
  c4 := by kernel_rfl
  c5 := by kernel_rfl
  c9 := by kernel_rfl
  c20 := by kernel_rfl
  c21 := by kernel_rfl
  c37 := by kernel_rfl
  c46 := by kernel_rfl
  c51 := by kernel_rfl
  c53 := by kernel_rfl
  c75 := by kernel_rfl
  c76 := by kernel_rfl
  c80 := by kernel_rfl
  c85 := by kernel_rfl
  c127 := by kernel_rfl
  c143 := by kernel_rfl
  c145 := by kernel_rfl
  c167 := by kernel_rfl
  c168 := by kernel_rfl
  c171 := by kernel_rfl
  c173 := by kernel_rfl
  c175 := by kernel_rfl
  c210 := by kernel_rfl
  c212 := by kernel_rfl
  c213 := by kernel_rfl
  c232 := by kernel_rfl
  c233 := by kernel_rfl }
open Go.RowKit in
theorem Tryz.strconv_Atoi_ok (s : ByteArray) (hmax : s.size ≤ 9223372036854775806) (v : Int) (h : Lib.atoiAll s.data.toList = .ok v) (w : World) :
    Calls Tryz.prog 53 #[.string s] w fun e w' => e = .returned (.tuple #[.int .i64 v, .nilIface]) ∧ (w' = w ∨ ∃ t, w' = Lib.bytesWorld w 5 t) := Any.strconv_Atoi_ok Tryz.laysC172 s hmax v h w
open Go.RowKit in
theorem Tryz.strconv_Atoi_syntax (s : ByteArray) (hlim : s.size ≤ 281474976710656) (h : Lib.atoiAll s.data.toList = .«syntax») (ev : Value) (w : World) (hv : w.cell? ⟨0, 0, none⟩ = some ev) (hev : ev = .nilIface ∨ ∃ te pe, ev = .iface te pe) :
    Calls Tryz.prog 53 #[.string s] w fun e w' => ∃ N, e = .returned (.tuple #[.int .i64 (0), .iface 159 (.pointer (some ⟨N, 0, none⟩))]) ∧ w.heap.size ≤ N ∧ w'.heap[N]? = some (.cells #[.string ⟨#[65, 116, 111, 105]⟩, .string s, ev] 191 (0, 0)) ∧ Below w.heap.size w w' := Any.strconv_Atoi_syntax Tryz.laysC172 s hlim h ev w hv hev
open Go.RowKit in
theorem Tryz.strconv_Atoi_range (s : ByteArray) (hlim : s.size ≤ 281474976710656) (h : Lib.atoiAll s.data.toList = .range) (ev : Value) (w : World) (hv : w.cell? ⟨1, 0, none⟩ = some ev) (hev : ev = .nilIface ∨ ∃ te pe, ev = .iface te pe) :
    Calls Tryz.prog 53 #[.string s] w fun e w' => ∃ N, e = .returned (.tuple #[.int .i64 (Lib.atoiSat s.data.toList), .iface 159 (.pointer (some ⟨N, 0, none⟩))]) ∧ w.heap.size ≤ N ∧ w'.heap[N]? = some (.cells #[.string ⟨#[65, 116, 111, 105]⟩, .string s, ev] 191 (0, 0)) ∧ Below w.heap.size w w' := Any.strconv_Atoi_range Tryz.laysC172 s hlim h ev w hv hev
def Tryz.lays101_ren : Go.Shelf.Ren := ⟨fun | 101 => 54 | 208 => 108 | 206 => 131 | n => n, fun | 9 => 9 | 4 => 4 | 3 => 3 | n => n, fun | n => n⟩
theorem Tryz.lays101 : Go.Proofs.Lays.n101 Tryz.prog Tryz.lays101_ren := {
  mixed := by kernel_rfl
  f101 := Tryz.func54.trans (congrArg some (by kernel_rfl))
  f206 := Tryz.func131.trans (congrArg some (by kernel_rfl))
  f208 := Tryz.func108.trans (congrArg some (by kernel_rfl))
  t3 := Tryz.underlying3
  a3 := Tryz.isAgg3
  z3 := Tryz.sizeOf3
  v3 := Tryz.zeroValue3
  t4 := Tryz.underlying4
  a4 := Tryz.isAgg4
  z4 := Tryz.sizeOf4
  v4 := Tryz.zeroValue4
  t9 := Tryz.underlying9
  a9 := Tryz.isAgg9
  z9 := Tryz.sizeOf9
  v9 := Tryz.zeroValue9 }
open Go.RowKit Go.Lib in
theorem Tryz.strings_TrimPrefix (s p : ByteArray) (w : World) :
    Calls Tryz.prog 54 #[.string s, .string p] w fun e w' => e = .returned (.string ⟨(Lib.trimPrefix s.data.toList p.data.toList).toArray⟩) ∧ w' = w := Any.strings_TrimPrefix Tryz.lays101 s p w
def Tryz.lays105_ren : Go.Shelf.Ren := ⟨fun | 105 => 51 | 212 => 100 | 99 => 101 | 165 => 102 | 166 => 103 | 170 => 104 | 169 => 105 | 263 => 129 | 264 => 130 | 206 => 131 | 240 => 132 | 241 => 133 | 276 => 163 | 277 => 164 | n => n, fun | 9 => 9 | 3 => 3 | 4 => 4 | 20 => 20 | 0 => 0 | 46 => 47 | 109 => 128 | 5 => 5 | 72 => 133 | 76 => 95 | 51 => 140 | 146 => 150 | 53 => 152 | 148 => 153 | 70 => 131 | 37 => 34 | 75 => 94 | 127 => 155 | 164 => 184 | 80 => 134 | n => n, fun | n => n⟩
theorem Tryz.lays105 : Go.Proofs.Lays.n105 Tryz.prog Tryz.lays105_ren := {
  mixed := by kernel_rfl
  f99 := Tryz.func101.trans (congrArg some (by kernel_rfl))
  f105 := Tryz.func51.trans (congrArg some (by kernel_rfl))
  f165 := Tryz.func102.trans (congrArg some (by kernel_rfl))
  f166 := Tryz.func103.trans (congrArg some (by kernel_rfl))
  f169 := Tryz.func105.trans (congrArg some (by kernel_rfl))
  f170 := Tryz.func104.trans (congrArg some (by kernel_rfl))
  f206 := Tryz.func131.trans (congrArg some (by kernel_rfl))
  f212 := Tryz.func100.trans (congrArg some (by kernel_rfl))
  f240 := Tryz.func132.trans (congrArg some (by kernel_rfl))
  f241 := Tryz.func133.trans (congrArg some (by kernel_rfl))
  f263 := Tryz.func129.trans (congrArg some (by kernel_rfl))
  f264 := Tryz.func130.trans (congrArg some (by kernel_rfl))
  f276 := Tryz.func163.trans (congrArg some (by kernel_rfl))
  f277 := Tryz.func164.trans (congrArg some (by kernel_rfl))
  t0 := Tryz.underlying0
  a0 := Tryz.isAgg0
  z0 := Tryz.sizeOf0
  v0 := Tryz.zeroValue0
  t3 := Tryz.underlying3
  a3 := Tryz.isAgg3
  z3 := Tryz.sizeOf3
  v3 := Tryz.zeroValue3
  t4 := Tryz.underlying4
  a4 := Tryz.isAgg4
  z4 := Tryz.sizeOf4
  v4 := Tryz.zeroValue4
  t5 := Tryz.underlying5
  a5 := Tryz.isAgg5
  z5 := Tryz.sizeOf5
  v5 := Tryz.zeroValue5
  t9 := Tryz.underlying9
  a9 := Tryz.isAgg9
  z9 := Tryz.sizeOf9
  v9 := Tryz.zeroValue9
  t20 := Tryz.underlying20
  a20 := Tryz.isAgg20
  z20 := Tryz.sizeOf20
  v20 := Tryz.zeroValue20
  t37 := Tryz.underlying34
  a37 := Tryz.isAgg34
  z37 := Tryz.sizeOf34
  v37 := Tryz.zeroValue34
  t46 := Tryz.underlying47
  a46 := Tryz.isAgg47
  z46 := Tryz.sizeOf47
  v46 := Tryz.zeroValue47
  t51 := Tryz.underlying140
  a51 := Tryz.isAgg140
  z51 := Tryz.sizeOf140
  v51 := Tryz.zeroValue140
  t53 := Tryz.underlying152
  a53 := Tryz.isAgg152
  z53 := Tryz.sizeOf152
  v53 := Tryz.zeroValue152
  t70 := Tryz.underlying131
  a70 := Tryz.isAgg131
  z70 := Tryz.sizeOf131
  v70 := Tryz.zeroValue131
  t72 := Tryz.underlying133
  a72 := Tryz.isAgg133
  z72 := Tryz.sizeOf133
  v72 := Tryz.zeroValue133
  t75 := Tryz.underlying94
  a75 := Tryz.isAgg94
  z75 := Tryz.sizeOf94
  v75 := Tryz.zeroValue94
  t76 := Tryz.underlying95
  a76 := Tryz.isAgg95
  z76 := Tryz.sizeOf95
  v76 := Tryz.zeroValue95
  t109 := Tryz.underlying128
  a109 := Tryz.isAgg128
  z109 := Tryz.sizeOf128
  v109 := Tryz.zeroValue128
  t127 := Tryz.underlying155
  a127 := Tryz.isAgg155
  z127 := Tryz.sizeOf155
  v127 := Tryz.zeroValue155
  t146 := Tryz.underlying150
  a146 := Tryz.isAgg150
  z146 := Tryz.sizeOf150
  v146 := Tryz.zeroValue150
  t148 := Tryz.underlying153
  a148 := Tryz.isAgg153
  z148 := Tryz.sizeOf153
  v148 := Tryz.zeroValue153
  t164 := Tryz.underlying184
  a164 := Tryz.isAgg184
  z164 := Tryz.sizeOf184
  v164 := Tryz.zeroValue184 }
theorem Tryz.Builder_Extra_105 : Builder.Extra Tryz.prog Tryz.lays105_ren := {
  sizeBuilder := by kernel_rfl
  liesBuilder := by kernel_rfl
  t5 := Tryz.underlying5
  a5 := Tryz.isAgg5
  z5 := Tryz.sizeOf5
  v5 := Tryz.zeroValue5
  infoByte := by kernel_rfl
  cellsByte := by kernel_rfl
  sizeByte := by kernel_rfl
  neB5 := by decide }
open Go.RowKit Go.Lib in
theorem Tryz.strings_Repeat (s : ByteArray) (c : Nat) (w : World) (hc : c ≤ 9223372036854775807) (hlen : s.size * c ≤ 140737488355328) :
    Calls Tryz.prog 51 #[.string s, .int .i64 c] w fun e w' => e = .returned (.string ⟨(Lib.repeatL s.data.toList c).toArray⟩) ∧ Below w.heap.size w w' := Any.strings_Repeat Tryz.lays105 Tryz.Builder_Extra_105 s c w hc hlen
end Go.Proofs
end

section
namespace Go.Proofs.YtpejojagghfjgaaGreatDoor
open Go.RowKit Go Go.Sort
set_option linter.unusedVariables false

theorem wdecFrom_snoc (l : List UInt8) (b : UInt8) : ∀ acc, Lib.decFrom acc (l ++ [b]) = (Lib.decFrom acc l).bind (fun n => (Lib.digitVal b).map (fun d => n * 10 + d)) := by
  induction l with
  | nil => intro acc; simp [Lib.decFrom]; cases Lib.digitVal b <;> rfl
  | cons a t ih =>
    intro acc
    simp only [List.cons_append, Lib.decFrom]
    cases Lib.digitVal a with
    | none => rfl
    | some d => exact ih _
theorem wdigitVal_of (k : Nat) (h : k < 10) : Lib.digitVal (UInt8.ofNat (48 + k)) = some k := by
  have e : (UInt8.ofNat (48 + k)).toNat = 48 + k := by simp; omega
  unfold Lib.digitVal
  rw [e, if_pos ⟨by omega, by omega⟩]
  congr 1; omega
theorem wdigit_eq {b : UInt8} {x : Nat} (h : Lib.digitVal b = some x) : x < 10 ∧ UInt8.ofNat (48 + x) = b ∧ 48 ≤ b.toNat ∧ b.toNat ≤ 57 := by
  unfold Lib.digitVal at h
  split at h
  · rename_i hb
    have hx : b.toNat - 48 = x := by simpa using h
    refine ⟨by omega, ?_, by omega, by omega⟩
    rw [show 48 + x = b.toNat by omega]
    simp
  · cases h
/-- The last k digits of a number. -/
def padD : Nat → Nat → List UInt8
  | 0, _ => []
  | k + 1, n => padD k (n / 10) ++ [UInt8.ofNat (48 + n % 10)]
theorem padD_len : ∀ (k n : Nat), (padD k n).length = k
  | 0, _ => rfl
  | k + 1, n => by simp [padD, padD_len k]
theorem padD_zero : ∀ k, padD k 0 = List.replicate k 48
  | 0 => rfl
  | k + 1 => by
    show padD k (0 / 10) ++ _ = _
    rw [show 0 / 10 = 0 from rfl, padD_zero k, List.replicate_succ']
    rfl
theorem dec_padD : ∀ (k n : Nat), n < 10 ^ k → Lib.decFrom 0 (padD k n) = some n
  | 0, n, h => by
    have : n = 0 := by simpa using h
    subst this; rfl
  | k + 1, n, h => by
    show Lib.decFrom 0 (padD k (n / 10) ++ _) = _
    rw [wdecFrom_snoc, dec_padD k (n / 10) (by rw [Nat.pow_succ] at h; omega), wdigitVal_of _ (by omega)]
    simp
    omega
theorem padD_dec : ∀ (k : Nat) (d : List UInt8) (m : Nat), d.length = k → Lib.decFrom 0 d = some m → padD k m = d ∧ m < 10 ^ k
  | 0, d, m, hd, h => by
    have : d = [] := List.length_eq_zero_iff.1 hd
    subst this
    have : m = 0 := by simpa [Lib.decFrom] using h.symm
    subst this
    exact ⟨rfl, by simp⟩
  | k + 1, d, m, hd, h => by
    rcases List.eq_nil_or_concat d with rfl | ⟨d', b, rfl⟩
    · simp at hd
    · have hl : d'.length = k := by simpa using hd
      rw [List.concat_eq_append] at h ⊢
      rw [wdecFrom_snoc] at h
      cases h1 : Lib.decFrom 0 d' with
      | none => rw [h1] at h; cases h
      | some m' =>
        rw [h1] at h
        cases h2 : Lib.digitVal b with
        | none => rw [h2] at h; cases h
        | some x =>
          rw [h2] at h
          have hm : m' * 10 + x = m := by simpa using h
          obtain ⟨hx, hb, -, -⟩ := wdigit_eq h2
          obtain ⟨e1, e2⟩ := padD_dec k d' m' hl h1
          constructor
          · show padD k (m / 10) ++ [_] = _
            rw [show m / 10 = m' by omega, show m % 10 = x by omega, e1, hb]
          · rw [Nat.pow_succ]; omega
theorem padD_digits : ∀ (k n : Nat), 1 ≤ k → n < 10 ^ k → (Lib.decDigits n).length ≤ k ∧ List.replicate (k - (Lib.decDigits n).length) 48 ++ Lib.decDigits n = padD k n
  | 0, _, h, _ => by omega
  | k + 1, n, _, h => by
    rw [Lib.decDigits]
    by_cases hn : n < 10
    · rw [dif_pos hn]
      refine ⟨by simp, ?_⟩
      show _ = padD k (n / 10) ++ _
      rw [show n / 10 = 0 by omega, padD_zero, show n % 10 = n by omega]
      rfl
    · rw [dif_neg hn]
      have hk : 1 ≤ k := by
        rcases Nat.eq_zero_or_pos k with rfl | hk
        · simp at h; omega
        · exact hk
      obtain ⟨h1, h2⟩ := padD_digits k (n / 10) hk (by rw [Nat.pow_succ] at h; omega)
      refine ⟨by simp; exact h1, ?_⟩
      show _ = padD k (n / 10) ++ _
      rw [← h2, List.length_append, List.length_singleton, Nat.add_sub_add_right, List.append_assoc]

/-- The name of a number behind a letter. -/
def nameW (c : UInt8) (n : Int) : List UInt8 := if n < 1 ∨ 999999999999 < n then [] else c :: padD 12 n.toNat
/-- The reference's reading. -/
def readW (c : UInt8) (l : List UInt8) : Int := if l.length = 13 ∧ l.head? = some c then (match Lib.decFrom 0 (l.drop 1) with | some n => (n : Int) | none => 0) else 0
/-- A name without its letter. -/
def cutW (c : UInt8) (l : List UInt8) : List UInt8 := if l.head? = some c then l.drop 1 else l
/-- The program's reading. -/
def numW (c : UInt8) (l : List UInt8) : Int := match Lib.atoiAll (cutW c l) with
  | .ok v => if nameW c v = l then v else 0
  | _ => 0
theorem nameW_in {c : UInt8} {n : Int} (h1 : 1 ≤ n) (h2 : n ≤ 999999999999) : nameW c n = c :: (List.replicate (12 - (Lib.itoa n).length) 48 ++ Lib.itoa n) ∧ (Lib.itoa n).length ≤ 12 := by
  have e : Lib.itoa n = Lib.decDigits n.toNat := by unfold Lib.itoa; rw [if_neg (by omega)]
  obtain ⟨h3, h4⟩ := padD_digits 12 n.toNat (by omega) (by rw [show (10 : Nat) ^ 12 = 1000000000000 from by decide]; omega)
  rw [e, h4]
  exact ⟨by unfold nameW; rw [if_neg (by omega)], h3⟩
theorem atoi_padD {n : Nat} (h : n < 10 ^ 12) : Lib.atoiAll (padD 12 n) = .ok (n : Int) := by
  rw [Lib.atoiAll_short _ (by rw [padD_len]; omega)]
  have hd := dec_padD 12 n h
  cases hp : padD 12 n with
  | nil => have := padD_len 12 n; rw [hp] at this; simp at this
  | cons b r =>
    rw [hp] at hd
    obtain ⟨x, hx⟩ : ∃ x, Lib.digitVal b = some x := by
      cases h1 : Lib.digitVal b with
      | none => rw [Lib.decFrom, h1] at hd; cases hd
      | some x => exact ⟨x, rfl⟩
    obtain ⟨-, -, hb1, hb2⟩ := wdigit_eq hx
    have e1 : (b == 45) = false := by rw [beq_eq_false_iff_ne]; rintro rfl; simp at hb1
    have e2 : (b == 43) = false := by rw [beq_eq_false_iff_ne]; rintro rfl; simp at hb1
    simp [Lib.atoi, e1, e2, Lib.decNat, hd, Lib.NumEnd.ofOption]
theorem numW_readW (c : UInt8) (l : List UInt8) : numW c l = readW c l := by
  have P12 : (10 : Nat) ^ 12 = 1000000000000 := by decide
  by_cases hl : l.length = 13 ∧ l.head? = some c
  · obtain ⟨h13, hc⟩ := hl
    obtain ⟨d, rfl⟩ : ∃ d, l = c :: d := by
      cases l with
      | nil => simp at h13
      | cons a d => exact ⟨d, by rw [show a = c by simpa using hc]⟩
    have hd : d.length = 12 := by simpa using h13
    have hcut : cutW c (c :: d) = d := by unfold cutW; rw [if_pos (by simp)]; rfl
    have hread : readW c (c :: d) = (match Lib.decFrom 0 d with | some n => (n : Int) | none => 0) := by unfold readW; rw [if_pos ⟨h13, hc⟩]; rfl
    rw [hread]
    unfold numW
    rw [hcut]
    cases hm : Lib.decFrom 0 d with
    | some m =>
      obtain ⟨e1, e2⟩ := padD_dec 12 d m hd hm
      have ha : Lib.atoiAll d = .ok (m : Int) := by rw [← e1]; exact atoi_padD e2
      rw [ha]
      show (if nameW c (m : Int) = c :: d then (m : Int) else 0) = (m : Int)
      by_cases h0 : m = 0
      · subst h0; split <;> rfl
      · rw [if_pos]
        unfold nameW
        rw [if_neg (by omega), show ((m : Int)).toNat = m from rfl, e1]
    | none =>
      show (match Lib.atoiAll d with | .ok v => if nameW c v = c :: d then v else 0 | _ => 0) = 0
      cases hv : Lib.atoiAll d with
      | ok v =>
        show (if nameW c v = c :: d then v else 0) = 0
        rw [if_neg]
        intro he
        unfold nameW at he
        split at he
        · cases he
        · rename_i hr
          have he' : padD 12 v.toNat = d := by simpa using he
          rw [← he', dec_padD 12 _ (by omega)] at hm
          cases hm
      | _ => rfl
  · have hread : readW c l = 0 := by unfold readW; rw [if_neg hl]
    rw [hread]
    unfold numW
    cases hv : Lib.atoiAll (cutW c l) with
    | ok v =>
      show (if nameW c v = l then v else 0) = 0
      by_cases he : nameW c v = l
      · rw [if_pos he]
        unfold nameW at he
        split at he
        · subst he
          exfalso
          have hc0 : cutW c [] = [] := by unfold cutW; split <;> rfl
          have : Lib.atoiAll (cutW c []) = .syntax := by rw [hc0]; decide
          rw [this] at hv
          cases hv
        · exfalso
          apply hl
          rw [← he]
          exact ⟨by simp [padD_len], rfl⟩
      · rw [if_neg he]
    | _ => rfl
theorem readW_nameW {c : UInt8} {n : Int} (h1 : 1 ≤ n) (h2 : n ≤ 999999999999) : readW c (nameW c n) = n := by
  have P12 : (10 : Nat) ^ 12 = 1000000000000 := by decide
  have e : nameW c n = c :: padD 12 n.toNat := by unfold nameW; rw [if_neg (by omega)]
  rw [e]
  unfold readW
  rw [if_pos ⟨by simp [padD_len], rfl⟩]
  show (match Lib.decFrom 0 (padD 12 n.toNat) with | some n => (n : Int) | none => 0) = n
  rw [dec_padD 12 _ (by omega)]
  show ((n.toNat : Nat) : Int) = n
  omega
end Go.Proofs.YtpejojagghfjgaaGreatDoor
end

section
namespace Go.Proofs.YtpejojagghfjgaaGreatDoor
open Go.RowKit Go Go.Sort
set_option linter.unusedVariables false
set_option maxRecDepth 20000

/-- What the walks of names read of variables. -/
structure TabE (w : World) : Prop where
  i : TabI w
  s : ∃ ev, w.cell? ⟨0, 0, none⟩ = some ev ∧ (ev = .nilIface ∨ ∃ te pe, ev = .iface te pe)
  r : ∃ ev, w.cell? ⟨1, 0, none⟩ = some ev ∧ (ev = .nilIface ∨ ∃ te pe, ev = .iface te pe)
theorem TabE.grown {w w' : World} (h : TabE w) (hb : Below w.heap.size w w') : TabE w' := by
  obtain ⟨hi, ⟨e1, h1, g1⟩, ⟨e2, h2, g2⟩⟩ := h
  exact ⟨hi.grown hb, ⟨e1, by rw [hb.cell (World.block_lt_of_cell? w _ h1)]; exact h1, g1⟩, ⟨e2, by rw [hb.cell (World.block_lt_of_cell? w _ h2)]; exact h2, g2⟩⟩
theorem wgrow_below (w : World) (k : Nat) (os : Array Obj) : Below w.heap.size w (grow (w.drewN k) os) :=
  ⟨rfl, rfl, rfl, by simp [grow, World.drewN], fun j hj => by simp [grow, World.drewN, Array.getElem?_append, hj]⟩
theorem witoa_c (n : Int) (h0 : -9223372036854775808 ≤ n) (h1 : n ≤ 9223372036854775807) {w : World} (hT : TabI w) : Calls Tryz.prog 50 #[.int .i64 n] w (Tells (.string ⟨(Lib.itoa n).toArray⟩) w) := by
  refine (Tryz.strconv_Itoa n h0 h1 w hT.p).mono ?_
  rintro e w' ⟨rfl, k, os, rfl⟩
  exact ⟨rfl, wgrow_below w k os⟩
/-- What Atoi tells: a number and no error, or an error. -/
theorem watoi_c (l : List UInt8) (hl : l.length ≤ 2000) {w : World} (hT : TabE w) : Calls Tryz.prog 53 #[.string ⟨l.toArray⟩] w (fun e w' => (∃ u v, e = .returned (.tuple #[.int .i64 u, v]) ∧ ((v = .nilIface ∧ Lib.atoiAll l = .ok u) ∨ ((∃ te pe, v = .iface te pe) ∧ ∀ z, Lib.atoiAll l ≠ .ok z))) ∧ Below w.heap.size w w') := by
  have hs : (⟨l.toArray⟩ : ByteArray).size = l.length := by show l.toArray.size = _; simp
  have hd : (⟨l.toArray⟩ : ByteArray).data.toList = l := by simp
  rcases h : Lib.atoiAll l with v | _ | _
  · refine (Tryz.strconv_Atoi_ok ⟨l.toArray⟩ (by rw [hs]; omega) v (by rw [hd]; exact h) w).mono ?_
    rintro e w' ⟨rfl, hw⟩
    refine ⟨⟨_, _, rfl, Or.inl ⟨rfl, rfl⟩⟩, ?_⟩
    rcases hw with rfl | ⟨t, rfl⟩
    · exact Below.refl _ _
    · exact Lib.bytesWorld_below _ _ _
  · obtain ⟨ev, hc, he⟩ := hT.s
    refine (Tryz.strconv_Atoi_syntax ⟨l.toArray⟩ (by rw [hs]; omega) (by rw [hd]; exact h) ev w hc he).mono ?_
    rintro e w' ⟨N, rfl, -, -, hb⟩
    exact ⟨⟨_, _, rfl, Or.inr ⟨⟨_, _, rfl⟩, fun z hz => by cases hz⟩⟩, hb⟩
  · obtain ⟨ev, hc, he⟩ := hT.r
    refine (Tryz.strconv_Atoi_range ⟨l.toArray⟩ (by rw [hs]; omega) (by rw [hd]; exact h) ev w hc he).mono ?_
    rintro e w' ⟨N, rfl, -, -, hb⟩
    exact ⟨⟨_, _, rfl, Or.inr ⟨⟨_, _, rfl⟩, fun z hz => by cases hz⟩⟩, hb⟩
theorem repeatL_one48 (k : Nat) : Lib.repeatL [48] k = List.replicate k (48 : UInt8) := by
  induction k with
  | zero => rfl
  | succ k ih => simp [Lib.repeatL, ih, List.replicate_succ]
theorem wrepeat_c (k : Nat) (hk : k ≤ 12) (W : World) : Calls Tryz.prog 51 #[.string ⟨#[48]⟩, .int .i64 (k : Int)] W (Tells (.string (text (List.replicate k 48))) W) := by
  refine (Tryz.strings_Repeat ⟨#[48]⟩ k W (by omega) (by show 1 * k ≤ _; omega)).mono ?_
  rintro e w' ⟨rfl, hb⟩
  exact ⟨by rw [← repeatL_one48]; rfl, hb⟩
theorem wtext_size (l : List UInt8) : (text l).size = l.length := by simp [text, ByteArray.size]
theorem wtext_app (a b : List UInt8) : text a ++ text b = text (a ++ b) := by
  apply ByteArray.ext
  simp [text]

set_option maxHeartbeats 1600000 in
theorem wname_c (n : Int) (h0 : -9223372036854775808 ≤ n) (h1 : n ≤ 9223372036854775807) {w : World} (hT : TabI w) : Calls Tryz.prog 16 #[.int .i64 n] w (Tells (.string (text (nameW 119 n))) w) := by
  by_cases hr : n < 1 ∨ 999999999999 < n
  · have hv : nameW 119 n = [] := by unfold nameW; rw [if_pos hr]
    rw [hv]
    clear hv
    by_cases hn1 : n < 1
    · clear hr
      go_enter Tryz.func16, Tryz.ntmps16
      go_wp2_with (fail)
      go_ret
      exact ⟨rfl, Below.refl _ _⟩
    · have hn2 : 999999999999 < n := by omega
      clear hr
      go_enter Tryz.func16, Tryz.ntmps16
      go_wp2_with (fail)
      go_ret
      exact ⟨rfl, Below.refl _ _⟩
  · have hn1 : ¬ n < 1 := by omega
    have hn2 : ¬ 999999999999 < n := by omega
    obtain ⟨hv, hlen⟩ := nameW_in (c := 119) (n := n) (by omega) (by omega)
    have HI := Lib.hid (witoa_c n h0 h1 hT)
    obtain ⟨t, ht⟩ : ∃ t, Lib.itoa n = t := ⟨_, rfl⟩
    rw [ht] at HI hv hlen
    rw [hv]
    obtain ⟨tl, htl⟩ : ∃ z, t.length = z := ⟨_, rfl⟩
    rw [htl] at hlen ⊢
    obtain ⟨k, hk⟩ : ∃ k, 12 - tl = k := ⟨_, rfl⟩
    have hki : (12 : Int) - (tl : Int) = (k : Int) := by omega
    have hk12 : k ≤ 12 := by omega
    have hsz : (⟨t.toArray⟩ : ByteArray).size = tl := by rw [← htl]; exact wtext_size t
    have HR := Lib.hid (fun W => wrepeat_c k hk12 W)
    obtain ⟨rp, hrp⟩ : ∃ z, List.replicate k (48 : UInt8) = z := ⟨_, rfl⟩
    have hrl : rp.length = k := by rw [← hrp]; simp
    rw [hrp] at HR
    rw [hk, hrp]
    have hs1 : ¬ 9223372036854775807 < (text [119]).size + (text rp).size := by rw [wtext_size, wtext_size, hrl]; simp; omega
    have hs2 : ¬ 9223372036854775807 < (text [119] ++ text rp).size + (⟨t.toArray⟩ : ByteArray).size := by rw [wtext_app, wtext_size, hsz, List.length_append, hrl]; simp; omega
    rw [show text [119] = ⟨#[119]⟩ from rfl] at hs1 hs2
    have HE9 := Lib.hid (show (⟨#[119]⟩ : ByteArray) ++ text rp ++ (⟨t.toArray⟩ : ByteArray) = text (119 :: (rp ++ t)) from by
      show text [119] ++ text rp ++ text t = _
      rw [wtext_app, wtext_app]
      rfl)
    clear hr hv ht htl hrp hk hrl
    go_enter Tryz.func16, Tryz.ntmps16
    go_wp2_with (first
      | (go_at_call 50; (with_reducible refine HI.out.mono ?_); rintro e1 w1 ⟨rfl, hb1⟩; have HB1 := Lib.hid hb1; clear hb1)
      | (go_at_call 51; (with_reducible refine (HR.out _).mono ?_); rintro e2 w2 ⟨rfl, hb2⟩; have HB2 := Lib.hid hb2; clear hb2))
    go_ret
    exact ⟨by rw [← HE9.out]; rfl, HB1.out.trans (HB2.out.mono HB1.out.size)⟩
set_option maxHeartbeats 1600000 in
theorem wnumber_c (l : List UInt8) (hl : l.length ≤ 1000) {w : World} (hT : TabE w) : Calls Tryz.prog 18 #[.string (text l)] w (Tells (.int .i64 (readW 119 l)) w) := by
  have e := numW_readW 119 l
  unfold numW at e
  have hsz : l.length ≤ 2000 := by omega
  have hcut : (Lib.trimPrefix l [119]) = cutW 119 l := by
    unfold Lib.trimPrefix cutW
    cases l with
    | nil => rfl
    | cons a r =>
      by_cases ha : a = 119
      · subst ha; simp [Lib.hasPrefix]
      · simp [Lib.hasPrefix, ha]
        try (intro h; exact absurd h.symm ha)
  have hcl : (cutW 119 l).length ≤ 2000 := by
    unfold cutW; split
    · simp; omega
    · omega
  have HA := Lib.hid (watoi_c (cutW 119 l) hcl hT)
  have HTR := Lib.hid (show Calls Tryz.prog 54 #[.string (text l), .string ⟨#[119]⟩] w (fun e w' => e = .returned (.string ⟨(cutW 119 l).toArray⟩) ∧ w = w') from by
    refine (Tryz.strings_TrimPrefix (text l) ⟨#[119]⟩ w).mono ?_
    rintro e w' ⟨rfl, rfl⟩
    exact ⟨by rw [← hcut]; simp [text], rfl⟩)
  have HT := Lib.hid hT
  have HE := Lib.hid e
  clear hT e hcut hsz hcl
  go_enter Tryz.func18, Tryz.ntmps18
  go_upto_region 2 with (first
    | (go_at_call 54; (with_reducible refine HTR.out.mono ?_); rintro e1 w1 ⟨rfl, rfl⟩)
    | (go_at_call 53; (with_reducible refine HA.out.mono ?_); rintro e2 w2 ⟨⟨u, v, rfl, huv⟩, hb2⟩; have HB2 := Lib.hid hb2; have HUV := Lib.hid huv; clear hb2 huv))
  rcases HUV.out with ⟨rfl, hok⟩ | ⟨⟨te, pe, rfl⟩, hno⟩
  · have hbd := Lib.atoiAll_bounds hok
    have HN := Lib.hid (wname_c u hbd.1 hbd.2 (HT.out.i.grown HB2.out))
    have he : (if nameW 119 u = l then u else 0) = readW 119 l := by have := HE.out; rw [hok] at this; exact this
    clear hok hbd HUV
    by_cases hq : nameW 119 u = l
    · rw [if_pos hq] at he
      rw [hq] at HN
      clear hq
      subst he
      go_wp2_with (go_at_call 16; (with_reducible refine HN.out.mono ?_); rintro e3 w3 ⟨rfl, hb3⟩; have HB3 := Lib.hid hb3; clear hb3)
      go_ret
      exact ⟨rfl, HB2.out.trans (HB3.out.mono HB2.out.size)⟩
    · rw [if_neg hq] at he
      have hnb : ((text (nameW 119 u)).toList == (text l).toList) = false := by
        rw [ByteArray.toList_eq, ByteArray.toList_eq, beq_eq_false_iff_ne]
        simpa [text] using hq
      have HQ := Lib.hid he
      clear hq he
      go_wp2_with (go_at_call 16; (with_reducible refine HN.out.mono ?_); rintro e3 w3 ⟨rfl, hb3⟩; have HB3 := Lib.hid hb3; clear hb3)
      go_ret
      exact ⟨by rw [← HQ.out]; rfl, HB2.out.trans (HB3.out.mono HB2.out.size)⟩
  · have he : 0 = readW 119 l := by
      have h9 := HE.out
      split at h9
      · rename_i z hz; exact absurd hz (hno z)
      · exact h9
    have HQ := Lib.hid he
    clear he hno HUV
    go_wp2_with (fail)
    go_ret
    exact ⟨by rw [← HQ.out]; rfl, HB2.out⟩
end Go.Proofs.YtpejojagghfjgaaGreatDoor
end

section
namespace Go.Proofs.YtpejojagghfjgaaGreatDoor
open Go.RowKit
set_option linter.unusedVariables false

/-- WHAT THE WALK IS TOLD OF A SLICE OF INTEGERS THAT CAME IN: it is nil; or it leads to a row of 'cap' cells, the numbers 'zs' (the first 'len' are its elements, the rest its spare room), each fitting its kind. -/
def IsRow (k : IntKind) (w : World) (a : Option Addr) (len cap : Nat) (zs : List Int) : Prop :=
  (a = none ∧ len = 0 ∧ cap = 0 ∧ zs = []) ∨
  ∃ x, a = some x ∧ len ≤ cap ∧ cap ≤ maxLen ∧ zs.length = cap ∧ (∀ i, i < zs.length → w.cell? (x.add i) = some (.int k (zs.getD i 0))) ∧ ∀ n ∈ zs, (Lit.int k n).wf = true

theorem u8_of_wf {n : Int} (h : (Lit.int .u8 n).wf = true) : 0 ≤ n ∧ n ≤ 255 := by
  simpa [Lit.wf, IntKind.min, IntKind.max, IntKind.signed, IntKind.bits] using h

theorem IsRow.bys {w : World} {a : Option Addr} {n cap : Nat} {zs : List Int} (h : IsRow .u8 w a n cap zs) : ∃ l, Bys w a n cap l := by
  rcases h with ⟨rfl, rfl, rfl, rfl⟩ | ⟨x, rfl, hl, hm, hz, hcell, hwz⟩
  · exact ⟨[], rfl, Nat.le_refl _, by omega, .inl rfl⟩
  · refine ⟨(zs.take n).map (fun z => UInt8.ofNat z.toNat), by simp; omega, hl, by unfold maxLen at hm; omega, ?_⟩
    by_cases hc : cap = 0
    · exact .inl hc
    · right
      obtain ⟨b, off, spot⟩ := x
      have h0 := hcell 0 (by omega)
      have hspot : spot = none := by simpa [Addr.add] using World.cell?_spot h0
      subst hspot
      refine ⟨b, off, rfl, fun i hi => ?_⟩
      have hi' : i < zs.length := by omega
      have := hcell i hi'
      have hw := u8_of_wf (hwz (zs.getD i 0) (by rw [List.getD_eq_getElem?_getD, List.getElem?_eq_getElem hi']; exact List.getElem_mem hi'))
      have e : by8 ((zs.take n).map (fun z => UInt8.ofNat z.toNat)) i = zs.getD i 0 := by
        unfold by8
        have hq : zs.getD i 0 = zs[i] := by simp [List.getD, hi']
        rw [hq] at hw ⊢
        simp [List.getD, hi, hi']
        omega
      rw [e]
      have ea : (⟨b, off, none⟩ : Addr).add i = ⟨b, off + i, none⟩ := by
        by_cases h0 : i = 0
        · subst h0; rfl
        · simp [Addr.add, h0]
      rw [← ea]; exact this

end Go.Proofs.YtpejojagghfjgaaGreatDoor
end

section
namespace Go.Proofs.YtpejojagghfjgaaGreatDoor
open Go.RowKit Go Go.Sort
set_option linter.unusedVariables false
set_option maxRecDepth 20000

theorem wstr_append (a b : List UInt8) : (⟨a.toArray⟩ : ByteArray) ++ (⟨b.toArray⟩ : ByteArray) = ⟨(a ++ b).toArray⟩ := by
  apply ByteArray.ext
  rw [ByteArray.data_append]
  simp
theorem wone_bys (w : World) (T : TypeId) (z : Int) (c : UInt8) (hz : z = (c.toNat : Int)) : Bys (w.alloc (.cells #[.int .u8 z] T)) (some ⟨w.heap.size, 0, none⟩) 1 1 [c] := by
  subst hz
  refine ⟨rfl, Nat.le_refl _, by omega, .inr ⟨w.heap.size, 0, rfl, fun i hi => ?_⟩⟩
  obtain rfl : i = 0 := by omega
  unfold World.cell?
  rw [heap_alloc_new]
  rfl
/-- What is left of a number is ahead of the digits that were told. -/
theorem padD_step (i n : Nat) (s : List UInt8) (N : List UInt8) (hi : i < 12) (h : padD (12 - i) n ++ s = N) : padD (12 - (i + 1)) (n / 10) ++ ([UInt8.ofNat (48 + n % 10)] ++ s) = N := by
  rw [← h, show 12 - i = (12 - (i + 1)) + 1 by omega]
  show _ = (padD (12 - (i + 1)) (n / 10) ++ [_]) ++ s
  rw [List.append_assoc]

set_option maxHeartbeats 1600000 in
theorem rnumbered_c (c : UInt8) (n : Int) (w : World) : Calls Tryz.prog 52 #[.string (text [c]), .int .i64 n] w (Tells (.string (text (nameW c n))) w) := by
  by_cases hr : n < 1 ∨ 999999999999 < n
  · have hv : nameW c n = [] := by unfold nameW; rw [if_pos hr]
    rw [hv]
    clear hv
    obtain ⟨tx, htx⟩ : ∃ z, text [c] = z := ⟨_, rfl⟩
    rw [htx]
    clear htx
    by_cases hn1 : n < 1
    · clear hr
      go_enter Tryz.func52, Tryz.ntmps52
      go_wp2_with (fail)
      go_ret
      exact ⟨rfl, Below.refl _ _⟩
    · have hn2 : 999999999999 < n := by omega
      clear hr
      go_enter Tryz.func52, Tryz.ntmps52
      go_wp2_with (fail)
      go_ret
      exact ⟨rfl, Below.refl _ _⟩
  · have hn1 : ¬ n < 1 := by omega
    have hn2 : ¬ 999999999999 < n := by omega
    have hv : nameW c n = c :: padD 12 n.toNat := by unfold nameW; rw [if_neg hr]
    have HV := Lib.hid hv
    obtain ⟨N, hN⟩ : ∃ N : Nat, n = (N : Int) := ⟨n.toNat, by omega⟩
    have HN := Lib.hid hN
    have HNB := Lib.hid (show N < 10 ^ 12 ∧ n.toNat = N from by
      have : (10 : Nat) ^ 12 = 1000000000000 := by decide
      constructor <;> omega)
    obtain ⟨tx, htx⟩ : ∃ z, text [c] = z := ⟨_, rfl⟩
    have HTX := Lib.hid htx
    rw [htx]
    clear htx hv hr hN
    go_enter Tryz.func52, Tryz.ntmps52
    go_wp2
    go_loopw [1, 5, 6] (fun u s i wr => ∃ (j k : Nat) (acc : List UInt8), j ≤ 12 ∧ u = .int .i64 (k : Int) ∧ s = .string ⟨acc.toArray⟩ ∧ i = .int .i64 (j : Int) ∧ (k < 10 ^ 12 ∧ acc.length = j ∧ padD (12 - j) k ++ acc = padD 12 N) ∧ Below w.heap.size w wr) (fun _ _ i _ => 12 - (intOf i).toNat)
    case atStart => exact ⟨0, N, [], by omega, by rw [HN.out], rfl, rfl, ⟨HNB.out.1, rfl, by simp⟩, Below.refl _ _⟩
    case round =>
      obtain ⟨j, k, acc, hj, rfl, rfl, rfl, hd, hB⟩ := hrel
      have HD := Lib.hid hd
      by_cases hj12 : j < 12
      · have hji : (j : Int) < 12 := by omega
        have hkl : (k : Int) < 1000000000000 := by
          have h1 := hd.1
          rw [show (10 : Nat) ^ 12 = 1000000000000 from by decide] at h1
          omega
        have hdv : Int.tdiv (k : Int) 10 = ((k / 10 : Nat) : Int) := by rw [Int.tdiv_eq_ediv_of_nonneg (by omega)]; omega
        have hmd : Int.tmod (k : Int) 10 = ((k % 10 : Nat) : Int) := by rw [Int.tmod_eq_emod_of_nonneg (by omega)]; omega
        have hlen : acc.length = j := hd.2.1
        obtain ⟨d, hdd⟩ : ∃ d : UInt8, UInt8.ofNat (48 + k % 10) = d := ⟨_, rfl⟩
        have hcv := conv_bys (P := Tryz.prog) (src := 34) (dst := 9) (e := 5) (wone_bys wr 5 (48 + (k : Int) % 10) d (by rw [← hdd]; simp; omega)) Tryz.underlying34 Tryz.underlying5 Tryz.underlying9
        obtain ⟨x, hx⟩ : ∃ x : ByteArray, text [d] = x := ⟨_, rfl⟩
        obtain ⟨y, hy⟩ : ∃ x : ByteArray, (⟨acc.toArray⟩ : ByteArray) = x := ⟨_, rfl⟩
        have hxy : x ++ y = ⟨([d] ++ acc).toArray⟩ := by rw [← hx, ← hy]; exact wstr_append [d] acc
        have hadd : ∀ W, (Op.stringOp .add x y).run Tryz.prog W = .ok (.string (x ++ y)) W := fun W => run_string_add_sum W x y (by
          subst hx hy
          show ([d] : List UInt8).toArray.size + acc.toArray.size ≤ _
          simp; omega)
        rw [hx] at hcv
        rw [hy]
        have HX := Lib.hid hxy
        have HB2 := Lib.hid (hB.alloc hB.size (.cells #[.int .u8 (48 + (k : Int) % 10)] 5))
        have hbd : 0 ≤ (k : Int) % 10 ∧ (k : Int) % 10 < 10 := by omega
        have HC := Lib.hid hdd
        have HJ := Lib.hid hj12
        have HKL := Lib.hid hkl
        clear hx hy hxy hdd hB hd hlen hj12
        go_wp2
        go_roundw
        case rel => exact ⟨j + 1, k / 10, [d] ++ acc, HJ.out, rfl, by rw [HX.out], by go_num, ⟨Nat.lt_of_le_of_lt (Nat.div_le_self _ _) HD.out.1, by have := HD.out.2.1; simp; omega, by have := padD_step j k acc _ HJ.out HD.out.2.2; rwa [HC.out] at this⟩, HB2.out⟩
        case measure => simp [intOf]; have := HJ.out; omega
      · obtain rfl : j = 12 := by omega
        have hacc : acc = padD 12 N := by have := hd.2.2; simpa [padD] using this
        have hal : acc.length = 12 := hd.2.1
        obtain ⟨y, hy⟩ : ∃ x : ByteArray, (⟨acc.toArray⟩ : ByteArray) = x := ⟨_, rfl⟩
        have hxy : tx ++ y = text (nameW c n) := by rw [← hy, ← HTX.out, HV.out, HNB.out.2, ← hacc]; exact wstr_append [c] acc
        have hadd : ∀ W, (Op.stringOp .add tx y).run Tryz.prog W = .ok (.string (tx ++ y)) W := fun W => run_string_add_sum W tx y (by
          rw [← HTX.out, ← hy]
          show ([c] : List UInt8).toArray.size + acc.toArray.size ≤ _
          simp; omega)
        rw [hy]
        have HX := Lib.hid hxy
        have HB := Lib.hid hB
        clear hacc hal hy hxy hd hB
        go_wp2
        go_ret
        exact ⟨by rw [← HX.out]; rfl, HB.out⟩
end Go.Proofs.YtpejojagghfjgaaGreatDoor
end

section
namespace Go.Proofs.YtpejojagghfjgaaGreatDoor
open Go.RowKit Go Go.Sort
set_option linter.unusedVariables false
set_option maxRecDepth 20000

theorem wtext_at (s : List UInt8) (k : Nat) (hk : k < s.length) (W : World) : (Instr.index 9 (.string (text s)) (.int .i64 (k : Int))).run Tryz.prog W = .ok (.int .u8 ((s.getD k 0).toNat : Int)) W := by
  have hs : (text s).size = s.length := by unfold text; simp [ByteArray.size]
  rw [run_index_string (P := Tryz.prog) W 9 (text s) .i64 (k : Int) Tryz.underlying9, dif_pos (by rw [hs]; omega)]
  have e : (text s)[(k : Int).toNat]'(by rw [hs]; omega) = s.getD k 0 := by
    simp only [Int.toNat_natCast]
    rw [List.getD_eq_getElem?_getD, List.getElem?_eq_getElem hk]
    unfold text
    simp [ByteArray.getElem_eq_getElem_data]
  rw [e]
theorem wslice_head (s : List UInt8) (k : Nat) (h : k ≤ s.length) (W : World) : (Instr.slice 9 (.string (text s)) none (some (.int .i64 (k : Int))) none).run Tryz.prog W = .ok (.string (text (s.take k))) W := by
  rw [run_slice_string_h W 9 (text s) Tryz.underlying9 .i64 k (by omega) (by rw [wtext_size]; omega)]
  congr 2
  unfold text
  ext1
  simp
attribute [-go_sem] run_index_string run_slice_string_h run_slice_string_l run_slice_string_from_if run_slice_string_to_if
set_option maxHeartbeats 3200000 in
theorem rread_c (c : UInt8) (l : List UInt8) (hl : l.length ≤ 9223372036854775807) (w : World) : Calls Tryz.prog 55 #[.string (text [c]), .string (text l)] w (fun e w' => e = .returned (.int .i64 (readW c l)) ∧ w = w') := by
  by_cases h13 : l.length = 13
  · obtain ⟨a, d, rfl⟩ : ∃ a d, l = a :: d := by
      cases l with
      | nil => simp at h13
      | cons a d => exact ⟨a, d, rfl⟩
    have hd : d.length = 12 := by simpa using h13
    have hsz : ((text (a :: d)).size : Int) = 13 := by rw [wtext_size, h13]; rfl
    have hsl : (Instr.slice 9 (.string (text (a :: d))) none (some (.int .i64 1)) none).run Tryz.prog w = .ok (.string (text [a])) w := wslice_head (a :: d) 1 (by simp) w
    have HAT := Lib.hid (fun k (hk : k < (a :: d).length) => wtext_at (a :: d) k hk w)
    obtain ⟨R, hR⟩ : ∃ R, readW c (a :: d) = R := ⟨_, rfl⟩
    have HR := Lib.hid hR
    rw [hR]
    clear hR
    obtain ⟨tx, htx⟩ : ∃ z, text (a :: d) = z := ⟨_, rfl⟩
    rw [htx] at hsz hsl HAT ⊢
    clear htx
    by_cases hac : a = c
    · subst hac
      obtain ⟨tc, htc⟩ : ∃ z, text [a] = z := ⟨_, rfl⟩
      rw [htc] at hsl ⊢
      clear htc
      have HRD := Lib.hid (show R = (match Lib.decFrom 0 d with | some n => (n : Int) | none => 0) from by rw [← HR.out]; unfold readW; rw [if_pos ⟨h13, rfl⟩]; rfl)
      have HDL := Lib.hid hd
      have H13 := Lib.hid h13
      clear hd h13 hl
      go_enter Tryz.func55, Tryz.ntmps55
      go_wp2
      go_loopw [5, 6] (fun u i wr => ∃ (p k : Nat), p ≤ 12 ∧ u = .int .i64 (k : Int) ∧ i = .int .i64 ((p + 1 : Nat) : Int) ∧ Lib.decFrom 0 (d.take p) = some k ∧ w = wr) (fun _ i _ => 13 - (intOf i).toNat)
      case atStart => exact ⟨0, 0, by omega, rfl, rfl, rfl, rfl⟩
      case round =>
        obtain ⟨p, k, hp, rfl, rfl, hk, rfl⟩ := hrel
        have HK := Lib.hid hk
        by_cases hlt : p < 12
        · have hkb : (k : Int) < 1000000000000 := by
            have h1 := Lib.decFrom_lt _ _ _ hk
            have h2 : (10 : Nat) ^ (d.take p).length ≤ 10 ^ 12 := Nat.pow_le_pow_right (by omega) (by simp; omega)
            have h3 : (10 : Nat) ^ 12 = 1000000000000 := by decide
            omega
          have hii : ((p + 1 : Nat) : Int) < 13 := by omega
          have c1 := HAT.out (p + 1) (by simp [HDL.out]; omega)
          rw [List.getD_cons_succ] at c1
          have hget : d[p]? = some (d.getD p 0) := by rw [List.getD_eq_getElem?_getD, List.getElem?_eq_getElem (by rw [HDL.out]; exact hlt)]; rfl
          have HNO := Lib.hid (show Lib.digitVal (d.getD p 0) = none → R = 0 from fun h => by
            rw [HRD.out]
            cases h1 : Lib.decFrom 0 d with
            | none => rfl
            | some z =>
              obtain ⟨x, hx⟩ := Lib.digit_of_decFrom d 0 z h1 p _ hget
              rw [h] at hx; cases hx)
          have HYE := Lib.hid (fun x (hx : Lib.digitVal (d.getD p 0) = some x) => Lib.decFrom_take d p 0 k _ x HK.out hget hx)
          have HDV := Lib.hid (show ∀ b : UInt8, Lib.digitVal b = if 48 ≤ b.toNat ∧ b.toNat ≤ 57 then some (b.toNat - 48) else none from fun b => rfl)
          have HX := Lib.hid (HDV.out (d.getD p 0))
          have hb256 : (d.getD p 0).toNat < 256 := (d.getD p 0).toNat_lt
          obtain ⟨b, hb⟩ : ∃ z, (d.getD p 0).toNat = z := ⟨_, rfl⟩
          rw [hb] at c1 HX hb256
          obtain ⟨q, hq⟩ : ∃ q : Nat, p + 1 = q := ⟨_, rfl⟩
          have HQ := Lib.hid hq
          have HLT := Lib.hid hlt
          rw [hq] at hii c1 ⊢
          have hqn : (1 : Int) ≤ (q : Int) := by omega
          clear hget hb hq hlt hk hp HDV
          have hcase : b < 48 ∨ 57 < b ∨ (48 ≤ b ∧ b ≤ 57) := by omega
          rcases hcase with h | h | h
          · have g1 : (b : Int) < 48 := by omega
            have HZ := Lib.hid (HNO.out (by rw [HX.out, if_neg (by omega)]))
            clear h
            go_wp2
            go_ret
            exact ⟨by rw [HZ.out]; rfl, rfl⟩
          · have g1 : ¬ (b : Int) < 48 := by omega
            have g2 : (57 : Int) < (b : Int) := by omega
            have HZ := Lib.hid (HNO.out (by rw [HX.out, if_neg (by omega)]))
            clear h
            go_wp2
            go_ret
            exact ⟨by rw [HZ.out]; rfl, rfl⟩
          · have g1 : ¬ (b : Int) < 48 := by omega
            have g2 : ¬ (57 : Int) < (b : Int) := by omega
            have HY := Lib.hid (HYE.out (b - 48) (by rw [HX.out, if_pos (by omega)]))
            have HB := Lib.hid h
            clear h
            go_wp2
            go_roundw
            case rel => exact ⟨q, k * 10 + (b - 48), by have := HQ.out; have := HLT.out; omega, by have := HB.out; go_num, by go_num, by have := HY.out; rwa [HQ.out] at this, by first | rfl | trivial⟩
            case measure => simp [intOf]; have := HQ.out; have := HLT.out; omega
        · obtain rfl : p = 12 := by omega
          have HZ := Lib.hid (show R = (k : Int) from by
            rw [HRD.out]
            have h9 := HK.out
            rw [List.take_of_length_le (by rw [HDL.out]; exact Nat.le_refl _)] at h9
            rw [h9])
          clear hk
          go_wp2
          go_ret
          exact ⟨by rw [HZ.out]; rfl, rfl⟩
    · have hnb : ((text [a]).toList == (text [c]).toList) = false := by
        rw [ByteArray.toList_eq, ByteArray.toList_eq, beq_eq_false_iff_ne]
        simpa [text] using hac
      have HZ := Lib.hid (show R = 0 from by rw [← HR.out]; unfold readW; rw [if_neg (by simp [hac])])
      obtain ⟨ta, hta⟩ : ∃ z, text [a] = z := ⟨_, rfl⟩
      obtain ⟨tc, htc⟩ : ∃ z, text [c] = z := ⟨_, rfl⟩
      rw [hta] at hsl hnb
      rw [htc] at hnb ⊢
      clear hta htc hac hd h13 hl
      go_enter Tryz.func55, Tryz.ntmps55
      go_wp2_with (fail)
      go_ret
      exact ⟨by rw [HZ.out]; rfl, rfl⟩
  · have hv : readW c l = 0 := by unfold readW; rw [if_neg (by simp [h13])]
    rw [hv]
    have hsz : ((text l).size : Int) = (l.length : Int) := by rw [wtext_size]
    obtain ⟨tx, htx⟩ : ∃ z, text l = z := ⟨_, rfl⟩
    obtain ⟨tc, htc⟩ : ∃ z, text [c] = z := ⟨_, rfl⟩
    obtain ⟨n, hn⟩ : ∃ z, l.length = z := ⟨_, rfl⟩
    rw [htx, hn] at hsz
    rw [htx, htc]
    rw [hn] at h13 hl
    have hne : ¬ (n : Int) = 13 := by omega
    have hnb : ((n : Int) == 13) = false := by rw [beq_eq_false_iff_ne]; exact hne
    clear hv htx htc hn h13
    go_enter Tryz.func55, Tryz.ntmps55
    go_wp2_with (fail)
    go_ret
    exact ⟨rfl, rfl⟩
theorem rname_cW (n : Int) (w : World) : Calls Tryz.prog 17 #[.int .i64 n] w (Tells (.string (text (nameW 119 n))) w) := by
  have HN := Lib.hid (rnumbered_c 119 n w)
  rw [show text [119] = ⟨#[119]⟩ from rfl] at HN
  go_enter Tryz.func17, Tryz.ntmps17
  go_wp2_with (go_at_call 52; (with_reducible refine HN.out.mono ?_); rintro e1 w1 ⟨rfl, hb1⟩)
  go_ret
  exact ⟨rfl, hb1⟩
theorem rnumber_cW (l : List UInt8) (hl : l.length ≤ 9223372036854775807) (w : World) : Calls Tryz.prog 19 #[.string (text l)] w (fun e w' => e = .returned (.int .i64 (readW 119 l)) ∧ w = w') := by
  have HN := Lib.hid (rread_c 119 l hl w)
  rw [show text [119] = ⟨#[119]⟩ from rfl] at HN
  obtain ⟨tx, htx⟩ : ∃ z, text l = z := ⟨_, rfl⟩
  rw [htx] at HN ⊢
  clear htx
  go_enter Tryz.func19, Tryz.ntmps19
  go_wp2_with (go_at_call 55; (with_reducible refine HN.out.mono ?_); rintro e1 w1 ⟨rfl, rfl⟩)
  go_ret
  exact ⟨rfl, rfl⟩
end Go.Proofs.YtpejojagghfjgaaGreatDoor
end

section
namespace Go.Proofs.YtpejojagghfjgaaGreatDoor
open Go.RowKit Go Go.Sort Go.Maps Go.WideMaps
set_option linter.unusedVariables false
set_option maxRecDepth 20000

theorem dread_nil (w : World) (s : ByteArray) : Calls Tryz.prog 38 #[.pointer none, .string s] w (fun e w' => e = .returned (.tuple #[.slice none 0 0, .int .i64 1]) ∧ Below w.heap.size w w') := by
  have hb := Below.refl w.heap.size w
  have HB := Lib.hid hb
  clear hb
  go_enter Tryz.func38, Tryz.ntmps38
  go_wp2_with (go_at_call 80; (with_reducible refine (dfind_nil _ _).mono ?_); rintro e9 w9 ⟨rfl, rfl⟩)
  go_ret2
  first
    | exact ⟨rfl, HB.out⟩
    | exact ⟨rfl, HB.out.trans ((alloc_below _ _).mono HB.out.size)⟩
theorem dread_un {w : World} {q : Nat} (h : UnD w q) (s : ByteArray) : Calls Tryz.prog 38 #[.pointer (some ⟨q, 0, none⟩), .string s] w (fun e w' => e = .returned (.tuple #[.slice none 0 0, .int .i64 1]) ∧ Below w.heap.size w w') := by
  have hb := Below.refl w.heap.size w
  have HU := Lib.hid (show UnD (w) q from (hb.block q (Array.getElem?_eq_some_iff.1 h).1).trans h)
  clear h
  have HB := Lib.hid hb
  clear hb
  go_enter Tryz.func38, Tryz.ntmps38
  go_wp2_with (go_at_call 80; (with_reducible refine (dfind_un HU.out _).mono ?_); rintro e9 w9 ⟨rfl, rfl⟩)
  go_ret2
  first
    | exact ⟨rfl, HB.out⟩
    | exact ⟨rfl, HB.out.trans ((alloc_below _ _).mono HB.out.size)⟩
end Go.Proofs.YtpejojagghfjgaaGreatDoor
end

section
namespace Go.Proofs.YtpejojagghfjgaaGreatDoor
open Go.RowKit Go Go.Sort Go.Maps Go.WideMaps
set_option linter.unusedVariables false
set_option maxRecDepth 20000

theorem lholds_c {w : World} {p q : Nat} {bv : Value} {g : Lg} (h : LogIn w p q bv g) (hne : 0 < g.B.length) : Calls Tryz.prog 66 #[.pointer (some ⟨p, 0, none⟩)] w (Tells (.bool (decide (g.B.getD (g.B.length - 1) 0 < g.next))) w) := by
  obtain ⟨a, cap, rfl, hle, hmax, hp⟩ := h.place
  obtain ⟨b, o, rfl, hc⟩ := hp (g.B.length - 1) (by omega)
  have ci := hc w (Below.refl _ _)
  obtain ⟨c0, c1, c2, c3, c4, c5, c6⟩ := h.cs
  obtain ⟨z, hz⟩ : ∃ z, g.B.getD (g.B.length - 1) 0 = z := ⟨_, rfl⟩
  rw [hz] at ci ⊢
  obtain ⟨j, hj⟩ : ∃ j, g.B.length - 1 = j := ⟨_, rfl⟩
  obtain ⟨m, hm⟩ : ∃ m, g.B.length = m := ⟨_, rfl⟩
  rw [hj] at ci
  rw [hm] at hj hne hle c2
  have hmj : (m : Int) - 1 = (j : Int) := by omega
  have hjm : (j : Int) < (m : Int) := by omega
  have hj0 : (0 : Int) ≤ (j : Int) := by omega
  have hjx : (j : Int) ≤ 9223372036854775807 := by omega
  have k2 := cell_regrown c2
  have k4 := cell_regrown c4
  have ki := cell_regrown ci
  clear c0 c1 c2 c3 c4 c5 c6 h hp hc ci hz hj hm hle hmax hne
  go_enter Tryz.func66, Tryz.ntmps66
  go_wp2
  refine wp_region_quiet_below (by kernel_rfl) (by kernel_rfl) ?_
  repeat (go_big_quiet_step (fail))
  refine wpQuiet_nil ?_
  intro _ hw'
  obtain ⟨⟨dq, osq⟩, hw''⟩ := hw'
  subst hw''
  have HB8 := Lib.hid (below_regrown w dq osq)
  go_wp2
  go_ret
  exact ⟨by first | rfl | simp, HB8.out⟩
theorem llast_c {w : World} {p q : Nat} {bv : Value} {g : Lg} (h : LogIn w p q bv g) (hne : 0 < g.B.length) (hT : TabI w) (h0 : -9223372036854775808 ≤ g.B.getD (g.B.length - 1) 0) (h1 : g.B.getD (g.B.length - 1) 0 ≤ 9223372036854775807) :
    Calls Tryz.prog 112 #[.pointer (some ⟨p, 0, none⟩)] w (Tells (.string (text (nameW 119 (g.B.getD (g.B.length - 1) 0)))) w) := by
  obtain ⟨a, cap, rfl, hle, hmax, hp⟩ := h.place
  obtain ⟨b, o, rfl, hc⟩ := hp (g.B.length - 1) (by omega)
  have ci := hc w (Below.refl _ _)
  obtain ⟨c0, c1, c2, c3, c4, c5, c6⟩ := h.cs
  obtain ⟨z, hz⟩ : ∃ z, g.B.getD (g.B.length - 1) 0 = z := ⟨_, rfl⟩
  rw [hz] at ci h0 h1 ⊢
  obtain ⟨j, hj⟩ : ∃ j, g.B.length - 1 = j := ⟨_, rfl⟩
  obtain ⟨m, hm⟩ : ∃ m, g.B.length = m := ⟨_, rfl⟩
  rw [hj] at ci
  rw [hm] at hj hne hle c2
  have hmj : (m : Int) - 1 = (j : Int) := by omega
  have hjm : (j : Int) < (m : Int) := by omega
  have hj0 : (0 : Int) ≤ (j : Int) := by omega
  have hjx : (j : Int) ≤ 9223372036854775807 := by omega
  have HN1 := Lib.hid (fun (d : Nat) (os : Array Obj) => (wname_c z h0 h1 (hT.grown (below_regrown w d os))).regrown_of)
  have k2 := cell_regrown c2
  have ki := cell_regrown ci
  clear c0 c1 c2 c3 c4 c5 c6 h hp hc ci hz hj hm hle hmax hne h0 h1 hT
  go_enter Tryz.func112, Tryz.ntmps112
  go_wp2
  refine wp_region_quiet_below (by kernel_rfl) (by kernel_rfl) ?_
  repeat (go_big_quiet_step (with_reducible exact HN1.out _ _))
  refine wpQuiet_nil ?_
  intro _ hw'
  obtain ⟨⟨dq, osq⟩, hw''⟩ := hw'
  subst hw''
  have HB8 := Lib.hid (below_regrown w dq osq)
  go_wp2
  go_ret
  exact ⟨rfl, HB8.out⟩
/-- A disk that no call made opens no log. -/
theorem lopen_nil (n : Int) (w : World) : Calls Tryz.prog 21 #[.pointer none, .int .i64 n] w (Tells (.tuple #[.pointer none, .slice none 0 0, .int .i64 1]) w) := by
  have HR := Lib.hid (dread_nil w ⟨#[]⟩)
  go_enter Tryz.func21, Tryz.ntmps21
  go_wp2_with (go_at_call 38; (with_reducible refine HR.out.mono ?_); rintro e1 w1 ⟨rfl, hb1⟩; have HB1 := Lib.hid hb1; clear hb1)
  go_ret3
  exact ⟨rfl, HB1.out⟩
theorem lopen_un {w : World} {q : Nat} (h : UnD w q) (n : Int) : Calls Tryz.prog 21 #[.pointer (some ⟨q, 0, none⟩), .int .i64 n] w (Tells (.tuple #[.pointer none, .slice none 0 0, .int .i64 1]) w) := by
  have HR := Lib.hid (dread_un h ⟨#[]⟩)
  clear h
  go_enter Tryz.func21, Tryz.ntmps21
  go_wp2_with (go_at_call 38; (with_reducible refine HR.out.mono ?_); rintro e1 w1 ⟨rfl, hb1⟩; have HB1 := Lib.hid hb1; clear hb1)
  go_ret3
  exact ⟨rfl, HB1.out⟩
end Go.Proofs.YtpejojagghfjgaaGreatDoor
end

section
namespace Go.Proofs.YtpejojagghfjgaaGreatDoor
open Go.RowKit Go Go.Sort Go.Maps Go.WideMaps
set_option linter.unusedVariables false
set_option maxRecDepth 20000

set_option maxRecDepth 100000 in
set_option maxHeartbeats 6400000 in
theorem wnobody_rest (hlv : ∀ W, TabE W → Calls Tryz.prog 12 #[] W (Tells (.bool true) W)) {w : World} (hT : TabE w) (n : Int) (x : Option Addr) (m cap : Nat) :
    Calls Tryz.prog 8 #[.slice x m cap, .int .i64 n] w (Tells (.bool true) w) := by
  have HT := Lib.hid hT
  have HLV := Lib.hid hlv
  clear hT hlv
  go_enter Tryz.func8, Tryz.ntmps8
  have hb1 := (alloc_below w (.cells #[.pointer none, .int .i64 0, .slice none 0 0, .int .i64 0, .int .i64 0, .int .i64 0, .int .i64 0] 70)).alloc (by simp) (.cells #[.pointer none, .pointer (some ⟨w.heap.size, 0, none⟩)] 28)
  have e1 := heapB (heap_alloc_new w (.cells #[.pointer none, .int .i64 0, .slice none 0 0, .int .i64 0, .int .i64 0, .int .i64 0, .int .i64 0] 70)) (alloc_below _ (.cells #[.pointer none, .pointer (some ⟨w.heap.size, 0, none⟩)] 28))
  have e2 := heap_alloc_new (w.alloc (.cells #[.pointer none, .int .i64 0, .slice none 0 0, .int .i64 0, .int .i64 0, .int .i64 0, .int .i64 0] 70)) (.cells #[.pointer none, .pointer (some ⟨w.heap.size, 0, none⟩)] 28)
  simp only [World.size_alloc] at e1 e2
  go_upto_region 2 with (fail)
  obtain ⟨B, hB1⟩ : ∃ q, w.heap.size = q := ⟨_, rfl⟩
  rw [hB1] at e1 e2 hb1 ⊢
  have HBe1 := Lib.hid hB1
  obtain ⟨W1, hW1⟩ : ∃ X, (w.alloc (.cells #[.pointer none, .int .i64 0, .slice none 0 0, .int .i64 0, .int .i64 0, .int .i64 0, .int .i64 0] 70)).alloc (.cells #[.pointer none, .pointer (some ⟨B, 0, none⟩)] 28) = X := ⟨_, rfl⟩
  rw [hW1] at e1 e2 hb1 ⊢
  have HB1 := Lib.hid hb1
  have HE1 := Lib.hid (fun W (h : Below W1.heap.size W1 W) => (show UnL W B from heapB e1 h))
  have HF1 := Lib.hid (fun W (h : Below W1.heap.size W1 W) => heapB e2 h)
  clear e1 e2 hb1 hW1 hB1
  go_loopw [18] (fun j wr => ∃ i : Nat, i ≤ 2 ∧ j = .int .i64 (i : Int) ∧ Below W1.heap.size W1 wr) (fun j _ => 2 - (intOf j).toNat)
  case atStart => exact ⟨0, by omega, rfl, Below.refl _ _⟩
  case round =>
    obtain ⟨i, hi, rfl, hb⟩ := hrel
    have hs := HF1.out wr hb
    rcases (by omega : i = 0 ∨ i = 1 ∨ i = 2) with rfl | rfl | rfl
    · have p0 : wr.cell? ⟨B + 1, 0, none⟩ = some (.pointer none) := by rw [cell_of_row _ (B + 1) 0 _ _ (0, 0) hs]; rfl
      have HB := Lib.hid hb
      clear hs hb
      go_wp2_with (first
        | (go_at_call 24; (with_reducible refine (lappend_un (lmade_nil _) _).mono ?_); rintro e2 w2 ⟨rfl, hb2⟩; have HB := Lib.hid (HB.out.trans (hb2.mono HB.out.size)); clear hb2)
        | (go_at_call 25; (with_reducible refine (lsync_un (lmade_nil _)).mono ?_); rintro e3 w3 ⟨rfl, hb3⟩; have HB := Lib.hid (HB.out.trans (hb3.mono HB.out.size)); clear hb3)
        | (go_at_call 32; (with_reducible refine (lretire_un (lmade_nil _) _).mono ?_); rintro e4 w4 ⟨rfl, hb4⟩; have HB := Lib.hid (HB.out.trans (hb4.mono HB.out.size)); clear hb4)
        | (go_at_call 33; (with_reducible refine (lfirst_un (lmade_nil _)).mono ?_); rintro e5 w5 ⟨rfl, hb5⟩; have HB := Lib.hid (HB.out.trans (hb5.mono HB.out.size)); clear hb5)
        | (go_at_call 30; (with_reducible refine (lnext_un (lmade_nil _)).mono ?_); rintro e6 w6 ⟨rfl, hb6⟩; have HB := Lib.hid (HB.out.trans (hb6.mono HB.out.size)); clear hb6)
        | (go_at_call 26; (with_reducible refine (lsure_un (lmade_nil _)).mono ?_); rintro e7 w7 ⟨rfl, hb7⟩; have HB := Lib.hid (HB.out.trans (hb7.mono HB.out.size)); clear hb7)
        | (go_at_call 23; (with_reducible refine (lon_un (fun d os => lmade_nil _)).mono ?_); rintro e8 w8 ⟨rfl, hb8⟩; have HB := Lib.hid (HB.out.trans (hb8.mono HB.out.size)); clear hb8))
      go_roundw
      case rel => exact ⟨1, by omega, by go_num, HB.out⟩
      case measure => simp [intOf]
    · have p0 : wr.cell? ⟨B + 1, 1, none⟩ = some (.pointer (some ⟨B, 0, none⟩)) := by rw [cell_of_row _ (B + 1) 1 _ _ (0, 0) hs]; rfl
      have HB := Lib.hid hb
      clear hs hb
      go_wp2_with (first
        | (go_at_call 24; (with_reducible refine (lappend_un (lmade_un (HE1.out _ HB.out)) _).mono ?_); rintro e2 w2 ⟨rfl, hb2⟩; have HB := Lib.hid (HB.out.trans (hb2.mono HB.out.size)); clear hb2)
        | (go_at_call 25; (with_reducible refine (lsync_un (lmade_un (HE1.out _ HB.out))).mono ?_); rintro e3 w3 ⟨rfl, hb3⟩; have HB := Lib.hid (HB.out.trans (hb3.mono HB.out.size)); clear hb3)
        | (go_at_call 32; (with_reducible refine (lretire_un (lmade_un (HE1.out _ HB.out)) _).mono ?_); rintro e4 w4 ⟨rfl, hb4⟩; have HB := Lib.hid (HB.out.trans (hb4.mono HB.out.size)); clear hb4)
        | (go_at_call 33; (with_reducible refine (lfirst_un (lmade_un (HE1.out _ HB.out))).mono ?_); rintro e5 w5 ⟨rfl, hb5⟩; have HB := Lib.hid (HB.out.trans (hb5.mono HB.out.size)); clear hb5)
        | (go_at_call 30; (with_reducible refine (lnext_un (lmade_un (HE1.out _ HB.out))).mono ?_); rintro e6 w6 ⟨rfl, hb6⟩; have HB := Lib.hid (HB.out.trans (hb6.mono HB.out.size)); clear hb6)
        | (go_at_call 26; (with_reducible refine (lsure_un (lmade_un (HE1.out _ HB.out))).mono ?_); rintro e7 w7 ⟨rfl, hb7⟩; have HB := Lib.hid (HB.out.trans (hb7.mono HB.out.size)); clear hb7)
        | (go_at_call 23; (with_reducible refine (lon_un (fun d os => lmade_un ((HE1.out _ HB.out).below (below_regrown _ d os)))).mono ?_); rintro e8 w8 ⟨rfl, hb8⟩; have HB := Lib.hid (HB.out.trans (hb8.mono HB.out.size)); clear hb8))
      go_roundw
      case rel => exact ⟨2, by omega, by go_num, HB.out⟩
      case measure => simp [intOf]
    · have HB := Lib.hid (HB1.out.trans (hb.mono (by have h8 := HBe1.out; have h9 := HB1.out.size; omega)))
      clear hs hb
      rw [show ((2 : Nat) : Int) = 2 from rfl]
      have hb2 := (alloc_below wr (.cells #[.map none, .int .i64 0, .bool false, .int .i64 0, .int .i64 0, .pointer none] 75)).alloc (by simp) (.cells #[.pointer none, .pointer (some ⟨wr.heap.size, 0, none⟩)] 24)
      have e1 := heapB (heap_alloc_new wr (.cells #[.map none, .int .i64 0, .bool false, .int .i64 0, .int .i64 0, .pointer none] 75)) (alloc_below _ (.cells #[.pointer none, .pointer (some ⟨wr.heap.size, 0, none⟩)] 24))
      have e2 := heap_alloc_new (wr.alloc (.cells #[.map none, .int .i64 0, .bool false, .int .i64 0, .int .i64 0, .pointer none] 75)) (.cells #[.pointer none, .pointer (some ⟨wr.heap.size, 0, none⟩)] 24)
      simp only [World.size_alloc] at e1 e2
      go_upto_region 9 with (fail)
      obtain ⟨C, hB2⟩ : ∃ q, wr.heap.size = q := ⟨_, rfl⟩
      rw [hB2] at e1 e2 hb2 ⊢
      have HBe2 := Lib.hid hB2
      obtain ⟨W2, hW2⟩ : ∃ X, (wr.alloc (.cells #[.map none, .int .i64 0, .bool false, .int .i64 0, .int .i64 0, .pointer none] 75)).alloc (.cells #[.pointer none, .pointer (some ⟨C, 0, none⟩)] 24) = X := ⟨_, rfl⟩
      rw [hW2] at e1 e2 hb2 ⊢
      have HB2 := Lib.hid hb2
      have HE2 := Lib.hid (fun W (h : Below W2.heap.size W2 W) => (show UnD W C from heapB e1 h))
      have HF2 := Lib.hid (fun W (h : Below W2.heap.size W2 W) => heapB e2 h)
      clear e1 e2 hb2 hW2 hB2
      go_loopw [65] (fun j wz => ∃ i : Nat, i ≤ 2 ∧ j = .int .i64 (i : Int) ∧ Below W2.heap.size W2 wz) (fun j _ => 2 - (intOf j).toNat)
      case atStart => exact ⟨0, by omega, rfl, Below.refl _ _⟩
      case round =>
        obtain ⟨i, hi, rfl, hb⟩ := hrel
        have hs := HF2.out _ hb
        rcases (by omega : i = 0 ∨ i = 1 ∨ i = 2) with rfl | rfl | rfl
        · have p0 := cell_of_row _ (C + 1) 0 _ _ (0, 0) hs
          rw [show (#[Value.pointer none, .pointer (some ⟨C, 0, none⟩)] : Array Value)[0]? = some (.pointer none) from rfl] at p0
          have HC := Lib.hid hb
          clear hs hb
          go_wp2_with (go_at_call 21; (with_reducible refine (lopen_nil _ _).mono ?_); rintro e2 w2 ⟨rfl, hb2⟩; have HC := Lib.hid (HC.out.trans (hb2.mono HC.out.size)); clear hb2)
          go_roundw
          case rel => exact ⟨1, by omega, by go_num, HC.out⟩
          case measure => simp [intOf]
        · have p0 := cell_of_row _ (C + 1) 1 _ _ (0, 0) hs
          rw [show (#[Value.pointer none, .pointer (some ⟨C, 0, none⟩)] : Array Value)[1]? = some (.pointer (some ⟨C, 0, none⟩)) from rfl] at p0
          have HC := Lib.hid hb
          clear hs hb
          go_wp2_with (go_at_call 21; (with_reducible refine (lopen_un (HE2.out _ HC.out) _).mono ?_); rintro e2 w2 ⟨rfl, hb2⟩; have HC := Lib.hid (HC.out.trans (hb2.mono HC.out.size)); clear hb2)
          go_roundw
          case rel => exact ⟨2, by omega, by go_num, HC.out⟩
          case measure => simp [intOf]
        · have HC := Lib.hid (HB2.out.trans (hb.mono (by have h8 := HBe2.out; have h9 := HB2.out.size; omega)))
          clear hs hb
          have HZ := Lib.hid (HB.out.trans (HC.out.mono (by have h8 := HBe1.out; have h9 := HBe2.out; have h10 := HB.out.size; omega)))
          have HLL := Lib.hid (HLV.out _ (HT.out.grown (by rw [HBe1.out]; exact HZ.out)))
          go_wp2_with (go_at_call 12; (with_reducible refine HLL.out.mono ?_); rintro e8 w8 ⟨rfl, hb8⟩)
          go_ret
          exact ⟨rfl, by rw [HBe1.out]; exact HZ.out.trans (hb8.mono (by have h8 := HBe1.out; have h9 := HZ.out.size; omega))⟩
end Go.Proofs.YtpejojagghfjgaaGreatDoor
end

section
namespace Go.Proofs.YtpejojagghfjgaaGreatDoor
open Go.RowKit Go Go.Sort Go.Maps Go.WideMaps
set_option linter.unusedVariables false
set_option maxRecDepth 20000

def Lk (W : World) (p q : Nat) (g : Lg) (G : Nat → Prop) : Prop := ∃ bv, LogIn W p q bv g ∧ G = lgfoot p bv
theorem Lk.keep {W W' : World} {p q : Nat} {g : Lg} {G : Nat → Prop} (h : Lk W p q g G) (hk : ∀ k, G k → W'.heap[k]? = W.heap[k]?) : Lk W' p q g G := by
  obtain ⟨bv, h1, rfl⟩ := h; exact ⟨bv, h1.keep hk, rfl⟩
theorem Lk.lt {W : World} {p q : Nat} {g : Lg} {G : Nat → Prop} (h : Lk W p q g G) {k : Nat} (hk : G k) : k < W.heap.size := by
  obtain ⟨bv, h1, rfl⟩ := h; exact h1.lt hk
theorem Lk.below {W W' : World} {p q : Nat} {g : Lg} {G : Nat → Prop} (h : Lk W p q g G) (hb : Below W.heap.size W W') : Lk W' p q g G := h.keep fun k hk => hb.block k (h.lt hk)
theorem wdk_keep {W W' : World} {q : Nat} {st : Ds} {F : Nat → Prop} (h : Dk W q st F) (hk : ∀ k, F k → W'.heap[k]? = W.heap[k]?) : Dk W' q st F := by
  obtain ⟨m, pv, FS, h1, rfl⟩ := h; exact ⟨m, pv, FS, h1.keep hk, rfl⟩
theorem wdk_lt {W : World} {q : Nat} {st : Ds} {F : Nat → Prop} (h : Dk W q st F) {k : Nat} (hk : F k) : k < W.heap.size := by
  obtain ⟨m, pv, FS, h1, rfl⟩ := h; exact h1.lt hk
/-- The disk and a log on it, apart, since w1. -/
structure Lw (w1 : World) (F0 G0 : Nat → Prop) (q p : Nat) (st : Ds) (g : Lg) (W : World) : Prop where
  ex : ∃ F G, Dk W q st F ∧ Lk W p q g G ∧ (∀ k, F k → ¬ G k) ∧ (∀ k, F k → F0 k ∨ w1.heap.size ≤ k) ∧ (∀ k, G k → G0 k ∨ w1.heap.size ≤ k)
  tr : Trn (fun k => F0 k ∨ G0 k) w1 W
theorem Lw.start {W : World} {F G : Nat → Prop} {q p : Nat} {st : Ds} {g : Lg} (hd : Dk W q st F) (hr : Lk W p q g G) (hn : ∀ k, F k → ¬ G k) : Lw W F G q p st g W :=
  ⟨⟨F, G, hd, hr, hn, fun k hk => .inl hk, fun k hk => .inl hk⟩, Trn.refl⟩
/-- What a call of the disk leaves. -/
theorem Lw.disk {w1 W W' : World} {F0 G0 F : Nat → Prop} {q p : Nat} {st' : Ds} {g : Lg} {G : Nat → Prop} {v : Value} {e : Ending} (hr : Lk W p q g G) (hn : ∀ k, F k → ¬ G k) (hF : ∀ k, F k → F0 k ∨ w1.heap.size ≤ k) (hG : ∀ k, G k → G0 k ∨ w1.heap.size ≤ k) (ht : Trn (fun k => F0 k ∨ G0 k) w1 W) (h : DPost q F v st' W e W') :
    e = .returned v ∧ Lw w1 F0 G0 q p st' g W' := by
  obtain ⟨he, F', hd, ht', hf⟩ := h
  refine ⟨he, ⟨F', G, hd, hr.keep fun k hk => ht'.block k (hr.lt hk) (fun h => hn k h hk), fun k hk hg => ?_, fun k hk => ?_, hG⟩, ht.trans ht' fun k hk => (hF k hk).imp_left .inl⟩
  · rcases hf k hk with h1 | h1
    · exact hn k h1 hg
    · have := hr.lt hg; omega
  · rcases hf k hk with h1 | h1
    · exact hF k h1
    · exact .inr (Nat.le_trans ht.size h1)
/-- What turns the log alone leaves. -/
theorem Lw.log {w1 W W' : World} {F0 G0 F : Nat → Prop} {q p : Nat} {st : Ds} {g' : Lg} {G G' : Nat → Prop} (hd : Dk W q st F) (hn : ∀ k, F k → ¬ G k) (hF : ∀ k, F k → F0 k ∨ w1.heap.size ≤ k) (hG : ∀ k, G k → G0 k ∨ w1.heap.size ≤ k) (ht : Trn (fun k => F0 k ∨ G0 k) w1 W) (hr : Lk W' p q g' G') (ht' : Trn G W W') (hf : ∀ k, G' k → G k ∨ W.heap.size ≤ k) :
    Lw w1 F0 G0 q p st g' W' := by
  refine ⟨⟨F, G', wdk_keep hd fun k hk => ht'.block k (wdk_lt hd hk) (fun h => hn k hk h), hr, fun k hk hg => ?_, hF, fun k hk => ?_⟩, ht.trans ht' fun k hk => (hG k hk).imp_left .inr⟩
  · rcases hf k hg with h1 | h1
    · exact hn k hk h1
    · have := wdk_lt hd hk; omega
  · rcases hf k hk with h1 | h1
    · exact hG k h1
    · exact .inr (Nat.le_trans ht.size h1)
section
variable {w1 W : World} {F0 G0 : Nat → Prop} {q p : Nat} {st : Ds} {g : Lg}
theorem Lw.below {W' : World} (h : Lw w1 F0 G0 q p st g W) (hb : Below W.heap.size W W') : Lw w1 F0 G0 q p st g W' := by
  obtain ⟨⟨F, G, hd, hr, h1, h2, h3⟩, ht⟩ := h
  exact ⟨⟨F, G, hd.below hb, hr.below hb, h1, h2, h3⟩, ht.then (Trn.of hb)⟩
theorem Lw.cs (h : Lw w1 F0 G0 q p st g W) : ∃ bv, LogIn W p q bv g := by
  obtain ⟨⟨F, G, hd, ⟨bv, hl, -⟩, -⟩, ht⟩ := h; exact ⟨bv, hl⟩
/-- The disk's calls. -/
theorem lw_make (h : Lw w1 F0 G0 q p st g W) (nm : List UInt8) (hn : nm.length ≤ 9223372036854775807) : Calls Tryz.prog 36 #[.pointer (some ⟨q, 0, none⟩), .string (text nm)] W (fun e W' => e = .returned (.int .i64 (st.make nm).1) ∧ Lw w1 F0 G0 q p (st.make nm).2 g W') := by
  obtain ⟨⟨F, G, hd, hr, h1, h2, h3⟩, ht⟩ := h
  exact (dmake_c hd nm hn).mono fun e W' hp => Lw.disk hr h1 h2 h3 ht hp
theorem lw_sync (h : Lw w1 F0 G0 q p st g W) (nm : List UInt8) (hn : nm.length ≤ 9223372036854775807) : Calls Tryz.prog 115 #[.pointer (some ⟨q, 0, none⟩), .string (text nm)] W (fun e W' => e = .returned (.int .i64 (st.sync nm).1) ∧ Lw w1 F0 G0 q p (st.sync nm).2 g W') := by
  obtain ⟨⟨F, G, hd, hr, h1, h2, h3⟩, ht⟩ := h
  exact (dsync_c hd nm hn).mono fun e W' hp => Lw.disk hr h1 h2 h3 ht hp
end
end Go.Proofs.YtpejojagghfjgaaGreatDoor
end

section
namespace Go.Proofs.YtpejojagghfjgaaGreatDoor
open Go.RowKit Go Go.Sort Go.Maps Go.WideMaps
set_option linter.unusedVariables false
set_option maxRecDepth 20000

def Lg.lastN (g : Lg) : Int := g.B.getD (g.B.length - 1) 0
/-- What is made sure. -/
def syncL (st : Ds) (g : Lg) : Int × Ds × Lg := if (st.sync (nameW 119 g.lastN)).1 = 0 then (0, (st.sync (nameW 119 g.lastN)).2, { g with sure := g.next - 1 }) else ((st.sync (nameW 119 g.lastN)).1, (st.sync (nameW 119 g.lastN)).2, g)
theorem nameW_len (c : UInt8) (n : Int) : (nameW c n).length ≤ 13 := by
  unfold nameW
  split
  · simp
  · simp [padD_len]
/-- The box alone is another. -/
theorem LogIn.turn {W W' : World} {p q : Nat} {bv : Value} {g g' : Lg} (h : LogIn W p q bv g) (hk : ∀ k, k ≠ p → k < W.heap.size → W'.heap[k]? = W.heap[k]?)
    (hh : W'.heap[p]? = some (.cells #[.pointer (some ⟨q, 0, none⟩), .int .i64 g'.fails, bv, .int .i64 g'.size, .int .i64 g'.next, .int .i64 g'.sure, .int .i64 g'.most] 70 (0, 0))) (hB : g'.B = g.B) : LogIn W' p q bv g' := by
  have hne1 : ∀ k, bv.ownBlock = some k → k ≠ p := by
    rintro k hk rfl
    rcases h.list.2 with ⟨rfl, -⟩ | ⟨b, cap, cur, rfl, -, hg, -⟩
    · cases hk
    · injection hk with hk; subst hk
      have := tneD hg h.head
      exact absurd this (by decide)
  exact ⟨hh, by rw [hB]; exact h.list.of_block (fun k hv => hk k (hne1 k hv) (h.list.lt k hv).2)⟩
theorem Lw.turn {w1 W W' : World} {F0 G0 : Nat → Prop} {q p : Nat} {st : Ds} {g g' : Lg} (h : Lw w1 F0 G0 q p st g W) (hk : ∀ k, k ≠ p → k < W.heap.size → W'.heap[k]? = W.heap[k]?) (ht : Trn (fun k => k = p) W W')
    (hh : ∀ bv, W.heap[p]? = some (.cells #[.pointer (some ⟨q, 0, none⟩), .int .i64 g.fails, bv, .int .i64 g.size, .int .i64 g.next, .int .i64 g.sure, .int .i64 g.most] 70 (0, 0)) → W'.heap[p]? = some (.cells #[.pointer (some ⟨q, 0, none⟩), .int .i64 g'.fails, bv, .int .i64 g'.size, .int .i64 g'.next, .int .i64 g'.sure, .int .i64 g'.most] 70 (0, 0))) (hB : g'.B = g.B) : Lw w1 F0 G0 q p st g' W' := by
  obtain ⟨⟨F, G, hd, ⟨bv, hl, rfl⟩, h1, h2, h3⟩, htr⟩ := h
  exact Lw.log hd h1 h2 h3 htr ⟨bv, hl.turn hk (hh bv hl.head) hB, rfl⟩ (ht.mono fun k hk => .inl hk) (fun k hk => .inl hk)
set_option maxHeartbeats 6400000 in
theorem lsync_p {w1 W : World} {F0 G0 : Nat → Prop} {q p : Nat} {st : Ds} {g : Lg} (h : Lw w1 F0 G0 q p st g W) (hne : 0 < g.B.length) (hT : TabI W) (h0 : -9223372036854775808 ≤ g.lastN) (h1 : g.lastN ≤ 9223372036854775807) (h2 : 0 ≤ g.next) (h3 : g.next ≤ 1000000000000) :
    Calls Tryz.prog 69 #[.pointer (some ⟨p, 0, none⟩)] W (fun e W' => e = .returned (.int .i64 (syncL st g).1) ∧ Lw w1 F0 G0 q p (syncL st g).2.1 (syncL st g).2.2 W') := by
  obtain ⟨nm, hnm⟩ : ∃ nm, nameW 119 g.lastN = nm := ⟨_, rfl⟩
  have HN := Lib.hid (show nm.length ≤ 9223372036854775807 from by rw [← hnm]; have := nameW_len 119 g.lastN; omega)
  have HLA := Lib.hid (fun W' (hb : Below W.heap.size W W') => by
    obtain ⟨bv, hl⟩ := (h.below hb).cs
    have := llast_c hl hne (hT.grown hb) h0 h1
    rw [show g.B.getD (g.B.length - 1) 0 = g.lastN from rfl, hnm] at this
    exact this)
  have HL := Lib.hid h
  have HNX := Lib.hid (And.intro h2 h3)
  have HS := Lib.hid (show syncL st g = if (st.sync nm).1 = 0 then (0, (st.sync nm).2, { g with sure := g.next - 1 }) else ((st.sync nm).1, (st.sync nm).2, g) from by unfold syncL; rw [hnm])
  obtain ⟨r1, hr1⟩ : ∃ z, (st.sync nm).1 = z := ⟨_, rfl⟩
  obtain ⟨s1, hs1⟩ : ∃ z, (st.sync nm).2 = z := ⟨_, rfl⟩
  rw [hr1, hs1] at HS
  have HSY := Lib.hid (fun W' (hb : Below W.heap.size W W') => by
    have := lw_sync (h.below hb) nm HN.out
    rw [hr1, hs1] at this
    exact this)
  obtain ⟨R, hR⟩ : ∃ z, syncL st g = z := ⟨_, rfl⟩
  rw [hR] at HS ⊢
  clear h hne hT h0 h1 h2 h3 hnm hr1 hs1 hR
  go_enter Tryz.func69, Tryz.ntmps69
  go_wp2
  refine wp_region_flow_tail 6 [none, none, none, none, some 0, some 1, some 2, some 3, some 4, some 5, none, none, none, none, none, none, none, none, none, none, none, none] (fun i => [undef, undef, undef, undef, undef, undef].getD i undef) [(fun v _ => v = .pointer (some ⟨p, 0, none⟩)), (fun v _ => v = .pointer (some ⟨p, 0, none⟩)), (fun v _ => v = .pointer (some ⟨p, 0, none⟩)), (fun v _ => v = .pointer (some ⟨q, 0, none⟩)), (fun v _ => v = .pointer (some ⟨p, 0, none⟩)), (fun v _ => v = .string (text nm))] (fun _ => False) (by kernel_rfl) (by kernel_rfl) (by kernel_rfl) rfl rfl rfl ?_ ?_ ?_
  · intro g hg v X Y hX hY hv
    simp only [List.mem_cons, List.not_mem_nil, or_false] at hg
    rcases hg with rfl | rfl | rfl | rfl | rfl | rfl
    all_goals first
      | exact hv
      | exact hv.kept hY
  · simp only [flowOpsF, List.take_succ_cons, List.take_zero, and_true]
    refine ⟨?_, ?_, ?_, ?_, ?_, ?_⟩
    · intro xs W9 hW hn9
      simp only [flowAct, List.zipWith_cons_cons, List.zipWith_nil_left]
      go_wp2_with (fail)
      exact ⟨rfl, _, rfl, Below.refl _ _, rfl, fun h => h.elim⟩
    · intro xs W9 hW hn9
      simp [flowNeeds, Region.binds] at hn9
      simp only [flowAct, List.zipWith_cons_cons, List.zipWith_nil_left]
      try simp only [hn9]
      go_wp2_with (fail)
      exact ⟨rfl, _, rfl, Below.refl _ _, rfl, fun h => h.elim⟩
    · intro xs W9 hW hn9
      simp [flowNeeds, Region.binds] at hn9
      simp only [flowAct, List.zipWith_cons_cons, List.zipWith_nil_left]
      try simp only [hn9]
      go_wp2_with (fail)
      exact ⟨rfl, _, rfl, Below.refl _ _, rfl, fun h => h.elim⟩
    · intro xs W9 hW hn9
      simp [flowNeeds, Region.binds] at hn9
      obtain ⟨bv, hl9⟩ := (HL.out.below hW).cs
      obtain ⟨c0, c1, c2, c3, c4, c5, c6⟩ := hl9.cs
      clear hl9
      simp only [flowAct, List.zipWith_cons_cons, List.zipWith_nil_left]
      try simp only [hn9]
      go_wp2_with (fail)
      exact ⟨rfl, _, rfl, Below.refl _ _, rfl, fun h => h.elim⟩
    · intro xs W9 hW hn9
      simp only [flowAct, List.zipWith_cons_cons, List.zipWith_nil_left]
      go_wp2_with (fail)
      exact ⟨rfl, _, rfl, Below.refl _ _, rfl, fun h => h.elim⟩
    · intro xs W9 hW hn9
      simp [flowNeeds, Region.binds] at hn9
      simp only [flowAct, List.zipWith_cons_cons, List.zipWith_nil_left]
      try simp only [hn9]
      go_wp2_with (go_at_call 112; (with_reducible refine (HLA.out _ hW).mono ?_); rintro e9 w9 ⟨rfl, hb9⟩)
      exact ⟨rfl, _, rfl, hb9, rfl, fun h => h.elim⟩
  · intro xs W9 hW hall hfr
    clear hfr
    simp only [flowAll, and_true, Nat.zero_add, Nat.reduceAdd] at hall
    obtain ⟨-, -, -, a3, -, a5⟩ := hall
    simp only [flowAct, List.zipWith_cons_cons, List.zipWith_nil_left, List.drop_succ_cons, List.drop_zero]
    simp only [a3, a5]
    clear a3 a5
    have HW := Lib.hid hW
    clear hW
    by_cases hr0 : r1 = 0
    · subst hr0
      have HS0 := Lib.hid (show R = (0, s1, { g with sure := g.next - 1 }) from by rw [HS.out, if_pos rfl])
      go_wp2_with (go_at_call 115; (with_reducible refine (HSY.out _ HW.out).mono ?_); rintro e2 w2 ⟨rfl, hl2⟩; have HL2 := Lib.hid hl2; obtain ⟨bv, hl9⟩ := hl2.cs; obtain ⟨c0, c1, c2, c3, c4, c5, c6⟩ := hl9.cs; have f5 := hl9.fz 5; obtain ⟨hn0, hn1⟩ := HNX.out; clear hl9 hl2)
      go_ret
      rw [HS0.out]
      exact ⟨rfl, HL2.out.turn (fun k hk _ => heap_setCell_other _ _ _ _ hk) (Trn.refl.set (.inl rfl)) (fun bv hh => by rw [heap_setCell_same _ p 5 _ 70 _ hh]; rfl) rfl⟩
    · have HS0 := Lib.hid (show R = (r1, s1, g) from by rw [HS.out, if_neg hr0])
      have hrb : (r1 == 0) = false := by rw [beq_eq_false_iff_ne]; exact hr0
      go_wp2_with (go_at_call 115; (with_reducible refine (HSY.out _ HW.out).mono ?_); rintro e2 w2 ⟨rfl, hl2⟩; have HL2 := Lib.hid hl2; clear hl2)
      go_ret
      rw [HS0.out]
      exact ⟨rfl, HL2.out⟩
end Go.Proofs.YtpejojagghfjgaaGreatDoor
end

section
namespace Go.Proofs.YtpejojagghfjgaaGreatDoor
open Go.RowKit Go Go.Sort Go.Maps Go.WideMaps
set_option linter.unusedVariables false
set_option maxRecDepth 20000

/-- What an append leaves. -/
def putL (st : Ds) (g : Lg) (l : List UInt8) : Int × Ds × Lg := if (st.append (nameW 119 g.lastN) l).1 = 0 then (0, (st.append (nameW 119 g.lastN) l).2, { g with size := g.size + (l.length : Int), next := g.next + 1 }) else ((st.append (nameW 119 g.lastN) l).1, (st.append (nameW 119 g.lastN) l).2, g)
theorem lw_append {w1 W : World} {F0 G0 : Nat → Prop} {q p : Nat} {st : Ds} {g : Lg} (h : Lw w1 F0 G0 q p st g W) (nm : List UInt8) (hn : nm.length ≤ 9223372036854775807) {ab : Option Addr} {bl cb : Nat} {l : List UInt8} (hbl : Bys w1 ab bl cb l) (hbl2 : l.length ≤ 1000000) (hbn : 0 < bl → ∀ b off, ab = some ⟨b, off, none⟩ → b < w1.heap.size ∧ ¬ F0 b ∧ ¬ G0 b) :
    Calls Tryz.prog 37 #[.pointer (some ⟨q, 0, none⟩), .string (text nm), .slice ab bl cb] W (fun e W' => e = .returned (.int .i64 (st.append nm l).1) ∧ Lw w1 F0 G0 q p (st.append nm l).2 g W') := by
  obtain ⟨⟨F, G, hd, hr, h1, h2, h3⟩, ht⟩ := h
  refine (dappend_c hd nm hn (hbl.trn (fun h0 b off e => fun hk => hk.elim (hbn h0 b off e).2.1 (hbn h0 b off e).2.2) ht) hbl2 (fun h0 b off e hf => ?_)).mono fun e W' hp => Lw.disk hr h1 h2 h3 ht hp
  obtain ⟨a1, a2, a3⟩ := hbn h0 b off e
  rcases h2 b hf with h | h
  · exact a2 h
  · omega
set_option maxHeartbeats 6400000 in
theorem lput_p {w1 W : World} {F0 G0 : Nat → Prop} {q p : Nat} {st : Ds} {g : Lg} (h : Lw w1 F0 G0 q p st g W) (hne : 0 < g.B.length) (hT : TabI W) (h0 : -9223372036854775808 ≤ g.lastN) (h1 : g.lastN ≤ 9223372036854775807) (h2 : 0 ≤ g.next) (h3 : g.next ≤ 1000000000000) (h4 : 0 ≤ g.size) (h5 : g.size ≤ 1000000000000)
    {ab : Option Addr} {bl cb : Nat} {l : List UInt8} (hbl : Bys w1 ab bl cb l) (hbl2 : l.length ≤ 1000000) (hbn : 0 < bl → ∀ b off, ab = some ⟨b, off, none⟩ → b < w1.heap.size ∧ ¬ F0 b ∧ ¬ G0 b) :
    Calls Tryz.prog 68 #[.pointer (some ⟨p, 0, none⟩), .slice ab bl cb] W (fun e W' => e = .returned (.int .i64 (putL st g l).1) ∧ Lw w1 F0 G0 q p (putL st g l).2.1 (putL st g l).2.2 W') := by
  obtain ⟨nm, hnm⟩ : ∃ nm, nameW 119 g.lastN = nm := ⟨_, rfl⟩
  have HN := Lib.hid (show nm.length ≤ 9223372036854775807 from by rw [← hnm]; have := nameW_len 119 g.lastN; omega)
  have HLA := Lib.hid (fun W' (hb : Below W.heap.size W W') => by
    obtain ⟨bv, hl⟩ := (h.below hb).cs
    have := llast_c hl hne (hT.grown hb) h0 h1
    rw [show g.B.getD (g.B.length - 1) 0 = g.lastN from rfl, hnm] at this
    exact this)
  have HL := Lib.hid h
  have HNX := Lib.hid (And.intro (And.intro h2 h3) (And.intro h4 (And.intro h5 (show (bl : Int) ≤ 1000000 from by have := hbl.len; omega))))
  have HS := Lib.hid (show putL st g l = if (st.append nm l).1 = 0 then (0, (st.append nm l).2, { g with size := g.size + (bl : Int), next := g.next + 1 }) else ((st.append nm l).1, (st.append nm l).2, g) from by unfold putL; rw [hnm, hbl.len])
  obtain ⟨r1, hr1⟩ : ∃ z, (st.append nm l).1 = z := ⟨_, rfl⟩
  obtain ⟨s1, hs1⟩ : ∃ z, (st.append nm l).2 = z := ⟨_, rfl⟩
  rw [hr1, hs1] at HS
  have HSY := Lib.hid (fun W' (hb : Below W.heap.size W W') => by
    have := lw_append (h.below hb) nm HN.out hbl hbl2 hbn
    rw [hr1, hs1] at this
    exact this)
  obtain ⟨R, hR⟩ : ∃ z, putL st g l = z := ⟨_, rfl⟩
  rw [hR] at HS ⊢
  clear h hne hT h0 h1 h2 h3 h4 h5 hnm hr1 hs1 hR hbl hbl2 hbn
  go_enter Tryz.func68, Tryz.ntmps68
  go_wp2
  refine wp_region_flow_tail 7 [none, none, none, none, none, none, some 0, some 1, some 2, some 3, some 4, some 5, some 6, none, none, none, none, none, none, none, none, none, none, none, none, none, none, none, none, none, none, none, none] (fun i => [undef, undef, undef, undef, undef, undef, undef].getD i undef) [(fun v _ => v = .pointer (some ⟨p, 0, none⟩)), (fun v _ => v = .pointer (some ⟨p, 0, none⟩)), (fun v _ => v = .pointer (some ⟨p, 0, none⟩)), (fun v _ => v = .pointer (some ⟨q, 0, none⟩)), (fun v _ => v = .pointer (some ⟨p, 0, none⟩)), (fun v _ => v = .string (text nm)), (fun v _ => v = .slice ab bl cb)] (fun _ => False) (by kernel_rfl) (by kernel_rfl) (by kernel_rfl) rfl rfl rfl ?_ ?_ ?_
  · intro g hg v X Y hX hY hv
    simp only [List.mem_cons, List.not_mem_nil, or_false] at hg
    rcases hg with rfl | rfl | rfl | rfl | rfl | rfl | rfl
    all_goals first
      | exact hv
      | exact hv.kept hY
  · simp only [flowOpsF, List.take_succ_cons, List.take_zero, and_true]
    refine ⟨?_, ?_, ?_, ?_, ?_, ?_, ?_⟩
    · intro xs W9 hW hn9
      simp only [flowAct, List.zipWith_cons_cons, List.zipWith_nil_left]
      go_wp2_with (fail)
      exact ⟨rfl, _, rfl, Below.refl _ _, rfl, fun h => h.elim⟩
    · intro xs W9 hW hn9
      simp [flowNeeds, Region.binds] at hn9
      simp only [flowAct, List.zipWith_cons_cons, List.zipWith_nil_left]
      try simp only [hn9]
      go_wp2_with (fail)
      exact ⟨rfl, _, rfl, Below.refl _ _, rfl, fun h => h.elim⟩
    · intro xs W9 hW hn9
      simp [flowNeeds, Region.binds] at hn9
      simp only [flowAct, List.zipWith_cons_cons, List.zipWith_nil_left]
      try simp only [hn9]
      go_wp2_with (fail)
      exact ⟨rfl, _, rfl, Below.refl _ _, rfl, fun h => h.elim⟩
    · intro xs W9 hW hn9
      simp [flowNeeds, Region.binds] at hn9
      obtain ⟨bv, hl9⟩ := (HL.out.below hW).cs
      obtain ⟨c0, c1, c2, c3, c4, c5, c6⟩ := hl9.cs
      clear hl9
      simp only [flowAct, List.zipWith_cons_cons, List.zipWith_nil_left]
      try simp only [hn9]
      go_wp2_with (fail)
      exact ⟨rfl, _, rfl, Below.refl _ _, rfl, fun h => h.elim⟩
    · intro xs W9 hW hn9
      simp only [flowAct, List.zipWith_cons_cons, List.zipWith_nil_left]
      go_wp2_with (fail)
      exact ⟨rfl, _, rfl, Below.refl _ _, rfl, fun h => h.elim⟩
    · intro xs W9 hW hn9
      simp [flowNeeds, Region.binds] at hn9
      simp only [flowAct, List.zipWith_cons_cons, List.zipWith_nil_left]
      try simp only [hn9]
      go_wp2_with (go_at_call 112; (with_reducible refine (HLA.out _ hW).mono ?_); rintro e9 w9 ⟨rfl, hb9⟩)
      exact ⟨rfl, _, rfl, hb9, rfl, fun h => h.elim⟩
    · intro xs W9 hW hn9
      simp only [flowAct, List.zipWith_cons_cons, List.zipWith_nil_left]
      go_wp2_with (fail)
      exact ⟨rfl, _, rfl, Below.refl _ _, rfl, fun h => h.elim⟩
  · intro xs W9 hW hall hfr
    clear hfr
    simp only [flowAll, and_true, Nat.zero_add, Nat.reduceAdd] at hall
    obtain ⟨-, -, -, a3, -, a5, a6⟩ := hall
    simp only [flowAct, List.zipWith_cons_cons, List.zipWith_nil_left, List.drop_succ_cons, List.drop_zero]
    simp only [a3, a5, a6]
    clear a3 a5 a6
    have HW := Lib.hid hW
    clear hW
    by_cases hr0 : r1 = 0
    · subst hr0
      have HS0 := Lib.hid (show R = (0, s1, { g with size := g.size + (bl : Int), next := g.next + 1 }) from by rw [HS.out, if_pos rfl])
      go_wp2_with (go_at_call 37; (with_reducible refine (HSY.out _ HW.out).mono ?_); rintro e2 w2 ⟨rfl, hl2⟩; have HL2 := Lib.hid hl2; obtain ⟨bv, hl9⟩ := hl2.cs; obtain ⟨c0, c1, c2, c3, c4, c5, c6⟩ := hl9.cs; have f3 := hl9.fz 3; have f4 := hl9.fz 4; obtain ⟨⟨hn0, hn1⟩, hn2, hn3, hn4⟩ := HNX.out; clear hl9 hl2)
      go_ret
      rw [HS0.out]
      exact ⟨rfl, HL2.out.turn (fun k hk _ => (heap_setCell_other _ _ _ _ hk).trans (heap_setCell_other _ _ _ _ hk)) (((Trn.refl (F := fun k => k = p)).set (p := ⟨p, 3, none⟩) (.inl rfl)).set (p := ⟨p, 4, none⟩) (.inl rfl)) (fun bv hh => by rw [heap_setCell_same _ p 4 _ 70 _ (by rw [heap_setCell_same _ p 3 _ 70 _ hh])]; rfl) rfl⟩
    · have HS0 := Lib.hid (show R = (r1, s1, g) from by rw [HS.out, if_neg hr0])
      have hrb : (r1 == 0) = false := by rw [beq_eq_false_iff_ne]; exact hr0
      go_wp2_with (go_at_call 37; (with_reducible refine (HSY.out _ HW.out).mono ?_); rintro e2 w2 ⟨rfl, hl2⟩; have HL2 := Lib.hid hl2; clear hl2)
      go_ret
      rw [HS0.out]
      exact ⟨rfl, HL2.out⟩
end Go.Proofs.YtpejojagghfjgaaGreatDoor
end

section
namespace Go.Proofs.YtpejojagghfjgaaGreatDoor
open Go Go.RowKit
set_option linter.unusedVariables false

/-- The same memory. -/
structure SameW (w W : World) : Prop where
  os : W.os = w.os
  tape : W.tape = w.tape
  output : W.output = w.output
  heap : W.heap = w.heap
theorem SameW.below {w W : World} (h : SameW w W) : Below w.heap.size w W := ⟨h.os, h.tape, h.output, by rw [h.heap]; exact Nat.le_refl _, fun k _ => by rw [h.heap]⟩
theorem SameW.drawn (w : World) (n : Nat) : SameW w { w with drawn := n } := ⟨rfl, rfl, rfl, rfl⟩
def RvN (vals : List (Option Value)) (i : Nat) (v : Value) : Prop := ∀ x, vals.getD i none = some x → v = x
section
variable {S : List Nat} {n : Nat} {V : Nat → Value → Prop} {R : Nat → World → Prop} {L : Nat → Bool} {xs : Nat → Value} {W : World}
theorem InvQ.laterN (h : InvQ S n V R L xs W) {j j' p p' : Nat} (hj : S[j]? = some p) (hj' : S[j']? = some p') (hjj : j ≤ j') (hL : L p = false) : L p' = false := by
  obtain ⟨k, hk, hs, -⟩ := h.stage
  cases hp : L p' with
  | false => rfl
  | true =>
    have h1 := (hs j' p' hj').1 hp
    have h2 := (hs j p hj).2 (by omega)
    rw [hL] at h2
    cases h2
/-- As long as the operation at place j of S has not run, the world is one of the stages up to j. -/
theorem InvQ.upto (h : InvQ S n V R L xs W) {j p : Nat} (hj : S[j]? = some p) (hL : L p = false) : ∃ k, k ≤ j ∧ R k W := by
  obtain ⟨k, hk, hs, hr⟩ := h.stage
  refine ⟨k, ?_, hr⟩
  cases Nat.lt_or_ge j k with
  | inl h1 => have := (hs j p hj).2 h1; rw [hL] at this; cases this
  | inr h1 => exact h1
end
end Go.Proofs.YtpejojagghfjgaaGreatDoor
end

section
namespace Go.Proofs.YtpejojagghfjgaaGreatDoor
open Go.RowKit Go Go.Sort Go.Maps Go.WideMaps
set_option linter.unusedVariables false
set_option maxRecDepth 20000

theorem infoW3 : (Tryz.prog.info? 3).map (fun i => (i.zero, i.size, i.bytes)) = some (some (.int .i64 0), 1, 8) := by kernel_rfl
theorem ints_one (l : List Int) : ∀ u ∈ lCells iarr l, u.oneCell' = true := by
  intro u hu
  obtain ⟨c, -, hc⟩ := List.mem_flatMap.1 hu
  simp only [iarr, List.mem_cons, List.not_mem_nil, or_false] at hc
  subst hc
  rfl
/-- append of one number, told where the list stands then. -/
theorem wpList_append_int {w : World} {ops : Array Oper} {rest : List Oper} {o : Oper} {ac : Act} {Q : Exit → Act → World → Prop} (hgd : o.guard = none) (os ox : Operand)
    (ho : o.op = .call { callee := .builtin .append, args := #[os, ox], argTypes := #[58, 58] })
    {base : Nat} {u : Value} {l : List Int} (hs : ac.eval os = u) (hown : OwnL 1 3 iarr w base u l) (x : Int) {b : Nat} (hx : ac.eval ox = .slice (some ⟨b, 0, none⟩) 1 1) (hb : w.heap[b]? = some (.cells #[.int .i64 x] 3 (0, 0))) (h63 : l.length + 1 ≤ 2000000) (hbase : base ≤ w.heap.size)
    (h : ∀ v' w', OwnL 1 3 iarr w' base v' (l ++ [x]) → w.grownBy w' u.ownBlock → (v'.ownBlock = u.ownBlock ∨ v'.ownBlock = some w.heap.size) → wpList Tryz.prog ops Q rest (ac.put o.dst v') w') :
    wpList Tryz.prog ops Q (o :: rest) ac w := by
  obtain ⟨i0, hi, hz0, hz1, hz2⟩ := info_parts infoW3
  obtain ⟨v', w', hr, h2, h3, -, h5⟩ := run_append_own_at (P := Tryz.prog) (w := w) base 58 o.type 3 i0 _ 1 8 Tryz.underlying58 hi hz0 hz1 hz2 rfl (by decide) u l.length (lCells iarr l) hown
    ⟨b, 0, none⟩ 1 1 (lCells iarr [x]) (by rw [lCells_length iarr_size]; rfl) (fun j v hj => by
      rw [addr_add, Nat.zero_add, cell_of_row w b j _ 3 (0, 0) hb, ← hj]
      simp [lCells, iarr]) (ints_one [x]) (by unfold maxLen; omega) (by omega) hbase
  refine wpList_plain hgd fun K hK => ?_
  unfold Oper.wp execOp
  simp only [ho, resolve, invoke, builtin, Sem.run_bind, Sem.run_pure, Result.andThen_ok, List.map_toArray, List.map_cons, List.map_nil, hs, hx, hr]
  exact hK _ _ (h v' w' (by unfold OwnL; rw [List.length_append, lCells_append]; exact h2) h3 h5)
/-- A list of numbers and one more, in a world behind w. -/
structure MoreW (w : World) (v : Value) (l' : List Int) (W : World) (v' : Value) : Prop where
  own : OwnL 1 3 iarr W 0 v' l'
  tr : Trn (fun k => v.ownBlock = some k) w W
  at9 : ∀ k, v'.ownBlock = some k → v.ownBlock = some k ∨ w.heap.size ≤ k
def BegR (w : World) (p : Nat) (v : Value) (l' : List Int) (x : Int) : Nat → World → Prop
  | 0, W => SameW w W
  | 1, W => ∃ W3, SameW w W3 ∧ W = W3.alloc (.cells #[.int .i64 x] 3)
  | 2, W => ∃ v', MoreW w v l' W v'
  | _, W => ∃ W3 v', MoreW w v l' W3 v' ∧ W = W3.setCell ⟨p, 2, none⟩ v'
theorem BegR.early {w W : World} {p : Nat} {v : Value} {l' : List Int} {x : Int} (h : ∃ k, k ≤ 2 ∧ BegR w p v l' x k W) : Trn (fun k => v.ownBlock = some k) w W := by
  obtain ⟨k, hk, hr⟩ := h
  rcases (by omega : k = 0 ∨ k = 1 ∨ k = 2) with rfl | rfl | rfl
  · exact Trn.of (SameW.below hr)
  · obtain ⟨W3, hs, rfl⟩ := hr
    exact Trn.of (hs.below.trans ((alloc_below W3 _).mono (by rw [hs.heap]; exact Nat.le_refl _)))
  · obtain ⟨v', hm⟩ := hr
    exact hm.tr
theorem LogIn.off {W : World} {p q : Nat} {bv : Value} {g : Lg} (h : LogIn W p q bv g) {k : Nat} (hk : bv.ownBlock = some k) : k ≠ p := by
  rintro rfl
  rcases h.list.2 with ⟨rfl, -⟩ | ⟨b, cap, cur, rfl, -, hg, -⟩
  · cases hk
  · injection hk with hk
    subst hk
    exact absurd (tneD hg h.head) (by decide)
/-- Its list is another. -/
theorem LogIn.relist {W W3 : World} {p q : Nat} {bv v' : Value} {g : Lg} {l' : List Int} (h : LogIn W p q bv g) (hg : W3.heap[p]? = W.heap[p]?) (hl : OwnL 1 3 iarr W3 0 v' l') : LogIn (W3.setCell ⟨p, 2, none⟩ v') p q v' { g with B := l' } := by
  have hh := hg.trans h.head
  refine ⟨by rw [heap_setCell_same W3 p 2 _ _ _ hh]; rfl, hl.of_block (fun k hv => ?_)⟩
  have hne : k ≠ p := by
    rintro rfl
    rcases hl.2 with ⟨rfl, -⟩ | ⟨b, cap, cur, rfl, -, hg9, -⟩
    · cases hv
    · injection hv with hv
      subst hv
      exact absurd (tneD hg9 hh) (by decide)
  exact heap_setCell_other W3 ⟨p, 2, none⟩ k v' hne
/-- A segment begun behind the others. -/
def beginL (st : Ds) (g : Lg) : Int × Ds × Lg := if (st.make (nameW 119 g.next)).1 = 0 then (0, (st.make (nameW 119 g.next)).2, { g with B := g.B ++ [g.next], size := 0 }) else ((st.make (nameW 119 g.next)).1, (st.make (nameW 119 g.next)).2, g)
set_option maxRecDepth 100000 in
set_option maxHeartbeats 12800000 in
theorem lbegin_p {w1 W : World} {F0 G0 : Nat → Prop} {q p : Nat} {st : Ds} {g : Lg} (h : Lw w1 F0 G0 q p st g W) (hT : TabI W) (h2 : 0 ≤ g.next) (h3 : g.next ≤ 1000000000000) (hlen : g.B.length ≤ 100000) :
    Calls Tryz.prog 110 #[.pointer (some ⟨p, 0, none⟩)] W (fun e W' => e = .returned (.int .i64 (beginL st g).1) ∧ Lw w1 F0 G0 q p (beginL st g).2.1 (beginL st g).2.2 W') := by
  obtain ⟨nm, hnm⟩ : ∃ nm, nameW 119 g.next = nm := ⟨_, rfl⟩
  have HN := Lib.hid (show nm.length ≤ 9223372036854775807 from by rw [← hnm]; have := nameW_len 119 g.next; omega)
  have HLA := Lib.hid (fun W' (hb : Below W.heap.size W W') => by
    have := wname_c g.next (by omega) (by omega) (hT.grown hb)
    rw [hnm] at this
    exact this)
  have HL := Lib.hid h
  have HLEN := Lib.hid hlen
  have HS := Lib.hid (show beginL st g = if (st.make nm).1 = 0 then (0, (st.make nm).2, { g with B := g.B ++ [g.next], size := 0 }) else ((st.make nm).1, (st.make nm).2, g) from by unfold beginL; rw [hnm])
  obtain ⟨r1, hr1⟩ : ∃ z, (st.make nm).1 = z := ⟨_, rfl⟩
  obtain ⟨s1, hs1⟩ : ∃ z, (st.make nm).2 = z := ⟨_, rfl⟩
  rw [hr1, hs1] at HS
  have HSY := Lib.hid (fun W' (hb : Below W.heap.size W W') => by
    have := lw_make (h.below hb) nm HN.out
    rw [hr1, hs1] at this
    exact this)
  obtain ⟨R, hR⟩ : ∃ z, beginL st g = z := ⟨_, rfl⟩
  rw [hR] at HS ⊢
  clear h hT h2 h3 hnm hr1 hs1 hR hlen
  go_enter Tryz.func110, Tryz.ntmps110
  go_wp2
  refine wp_region_flow_tail 9 [none, none, none, none, some 0, some 1, some 2, some 3, some 4, some 5, some 6, some 7, some 8, none, none, none, none, none, none, none, none, none, none, none, none, none, none, none, none, none, none, none, none] (fun i => [undef, undef, undef, undef, undef, undef, undef, undef, undef].getD i undef) [(fun v _ => v = .pointer (some ⟨p, 0, none⟩)), (fun v _ => v = .pointer (some ⟨p, 0, none⟩)), (fun v _ => v = .pointer (some ⟨p, 0, none⟩)), (fun v _ => v = .pointer (some ⟨q, 0, none⟩)), (fun v _ => v = .pointer (some ⟨p, 0, none⟩)), (fun v _ => v = .pointer (some ⟨p, 0, none⟩)), (fun v _ => v = .pointer (some ⟨p, 4, none⟩)), (fun v _ => v = .int .i64 g.next), (fun v _ => v = .string (text nm))] (fun _ => False) (by kernel_rfl) (by kernel_rfl) (by kernel_rfl) rfl rfl rfl ?_ ?_ ?_
  · intro g hg v X Y hX hY hv
    simp only [List.mem_cons, List.not_mem_nil, or_false] at hg
    rcases hg with rfl | rfl | rfl | rfl | rfl | rfl | rfl | rfl | rfl
    all_goals first
      | exact hv
      | exact hv.kept hY
  · simp only [flowOpsF, List.take_succ_cons, List.take_zero, and_true]
    refine ⟨?_, ?_, ?_, ?_, ?_, ?_, ?_, ?_, ?_⟩
    · intro xs W9 hW hn9
      simp only [flowAct, List.zipWith_cons_cons, List.zipWith_nil_left]
      go_wp2_with (fail)
      exact ⟨rfl, _, rfl, Below.refl _ _, rfl, fun h => h.elim⟩
    · intro xs W9 hW hn9
      simp [flowNeeds, Region.binds] at hn9
      simp only [flowAct, List.zipWith_cons_cons, List.zipWith_nil_left]
      try simp only [hn9]
      go_wp2_with (fail)
      exact ⟨rfl, _, rfl, Below.refl _ _, rfl, fun h => h.elim⟩
    · intro xs W9 hW hn9
      simp [flowNeeds, Region.binds] at hn9
      simp only [flowAct, List.zipWith_cons_cons, List.zipWith_nil_left]
      try simp only [hn9]
      go_wp2_with (fail)
      exact ⟨rfl, _, rfl, Below.refl _ _, rfl, fun h => h.elim⟩
    · intro xs W9 hW hn9
      simp [flowNeeds, Region.binds] at hn9
      obtain ⟨bv, hl9⟩ := (HL.out.below hW).cs
      obtain ⟨c0, c1, c2, c3, c4, c5, c6⟩ := hl9.cs
      clear hl9
      simp only [flowAct, List.zipWith_cons_cons, List.zipWith_nil_left]
      try simp only [hn9]
      go_wp2_with (fail)
      exact ⟨rfl, _, rfl, Below.refl _ _, rfl, fun h => h.elim⟩
    · intro xs W9 hW hn9
      simp only [flowAct, List.zipWith_cons_cons, List.zipWith_nil_left]
      go_wp2_with (fail)
      exact ⟨rfl, _, rfl, Below.refl _ _, rfl, fun h => h.elim⟩
    · intro xs W9 hW hn9
      simp [flowNeeds, Region.binds] at hn9
      simp only [flowAct, List.zipWith_cons_cons, List.zipWith_nil_left]
      try simp only [hn9]
      go_wp2_with (fail)
      exact ⟨rfl, _, rfl, Below.refl _ _, rfl, fun h => h.elim⟩
    · intro xs W9 hW hn9
      simp [flowNeeds, Region.binds] at hn9
      simp only [flowAct, List.zipWith_cons_cons, List.zipWith_nil_left]
      try simp only [hn9]
      go_wp2_with (fail)
      exact ⟨rfl, _, rfl, Below.refl _ _, rfl, fun h => h.elim⟩
    · intro xs W9 hW hn9
      simp [flowNeeds, Region.binds] at hn9
      obtain ⟨bv, hl9⟩ := (HL.out.below hW).cs
      obtain ⟨c0, c1, c2, c3, c4, c5, c6⟩ := hl9.cs
      clear hl9
      simp only [flowAct, List.zipWith_cons_cons, List.zipWith_nil_left]
      try simp only [hn9]
      go_wp2_with (fail)
      exact ⟨rfl, _, rfl, Below.refl _ _, rfl, fun h => h.elim⟩
    · intro xs W9 hW hn9
      simp [flowNeeds, Region.binds] at hn9
      simp only [flowAct, List.zipWith_cons_cons, List.zipWith_nil_left]
      try simp only [hn9]
      go_wp2_with (go_at_call 16; (with_reducible refine (HLA.out _ hW).mono ?_); rintro e9 w9 ⟨rfl, hb9⟩)
      exact ⟨rfl, _, rfl, hb9, rfl, fun h => h.elim⟩
  · intro xs W9 hW hall hfr
    clear hfr
    simp only [flowAll, and_true, Nat.zero_add, Nat.reduceAdd] at hall
    obtain ⟨-, -, -, a3, -, -, -, -, a8⟩ := hall
    simp only [flowAct, List.zipWith_cons_cons, List.zipWith_nil_left, List.drop_succ_cons, List.drop_zero]
    simp only [a3, a8]
    clear a3 a8
    have HW := Lib.hid hW
    clear hW
    by_cases hr0 : r1 = 0
    · subst hr0
      have HS0 := Lib.hid (show R = (0, s1, { g with B := g.B ++ [g.next], size := 0 }) from by rw [HS.out, if_pos rfl])
      go_upto_region 4 with (go_at_call 36; (with_reducible refine (HSY.out _ HW.out).mono ?_); rintro e2 w8 ⟨rfl, hl2⟩; have HL8 := Lib.hid hl2; clear hl2)
      obtain ⟨bv, hn8⟩ := HL8.out.cs
      have HN8 := Lib.hid hn8
      obtain ⟨ba, bc, hbvv, -⟩ := hn8.list.ls (z := (0 : Int)) iarr_size
      have HBV := Lib.hid hbvv
      obtain ⟨bm, hbm⟩ : ∃ z, g.B.length = z := ⟨_, rfl⟩
      rw [hbm] at hbvv
      obtain ⟨B9, hB9⟩ : ∃ z, w8.heap.size = z := ⟨_, rfl⟩
      have HSB := Lib.hid hB9
      subst hbvv
      have HC := Lib.hid (fun (W : World) (hW : Trn (fun k => (Value.slice ba bm bc).ownBlock = some k) w8 W) => show W.cell? ⟨p, 2, none⟩ = some (.slice ba bm bc) ∧ W.cell? ⟨p, 4, none⟩ = some (.int .i64 g.next) ∧ W.frozen? ⟨p, 2, none⟩ = false from by
        have hh := hW.heap HN8.out.head (fun hk => HN8.out.off hk rfl)
        exact ⟨by rw [cell_of_row W p 2 _ _ (0, 0) hh]; rfl, by rw [cell_of_row W p 4 _ _ (0, 0) hh]; rfl, frozen_of_row W p 2 _ _ hh⟩)
      clear hn8 hbm hB9
      refine wp_region_inv [none, none, none, none, none, none, none, none, none, none, none, none, none, none, none, none, none, some 0, some 1, some 2, some 3, some 4, some 5, some 6, some 7, some 8, some 9, some 10, some 11, some 12, none, none, none] (fun i => [undef, undef, undef, undef, undef, undef, undef, undef, undef, undef, undef, undef, undef, undef].getD i undef) (fun L xs W => InvQ [9, 10, 13] 14 (RvN [some (.pointer (some ⟨p, 0, none⟩)), some (.pointer (some ⟨p, 0, none⟩)), some (.pointer (some ⟨p, 0, none⟩)), some (.pointer (some ⟨p, 2, none⟩)), some (.slice ba bm bc), some (.pointer (some ⟨p, 0, none⟩)), some (.pointer (some ⟨p, 0, none⟩)), some (.pointer (some ⟨p, 4, none⟩)), some (.int .i64 g.next), some (.slice (some ⟨B9, 0, none⟩) 1 1), none, some (.pointer (some ⟨p, 0, none⟩)), some (.pointer (some ⟨p, 2, none⟩)), none]) (BegR w8 p (.slice ba bm bc) (g.B ++ [g.next]) g.next) L xs W ∧ ((L 10 = true → L 13 = false → (MoreW w8 (.slice ba bm bc) (g.B ++ [g.next])) W (xs 10)) ∧ (L 10 = true → L 4 = true) ∧ (L 9 = true → L 8 = true))) (by kernel_rfl) (by kernel_rfl) rfl rfl (fun L hL => ⟨InvQ.start hL (by decide) (by decide) (SameW.drawn _ _), ⟨(fun h _ => by rw [hL 10 (by decide)] at h; cases h), (fun h => by rw [hL 10 (by decide)] at h; cases h), (fun h => by rw [hL 9 (by decide)] at h; cases h)⟩⟩) ?_ ?_
      · simp only [invOps, and_true]
        refine ⟨?_, ?_, ?_, ?_, ?_, ?_, ?_, ?_, ?_, ?_, ?_, ?_, ?_, ?_⟩
        · intro L xs W ⟨hI, hE⟩ hL hn
          obtain ⟨hE0, hE1, hE2⟩ := hE
          simp only [flowAct, List.zipWith_cons_cons, List.zipWith_nil_left]
          go_wp2_with (fail)
          exact ⟨rfl, _, rfl, hI.pure 0 (by decide) (fun _ h => h) (fun x hx => by first | (injection hx with hx) | cases hx), ⟨hE0, hE1, hE2⟩⟩
        · intro L xs W ⟨hI, hE⟩ hL hn
          obtain ⟨hE0, hE1, hE2⟩ := hE
          simp only [flowAct, List.zipWith_cons_cons, List.zipWith_nil_left]
          go_wp2_with (fail)
          exact ⟨rfl, _, rfl, hI.pure 1 (by decide) (fun _ h => h) (fun x hx => by first | (injection hx with hx) | cases hx), ⟨hE0, hE1, hE2⟩⟩
        · intro L xs W ⟨hI, hE⟩ hL hn
          simp [invNeeds, Region.binds] at hn
          have e1 : xs 1 = .pointer (some ⟨p, 0, none⟩) := hI.val 1 (by decide) (by simp only [hn]) _ rfl
          obtain ⟨hE0, hE1, hE2⟩ := hE
          simp only [flowAct, List.zipWith_cons_cons, List.zipWith_nil_left]
          simp only [e1]
          go_wp2_with (fail)
          exact ⟨rfl, _, rfl, hI.pure 2 (by decide) (fun _ h => h) (fun x hx => by first | (injection hx with hx) | cases hx), ⟨hE0, hE1, hE2⟩⟩
        · intro L xs W ⟨hI, hE⟩ hL hn
          simp [invNeeds, Region.binds] at hn
          have e2 : xs 2 = .pointer (some ⟨p, 0, none⟩) := hI.val 2 (by decide) (by simp only [hn]) _ rfl
          obtain ⟨hE0, hE1, hE2⟩ := hE
          simp only [flowAct, List.zipWith_cons_cons, List.zipWith_nil_left]
          simp only [e2]
          go_wp2_with (fail)
          exact ⟨rfl, _, rfl, hI.pure 3 (by decide) (fun _ h => h) (fun x hx => by first | (injection hx with hx) | cases hx), ⟨hE0, hE1, hE2⟩⟩
        · intro L xs W ⟨hI, hE⟩ hL hn
          simp [invNeeds, Region.binds] at hn
          have e3 : xs 3 = .pointer (some ⟨p, 2, none⟩) := hI.val 3 (by decide) (by simp only [hn]) _ rfl
          obtain ⟨hE0, hE1, hE2⟩ := hE
          have Lb1 : L 10 = false := by
            cases h : L 10 with
            | false => rfl
            | true => have := hE1 h; rw [hL] at this; cases this
          have L10 := Lb1
          obtain ⟨k, hk1, hk2⟩ := hI.upto (j := 1) rfl L10
          have z1 := (HC.out W (BegR.early ⟨k, by omega, hk2⟩)).1
          clear hk2
          simp only [flowAct, List.zipWith_cons_cons, List.zipWith_nil_left]
          simp only [e3]
          go_wp2_with (fail)
          exact ⟨rfl, _, rfl, hI.pure 4 (by decide) (fun _ h => h) (fun x hx => by first | (injection hx with hx) | cases hx), ⟨hE0, (fun _ => by simp), hE2⟩⟩
        · intro L xs W ⟨hI, hE⟩ hL hn
          obtain ⟨hE0, hE1, hE2⟩ := hE
          simp only [flowAct, List.zipWith_cons_cons, List.zipWith_nil_left]
          go_wp2_with (fail)
          exact ⟨rfl, _, rfl, hI.pure 5 (by decide) (fun _ h => h) (fun x hx => by first | (injection hx with hx) | cases hx), ⟨hE0, hE1, hE2⟩⟩
        · intro L xs W ⟨hI, hE⟩ hL hn
          simp [invNeeds, Region.binds] at hn
          have e5 : xs 5 = .pointer (some ⟨p, 0, none⟩) := hI.val 5 (by decide) (by simp only [hn]) _ rfl
          obtain ⟨hE0, hE1, hE2⟩ := hE
          simp only [flowAct, List.zipWith_cons_cons, List.zipWith_nil_left]
          simp only [e5]
          go_wp2_with (fail)
          exact ⟨rfl, _, rfl, hI.pure 6 (by decide) (fun _ h => h) (fun x hx => by first | (injection hx with hx) | cases hx), ⟨hE0, hE1, hE2⟩⟩
        · intro L xs W ⟨hI, hE⟩ hL hn
          simp [invNeeds, Region.binds] at hn
          have e6 : xs 6 = .pointer (some ⟨p, 0, none⟩) := hI.val 6 (by decide) (by simp only [hn]) _ rfl
          obtain ⟨hE0, hE1, hE2⟩ := hE
          simp only [flowAct, List.zipWith_cons_cons, List.zipWith_nil_left]
          simp only [e6]
          go_wp2_with (fail)
          exact ⟨rfl, _, rfl, hI.pure 7 (by decide) (fun _ h => h) (fun x hx => by first | (injection hx with hx) | cases hx), ⟨hE0, hE1, hE2⟩⟩
        · intro L xs W ⟨hI, hE⟩ hL hn
          simp [invNeeds, Region.binds] at hn
          have e7 : xs 7 = .pointer (some ⟨p, 4, none⟩) := hI.val 7 (by decide) (by simp only [hn]) _ rfl
          obtain ⟨hE0, hE1, hE2⟩ := hE
          have Lb2 : L 9 = false := by
            cases h : L 9 with
            | false => rfl
            | true => have := hE2 h; rw [hL] at this; cases this
          have L9 := Lb2
          obtain ⟨k, hk1, hk2⟩ := hI.upto (j := 0) rfl L9
          have z1 := (HC.out W (BegR.early ⟨k, by omega, hk2⟩)).2.1
          clear hk2
          simp only [flowAct, List.zipWith_cons_cons, List.zipWith_nil_left]
          simp only [e7]
          go_wp2_with (fail)
          exact ⟨rfl, _, rfl, hI.pure 8 (by decide) (fun _ h => h) (fun x hx => by first | (injection hx with hx) | cases hx), ⟨hE0, hE1, (fun _ => by simp)⟩⟩
        · intro L xs W ⟨hI, hE⟩ hL hn
          simp [invNeeds, Region.binds] at hn
          have e8 : xs 8 = .int .i64 g.next := hI.val 8 (by decide) (by simp only [hn]) _ rfl
          have hr := hI.at 0 rfl hL (fun p hp => absurd hp.1 (by omega))
          obtain ⟨hE0, hE1, hE2⟩ := hE
          have La0 := hI.laterN (j := 0) (j' := 1) rfl rfl (by decide) hL
          have Li2 : L 8 = true := by simp only [hn]
          have hsz : W.heap.size = B9 := by rw [SameW.heap hr, HSB.out]
          have HR := Lib.hid hr
          clear hr
          simp only [flowAct, List.zipWith_cons_cons, List.zipWith_nil_left]
          simp only [e8]
          go_wp2_with (fail)
          exact ⟨rfl, _, rfl, hI.step 0 rfl hL (fun p hp => absurd hp.1 (by omega)) (by decide) (⟨W, HR.out, rfl⟩) (fun x hx => by first | (injection hx with hx) | cases hx), ⟨(fun h _ => by simp [La0] at h), hE1, (fun _ => by simpa using Li2)⟩⟩
        · intro L xs W ⟨hI, hE⟩ hL hn
          simp [invNeeds, Region.binds] at hn
          have e4 : xs 4 = .slice ba bm bc := hI.val 4 (by decide) (by simp only [hn]) _ rfl
          have e9 : xs 9 = .slice (some ⟨B9, 0, none⟩) 1 1 := hI.val 9 (by decide) (by simp only [hn]) _ rfl
          have hr := hI.at 1 rfl hL (fun p hp => by obtain ⟨-, h⟩ := hp; injection h with h; subst h; simp only [hn])
          obtain ⟨hE0, hE1, hE2⟩ := hE
          have Li1 : L 4 = true := by simp only [hn]
          obtain ⟨W3, hs3, rfl⟩ := hr
          have hsz : W3.heap.size = B9 := by rw [hs3.heap, HSB.out]
          have HOW := Lib.hid (show OwnL 1 3 iarr (W3.alloc (.cells #[.int .i64 g.next] 3)) 0 (.slice ba bm bc) g.B from ((HN8.out.below hs3.below).below (alloc_below W3 _)).list)
          have HPK := Lib.hid (show (W3.alloc (.cells #[.int .i64 g.next] 3)).heap[B9]? = some (.cells #[.int .i64 g.next] 3 (0, 0)) from by rw [← hsz]; exact heap_alloc_new W3 _)
          have HAL := Lib.hid (show Trn (fun k => (Value.slice ba bm bc).ownBlock = some k) w8 (W3.alloc (.cells #[.int .i64 g.next] 3)) ∧ (W3.alloc (.cells #[.int .i64 g.next] 3)).heap.size = B9 + 1 from ⟨Trn.of (hs3.below.trans ((alloc_below W3 _).mono (by rw [hs3.heap]; exact Nat.le_refl _))), by simp [hsz]⟩)
          clear hs3 hsz
          generalize W3.alloc (.cells #[.int .i64 g.next] 3) = W4 at *
          simp only [flowAct, List.zipWith_cons_cons, List.zipWith_nil_left]
          simp only [e4, e9]
          go_wp2_with (refine wpList_append_int rfl _ _ rfl (base := 0) (u := .slice ba bm bc) (l := g.B) rfl HOW.out g.next (b := B9) rfl HPK.out (by have := HLEN.out; omega) (Nat.zero_le _) ?_; intro v9 w9 ho9 hg9 ha9)
          have hm9 : MoreW w8 (.slice ba bm bc) (g.B ++ [g.next]) w9 v9 := ⟨ho9, HAL.out.1.then (Trn.grown hg9 (fun k hk => hk)), fun k hk => by
            rcases ha9 with h | h
            · exact .inl (by rw [← h]; exact hk)
            · rw [h, HAL.out.2] at hk
              injection hk with hk
              exact .inr (by have := HSB.out; omega)⟩
          exact ⟨rfl, _, rfl, hI.step 1 rfl hL (fun p hp => by obtain ⟨-, h⟩ := hp; injection h with h; subst h; simp only [hn]) (by decide) (⟨v9, hm9⟩) (fun x hx => by first | (injection hx with hx) | cases hx), ⟨(fun _ _ => hm9), (fun _ => by simpa using Li1), hE2⟩⟩
        · intro L xs W ⟨hI, hE⟩ hL hn
          simp [invNeeds, Region.binds] at hn
          have e0 : xs 0 = .pointer (some ⟨p, 0, none⟩) := hI.val 0 (by decide) (by simp only [hn]) _ rfl
          obtain ⟨hE0, hE1, hE2⟩ := hE
          simp only [flowAct, List.zipWith_cons_cons, List.zipWith_nil_left]
          simp only [e0]
          go_wp2_with (fail)
          exact ⟨rfl, _, rfl, hI.pure 11 (by decide) (fun _ h => h) (fun x hx => by first | (injection hx with hx) | cases hx), ⟨hE0, hE1, hE2⟩⟩
        · intro L xs W ⟨hI, hE⟩ hL hn
          simp [invNeeds, Region.binds] at hn
          have e11 : xs 11 = .pointer (some ⟨p, 0, none⟩) := hI.val 11 (by decide) (by simp only [hn]) _ rfl
          obtain ⟨hE0, hE1, hE2⟩ := hE
          simp only [flowAct, List.zipWith_cons_cons, List.zipWith_nil_left]
          simp only [e11]
          go_wp2_with (fail)
          exact ⟨rfl, _, rfl, hI.pure 12 (by decide) (fun _ h => h) (fun x hx => by first | (injection hx with hx) | cases hx), ⟨hE0, hE1, hE2⟩⟩
        · intro L xs W ⟨hI, hE⟩ hL hn
          simp [invNeeds, Region.binds] at hn
          have e12 : xs 12 = .pointer (some ⟨p, 2, none⟩) := hI.val 12 (by decide) (by simp only [hn]) _ rfl
          have hr := hI.at 2 rfl hL (fun p hp => by obtain ⟨-, h⟩ := hp; injection h with h; subst h; simp only [hn])
          obtain ⟨hE0, hE1, hE2⟩ := hE
          have L10 : L 10 = true := by simp only [hn]
          have hm7 := hE0 L10 hL
          obtain ⟨va, vc, e10, -⟩ := OwnL.ls (z := (0 : Int)) iarr_size hm7.own
          obtain ⟨z1, -, z2⟩ := HC.out W hm7.tr
          obtain ⟨vm, hvm⟩ : ∃ z, (g.B ++ [g.next]).length = z := ⟨_, rfl⟩
          rw [hvm] at e10
          rw [e10] at hm7
          have HM7 := Lib.hid hm7
          clear hr hm7 hvm
          simp only [flowAct, List.zipWith_cons_cons, List.zipWith_nil_left]
          simp only [e12, e10]
          go_wp2_with (fail)
          exact ⟨rfl, undef, rfl, hI.step 2 rfl hL (fun p hp => by obtain ⟨-, h⟩ := hp; injection h with h; subst h; simp only [hn]) (by decide) (⟨W, _, HM7.out, rfl⟩) (fun x hx => by first | (injection hx with hx) | cases hx), ⟨(fun _ h => by simp at h), hE1, hE2⟩⟩
      · intro L xs W ⟨hI, hE⟩ hL
        have hdone := (hI.done hL (by decide) (by decide)).1
        obtain ⟨W3, v9, hm9, rfl⟩ : ∃ W3 v', MoreW w8 (.slice ba bm bc) (g.B ++ [g.next]) W3 v' ∧ W = W3.setCell ⟨p, 2, none⟩ v' := hdone
        have hnew := HN8.out.relist (hm9.tr.block p (HN8.out.lt (.inl rfl)) (fun hk => HN8.out.off hk rfl)) hm9.own
        have htr : Trn (lgfoot p (.slice ba bm bc)) w8 (W3.setCell ⟨p, 2, none⟩ v9) := (hm9.tr.mono (fun k hk => .inr hk)).set (.inl (.inl rfl))
        obtain ⟨⟨F, G, hd, ⟨bv', hl', rfl⟩, h1, h2, h3⟩, ht⟩ := HL8.out
        have hbv : bv' = .slice ba bm bc := by
          have e1 := hl'.cs.2.2.1
          rw [HN8.out.cs.2.2.1] at e1
          injection e1 with e1
          exact e1.symm
        subst hbv
        have hlw := Lw.log hd h1 h2 h3 ht ⟨v9, hnew, rfl⟩ htr (fun k hk => hk.elim (fun h => .inl (.inl h)) (fun h => (hm9.at9 k h).imp .inr id))
        have HLW := Lib.hid hlw
        have hcs := hnew.cs
        have f3 := hnew.fz 3
        clear hnew htr hm9 hI hE hL hd hl' h1 h2 h3 ht hlw
        simp only [flowAct, List.zipWith_cons_cons, List.zipWith_nil_left]
        generalize W3.setCell ⟨p, 2, none⟩ v9 = W5 at *
        obtain ⟨c0, c1, c2, c3, c4, c5, c6⟩ := hcs
        go_wp2
        go_ret
        rw [HS0.out]
        exact ⟨rfl, HLW.out.turn (fun k hk _ => heap_setCell_other _ _ _ _ hk) (Trn.refl.set (.inl rfl)) (fun bv hh => by rw [heap_setCell_same _ p 3 _ 70 _ hh]; rfl) rfl⟩
    · have HS0 := Lib.hid (show R = (r1, s1, g) from by rw [HS.out, if_neg hr0])
      have hrb : (r1 == 0) = false := by rw [beq_eq_false_iff_ne]; exact hr0
      go_wp2_with (go_at_call 36; (with_reducible refine (HSY.out _ HW.out).mono ?_); rintro e2 w2 ⟨rfl, hl2⟩; have HL2 := Lib.hid hl2; clear hl2)
      go_ret
      rw [HS0.out]
      exact ⟨rfl, HL2.out⟩
/-- The last segment made sure, and one begun behind it. -/
def turnL (st : Ds) (g : Lg) : Int × Ds × Lg := if (syncL st g).1 = 0 then beginL (syncL st g).2.1 (syncL st g).2.2 else syncL st g
theorem syncL_next (st : Ds) (g : Lg) : (syncL st g).2.2.next = g.next ∧ (syncL st g).2.2.B = g.B := by
  unfold syncL
  split <;> exact ⟨rfl, rfl⟩
set_option maxHeartbeats 3200000 in
theorem lturn_p {w1 W : World} {F0 G0 : Nat → Prop} {q p : Nat} {st : Ds} {g : Lg} (h : Lw w1 F0 G0 q p st g W) (hne : 0 < g.B.length) (hT : ∀ W', Trn (fun k => F0 k ∨ G0 k) w1 W' → TabI W') (h0 : -9223372036854775808 ≤ g.lastN) (h1 : g.lastN ≤ 9223372036854775807) (h2 : 0 ≤ g.next) (h3 : g.next ≤ 1000000000000) (hlen : g.B.length ≤ 100000) :
    Calls Tryz.prog 67 #[.pointer (some ⟨p, 0, none⟩)] W (fun e W' => e = .returned (.int .i64 (turnL st g).1) ∧ Lw w1 F0 G0 q p (turnL st g).2.1 (turnL st g).2.2 W') := by
  have HSY := Lib.hid (lsync_p h hne (hT W h.tr) h0 h1 h2 h3)
  obtain ⟨e1, e2⟩ := syncL_next st g
  have HBG := Lib.hid (fun (W' : World) (hw : Lw w1 F0 G0 q p (syncL st g).2.1 (syncL st g).2.2 W') => lbegin_p hw (hT W' hw.tr) (by rw [e1]; exact h2) (by rw [e1]; exact h3) (by rw [e2]; exact hlen))
  have HS := Lib.hid (show turnL st g = if (syncL st g).1 = 0 then beginL (syncL st g).2.1 (syncL st g).2.2 else syncL st g from rfl)
  obtain ⟨⟨r1, s1, g1⟩, hr⟩ : ∃ z, syncL st g = z := ⟨_, rfl⟩
  obtain ⟨⟨r2, s2, g2⟩, hr2⟩ : ∃ z, beginL s1 g1 = z := ⟨_, rfl⟩
  rw [hr] at HSY HBG HS
  simp only at HSY HBG HS
  rw [hr2] at HBG HS
  simp only at HBG
  obtain ⟨R, hR⟩ : ∃ z, turnL st g = z := ⟨_, rfl⟩
  rw [hR] at HS ⊢
  clear h hne hT h0 h1 h2 h3 hlen e1 e2 hr hr2 hR
  by_cases hr0 : r1 = 0
  · subst hr0
    have HS0 := Lib.hid (show R = (r2, s2, g2) from by rw [HS.out, if_pos rfl])
    go_enter Tryz.func67, Tryz.ntmps67
    go_wp2_with (first
      | (go_at_call 69; (with_reducible refine HSY.out.mono ?_); rintro e3 w3 ⟨rfl, hl3⟩; have HL3 := Lib.hid hl3; clear hl3)
      | (go_at_call 110; (with_reducible refine (HBG.out _ HL3.out).mono ?_); rintro e4 w4 ⟨rfl, hl4⟩; have HL4 := Lib.hid hl4; clear hl4))
    go_ret
    rw [HS0.out]
    exact ⟨rfl, HL4.out⟩
  · have HS0 := Lib.hid (show R = (r1, s1, g1) from by rw [HS.out, if_neg hr0])
    have hrb : (r1 == 0) = false := by rw [beq_eq_false_iff_ne]; exact hr0
    go_enter Tryz.func67, Tryz.ntmps67
    go_wp2_with (go_at_call 69; (with_reducible refine HSY.out.mono ?_); rintro e3 w3 ⟨rfl, hl3⟩; have HL3 := Lib.hid hl3; clear hl3)
    go_ret
    rw [HS0.out]
    exact ⟨rfl, HL3.out⟩
end Go.Proofs.YtpejojagghfjgaaGreatDoor
end

section
namespace Go.Proofs.YtpejojagghfjgaaGreatDoor
open Go.RowKit
set_option linter.unusedVariables false

abbrev W32 := BitVec 32

/-- The polynomial. -/
def polyS : W32 := 79764919#32

/-- What a bit of 0 makes of a remainder. -/
def upS (r : W32) : W32 := (r <<< 1) ^^^ (if r.msb then polyS else 0#32)

/-- n bits of 0. -/
def ups : Nat → W32 → W32
  | 0, r => r
  | n + 1, r => ups n (upS r)

theorem ups_add (m n : Nat) (a : W32) : ups (m + n) a = ups n (ups m a) := by
  induction m generalizing a with
  | zero => rw [Nat.zero_add]; rfl
  | succ m ih => rw [Nat.succ_add, ups, ih]; rfl
theorem ups_succ (n : Nat) (a : W32) : ups (n + 1) a = upS (ups n a) := by rw [ups_add n 1]; rfl
/-- A byte as a word. -/
def wd (c : UInt8) : W32 := BitVec.ofNat 32 c.toNat

/-- A remainder to which a byte came. -/
def comeS (r : W32) (c : UInt8) : W32 := ups 8 (r ^^^ (wd c <<< 24))

/-- A remainder to which bytes came. -/
def crcS (r : W32) (l : List UInt8) : W32 := l.foldl comeS r

/-- The sum of what has the sum s, and l behind it. -/
def moreS (s : W32) (l : List UInt8) : W32 := ~~~ (crcS (~~~ s) l)
def sumS (l : List UInt8) : W32 := moreS 0#32 l

theorem crcS_append (r : W32) (l m : List UInt8) : crcS r (l ++ m) = crcS (crcS r l) m := List.foldl_append ..

theorem not_xor32 (a : W32) : ~~~ a = a ^^^ BitVec.allOnes 32 := by rw [BitVec.xor_allOnes]

/-! ### Products -/
/-! ### Bursts -/
/-- Four bytes of a word, the highest first. -/
def four (x : W32) : List UInt8 := [UInt8.ofNat (x.toNat / 16777216 % 256), UInt8.ofNat (x.toNat / 65536 % 256), UInt8.ofNat (x.toNat / 256 % 256), UInt8.ofNat (x.toNat % 256)]

end Go.Proofs.YtpejojagghfjgaaGreatDoor
end

section
namespace Go.Proofs.YtpejojagghfjgaaGreatDoor
open Go.RowKit
set_option linter.unusedVariables false

/-- A word as the walk's number. -/
def I (x : W32) : Int := (x.toNat : Int)
theorem I_bd (x : W32) : 0 ≤ I x ∧ I x ≤ 4294967295 := by unfold I; have := x.isLt; omega
theorem I_xor (x y : W32) : bits .xor .u32 (I x) (I y) = I (x ^^^ y) := by
  unfold I; rw [u32_xor_nat _ _ (by have := x.isLt; omega) (by have := y.isLt; omega), BitVec.toNat_xor]
theorem I_and (x y : W32) : bits .and .u32 (I x) (I y) = I (x &&& y) := by
  unfold I; rw [u32_and_nat _ _ (by have := x.isLt; omega) (by have := y.isLt; omega), BitVec.toNat_and]
theorem I_not (x : W32) : bits .xor .u32 4294967295 (I x) = I (~~~ x) := by
  have : (4294967295 : Int) = I (BitVec.allOnes 32) := by decide
  rw [this, I_xor, BitVec.xor_comm, ← not_xor32]
theorem I_not' (x : W32) : bits .xor .u32 IntKind.u32.max (I x) = I (~~~ x) := by
  rw [show IntKind.u32.max = 4294967295 by decide]; exact I_not x
theorem I_shl1 (x : W32) : I x * (2 : Int) % (4294967296 : Int) = I (x <<< 1) := by
  unfold I; rw [BitVec.toNat_shiftLeft]; simp [Nat.shiftLeft_eq]
theorem I_top (x : W32) : I x / 2147483648 = if x.msb then 1 else 0 := by
  unfold I; rw [BitVec.msb_eq_decide]
  have := x.isLt
  split <;> simp_all <;> omega
theorem I_poly : (79764919 : Int) = I polyS := by decide

theorem up_val (x : W32) : bits .xor .u32 (I x * 2 % 4294967296) (bits .and .u32 79764919 (-(I x / 2147483648) % 4294967296)) = I (upS x) := by
  rw [I_shl1, I_top, I_poly]
  unfold upS
  cases x.msb with
  | true =>
    rw [show (-(if true = true then 1 else 0 : Int) % 4294967296) = I (BitVec.allOnes 32) by decide, I_and, I_xor, BitVec.and_allOnes, if_pos rfl]
  | false =>
    rw [show (-(if false = true then 1 else 0 : Int) % 4294967296) = I 0#32 by decide, I_and, I_xor]; simp

/-- Byte i of l. -/
def byt (l : List UInt8) (i : Nat) : UInt8 := l.getD i 0
theorem by8_byt (l : List UInt8) (i : Nat) : by8 l i = ((byt l i).toNat : Int) := rfl

theorem come_val (r : W32) (c : UInt8) (cv : Int) (h : cv = (c.toNat : Int)) : bits .xor .u32 (I r) (cv * 16777216) = I (r ^^^ wd c <<< 24) := by
  have : cv * (16777216 : Int) = I (wd c <<< 24) := by
    subst h
    unfold I wd
    have := c.toNat_lt
    rw [BitVec.toNat_shiftLeft, BitVec.toNat_ofNat, Nat.shiftLeft_eq]; omega
  rw [this, I_xor]

/-- The first k bytes of l have come. -/
def crcK (r : W32) (l : List UInt8) (k : Nat) : W32 := crcS r (l.take k)
theorem crcK_zero (r : W32) (l : List UInt8) : crcK r l 0 = r := by simp [crcK, crcS]
theorem crcK_all (r : W32) (l : List UInt8) : crcK r l l.length = crcS r l := by simp [crcK]
theorem crcK_succ (r : W32) (l : List UInt8) (k : Nat) (h : k < l.length) : crcK r l (k + 1) = comeS (crcK r l k) (byt l k) := by
  unfold crcK; rw [take_snoc8 l k h, crcS_append]; rfl
end Go.Proofs.YtpejojagghfjgaaGreatDoor
end

section
namespace Go.Proofs.YtpejojagghfjgaaGreatDoor
open Go.RowKit
set_option linter.unusedVariables false

/-- A word comes back, and the world is as it was. -/
def RetW (x : W32) (w : World) (e : Ending) (w' : World) : Prop := e = .returned (.int .u32 (I x)) ∧ w = w'
theorem RetW.mk {a : Int} {x : W32} {w : World} (h : a = I x) : RetW x w (.returned (.int .u32 a)) w := by subst h; exact ⟨rfl, rfl⟩

set_option maxHeartbeats 400000 in
theorem up_c (x : W32) (w : World) : Calls Tryz.prog 191 #[.int .u32 (I x)] w (RetW (upS x) w) := by
  have h := I_bd x
  go_enter Tryz.func191, Tryz.ntmps191
  go_wp2
  go_ret
  exact RetW.mk (up_val x)

set_option maxHeartbeats 400000 in
theorem come_c (r : W32) (c : UInt8) (cv : Int) (hcv : cv = (c.toNat : Int)) (w : World) : Calls Tryz.prog 185 #[.int .u32 (I r), .int .u8 cv] w (RetW (comeS r c) w) := by
  have h := I_bd r
  have hc : 0 ≤ cv ∧ cv ≤ 255 := by have := c.toNat_lt; omega
  have hv := come_val r c cv hcv
  clear hcv
  go_enter Tryz.func185, Tryz.ntmps185
  go_wp2
  go_loop [0, 10] (fun v i => ∃ k : Nat, k ≤ 8 ∧ i = .int .i64 k ∧ v = .int .u32 (I (ups k (r ^^^ wd c <<< 24)))) (fun _ i => 8 - (intOf i).toNat)
  case atStart => exact ⟨0, by omega, rfl, rfl⟩
  case round =>
    obtain ⟨k, hk, rfl, rfl⟩ := hrel
    by_cases hlt : k < 8
    · go_wp2_with (go_at_call 191; refine (up_c _ _).mono ?_; rintro e w' ⟨rfl, rfl⟩)
      go_round
      case rel => exact ⟨k + 1, by omega, by go_num, by rw [ups_succ]⟩
      case measure => simp [intOf]; omega
    · obtain rfl : k = 8 := by omega
      go_wp2
      go_ret
      exact RetW.mk rfl

set_option maxHeartbeats 800000 in
theorem more_c (s : W32) {w : World} {a : Option Addr} {n cap : Nat} {l : List UInt8} (hb : Bys w a n cap l) : Calls Tryz.prog 170 #[.int .u32 (I s), .slice a n cap] w (RetW (moreS s l) w) := by
  obtain ⟨hlen, hle, hmax, hadr⟩ := hb
  have h := I_bd s
  have hno := I_not' s
  have hsg : IntKind.u32.signed = false := rfl
  have hlim : n ≤ 9223372036854775807 := by omega
  have HN := Lib.hid hlen
  clear hlen
  go_enter Tryz.func170, Tryz.ntmps170
  go_wp2
  go_loop [5, 12] (fun v i => ∃ k : Nat, k ≤ n ∧ i = .int .i64 k ∧ v = .int .u32 (I (crcK (~~~ s) l k))) (fun _ i => n - (intOf i).toNat)
  case atStart => exact ⟨0, by omega, rfl, by rw [crcK_zero]⟩
  case round =>
    obtain ⟨k, hk, rfl, rfl⟩ := hrel
    by_cases hlt : k < n
    · rcases hadr with h0 | ⟨b, off, rfl, hc⟩
      · omega
      have hcell := hc k hlt
      have h8 := by8_bd l k
      have HS := Lib.hid (crcK_succ (~~~ s) l k (by rw [HN.out]; exact hlt))
      clear hc
      go_wp2_with (go_at_call 185; refine (come_c _ (byt l k) _ (by8_byt l k) _).mono ?_; rintro e w' ⟨rfl, rfl⟩)
      go_round
      case rel => exact ⟨k + 1, by omega, by go_num, by rw [HS.out]⟩
      case measure => simp [intOf]; omega
    · obtain rfl : k = n := by omega
      clear hadr
      have hn2 := Lib.hid (I_not' (crcK (~~~ s) l k))
      go_wp2
      go_ret
      exact RetW.mk (by rw [hn2.out]; unfold moreS; rw [← crcK_all, HN.out])

set_option maxHeartbeats 400000 in
theorem sum_c {w : World} {a : Option Addr} {n cap : Nat} {l : List UInt8} (hb : Bys w a n cap l) : Calls Tryz.prog 143 #[.slice a n cap] w (RetW (sumS l) w) := by
  have h0 : (0 : Int) = I 0#32 := by decide
  have hm := more_c 0#32 hb
  rw [← h0] at hm
  have HM := Lib.hid hm
  clear hm h0
  go_enter Tryz.func143, Tryz.ntmps143
  go_wp2_with (go_at_call 170; refine (HM.out).mono ?_; rintro e w' ⟨rfl, rfl⟩)
  go_ret
  exact RetW.mk rfl

end Go.Proofs.YtpejojagghfjgaaGreatDoor
end

section
namespace Go.Proofs.YtpejojagghfjgaaGreatDoor
open Go.RowKit

/-- What a function tells that makes bytes: a slice of its own. -/
def BytesPost (l : List UInt8) (w : World) (e : Ending) (w' : World) : Prop := ∃ v, e = .returned v ∧ OwnB w' w.heap.size 5 v l ∧ Below w.heap.size w w'

theorem Tryz.info5 : (Tryz.prog.info? 5).map (fun i => (i.zero, i.size, i.bytes)) = some (some (.int .u8 0), 1, 1) := by kernel_rfl
end Go.Proofs.YtpejojagghfjgaaGreatDoor
end

section
namespace Go.Proofs.YtpejojagghfjgaaGreatDoor
set_option maxRecDepth 20000
open Go.RowKit
set_option linter.unusedVariables false

/-- Where laySum's loop stands: k of the four bytes are laid. -/
def layK (l1 l4 : List UInt8) (x : W32) (k : Nat) : List UInt8 := l1 ++ ((four x).take k ++ l4.drop k)

theorem layK_zero (l1 l4 : List UInt8) (x : W32) : layK l1 l4 x 0 = l1 ++ l4 := by simp [layK]
theorem layK_four (l1 l4 : List UInt8) (x : W32) (h : l4.length = 4) : layK l1 l4 x 4 = l1 ++ four x := by
  unfold layK; rw [List.drop_of_length_le (by omega), List.take_of_length_le (by simp [four])]; simp

theorem layK_succ (l1 l4 : List UInt8) (x : W32) (k : Nat) (hk : k < 4) (h : l4.length = 4) :
    (u8v (layK l1 l4 x k)).set (l1.length + k) (.int .u8 (by8 (four x) k)) = u8v (layK l1 l4 x (k + 1)) := by
  match l4, h with
  | [a, b, c, d], _ =>
    unfold layK u8v
    simp only [List.map_append]
    rw [List.set_append, List.length_map, if_neg (by omega), show l1.length + k - l1.length = k by omega]
    congr 1
    rcases (by omega : k = 0 ∨ k = 1 ∨ k = 2 ∨ k = 3) with rfl | rfl | rfl | rfl <;> rfl
theorem layK_length (l1 l4 : List UInt8) (x : W32) (k : Nat) (hk : k ≤ 4) (h : l4.length = 4) : (layK l1 l4 x k).length = l1.length + 4 := by
  unfold layK; simp [four]; omega

theorem four_val (x : W32) (k : Nat) (hk : k < 4) : by8 (four x) k = I x / 2 ^ (8 * (3 - k)) % 256 := by
  unfold by8 four I
  rcases (by omega : k = 0 ∨ k = 1 ∨ k = 2 ∨ k = 3) with rfl | rfl | rfl | rfl
  all_goals simp [List.getD]

/-- What laySum leaves. -/
def LayPost (B g n cap : Nat) (l1 : List UInt8) (x : W32) (w : World) (e : Ending) (w' : World) : Prop :=
  e = .returned (.tuple #[]) ∧ w'.ownsRow B 5 1 (.slice (some ⟨g, 0, none⟩) n cap) n (u8v (l1 ++ four x)) ∧ Below g w w' ∧ w.grownBy w' (some g)

set_option maxHeartbeats 800000 in
theorem lay_c {w : World} {B g n cap c2 : Nat} {l1 l4 : List UInt8} (x : W32) (h4 : l4.length = 4) (hn : n = l1.length + 4) (hg : g ≤ w.heap.size) (hown : w.ownsRow B 5 1 (.slice (some ⟨g, 0, none⟩) n cap) n (u8v (l1 ++ l4))) :
    Calls Tryz.prog 142 #[.slice (some ⟨g, l1.length, none⟩) 4 c2, .int .u32 (I x)] w (LayPost B g n cap l1 x w) := by
  have hx := I_bd x
  go_enter Tryz.func142, Tryz.ntmps142
  go_wp2
  go_loopw [5] (fun i wr => ∃ k : Nat, k ≤ 4 ∧ i = .int .i64 k ∧ wr.ownsRow B 5 1 (.slice (some ⟨g, 0, none⟩) n cap) n (u8v (layK l1 l4 x k)) ∧ w.grownBy wr (some g)) (fun i _ => 4 - (intOf i).toNat)
  case atStart => exact ⟨0, by omega, rfl, by rw [layK_zero]; exact hown, World.grownBy.refl _ _⟩
  case round =>
    obtain ⟨k, hk, rfl, hown2, hgr⟩ := hrel
    by_cases hlt : k < 4
    · have hcell := hown2.cellAt (l1.length + k) (by rw [hn]; omega)
      rw [u8v_get _ _ (by rw [layK_length _ _ _ _ hk h4]; omega)] at hcell
      have hfz := hown2.frozenAt (l1.length + k)
      have hv := four_val x k hlt
      generalize by8 (layK l1 l4 x k) (l1.length + k) = old at hcell
      rcases (by omega : k = 0 ∨ k = 1 ∨ k = 2 ∨ k = 3) with rfl | rfl | rfl | rfl
      · have hv2 : I x / 16777216 = by8 (four x) 0 := by rw [hv]; omega
        have hs := hown2.stored (l1.length) (.int .u8 (by8 (four x) 0))
        have hl := layK_succ l1 l4 x 0 (by omega) h4
        rw [show l1.length = l1.length + 0 by rfl, hl, Nat.add_zero] at hs
        have HS := Lib.hid hs
        have HV := Lib.hid hv2
        clear hs hl hv hv2 hown hown2
        simp only [Nat.add_zero] at hcell hfz
        go_wp2
        go_roundw
        case rel => exact ⟨1, by omega, rfl, by rw [HV.out]; exact HS.out.1, by rw [HV.out]; exact grown_trans hgr HS.out.2⟩
        case measure => simp [intOf]
      · have hv2 : I x / 65536 % 256 = by8 (four x) 1 := by rw [hv]; omega
        have hs := hown2.stored (l1.length + 1) (.int .u8 (by8 (four x) 1))
        have hl := layK_succ l1 l4 x 1 (by omega) h4
        rw [hl] at hs
        have HS := Lib.hid hs
        have HV := Lib.hid hv2
        clear hs hl hv hv2 hown hown2
        go_wp2
        go_roundw
        case rel => exact ⟨2, by omega, rfl, by rw [HV.out]; exact HS.out.1, by rw [HV.out]; exact grown_trans hgr HS.out.2⟩
        case measure => simp [intOf]
      · have hv2 : I x / 256 % 256 = by8 (four x) 2 := by rw [hv]; omega
        have hs := hown2.stored (l1.length + 2) (.int .u8 (by8 (four x) 2))
        have hl := layK_succ l1 l4 x 2 (by omega) h4
        rw [hl] at hs
        have HS := Lib.hid hs
        have HV := Lib.hid hv2
        clear hs hl hv hv2 hown hown2
        go_wp2
        go_roundw
        case rel => exact ⟨3, by omega, rfl, by rw [HV.out]; exact HS.out.1, by rw [HV.out]; exact grown_trans hgr HS.out.2⟩
        case measure => simp [intOf]
      · have hv2 : I x % 256 = by8 (four x) 3 := by rw [hv]; omega
        have hs := hown2.stored (l1.length + 3) (.int .u8 (by8 (four x) 3))
        have hl := layK_succ l1 l4 x 3 (by omega) h4
        rw [hl] at hs
        have HS := Lib.hid hs
        have HV := Lib.hid hv2
        clear hs hl hv hv2 hown hown2
        go_wp2
        go_roundw
        case rel => exact ⟨4, by omega, rfl, by rw [HV.out]; exact HS.out.1, by rw [HV.out]; exact grown_trans hgr HS.out.2⟩
        case measure => simp [intOf]
    · obtain rfl : k = 4 := by omega
      go_wp2
      go_end0
      exact ⟨rfl, by rw [← layK_four l1 l4 x h4]; exact hown2, grown_below hgr hg, hgr⟩

/-- Bytes with their sum behind them. -/
def fixS (l : List UInt8) : List UInt8 := l ++ four (sumS l)
theorem fixS_length (l : List UInt8) : (fixS l).length = l.length + 4 := by simp [fixS, four]

def zeros4 : List UInt8 := [0, 0, 0, 0]

theorem own_copied4 {w : World} {B g : Nat} {l : List UInt8} (hB : B ≤ g) (hm : l.length ≤ 1000000)
    (h : w.heap[g]? = some (.cells (splice (List.replicate (l.length + 4) (Value.int .u8 0)) 0 (u8v l)).toArray 5 (0, 0))) :
    w.ownsRow B 5 1 (.slice (some ⟨g, 0, none⟩) (l.length + 4) (l.length + 4)) (l.length + 4) (u8v (l ++ zeros4)) := by
  have e : splice (List.replicate (l.length + 4) (Value.int .u8 0)) 0 (u8v l) = u8v (l ++ zeros4) := by
    unfold splice
    rw [u8v_append, u8v_length]
    simp [u8v, zeros4]
  rw [e] at h
  refine ⟨by rw [u8v_length]; simp [zeros4], .inr ⟨g, _, _, rfl, hB, h, Nat.le_refl _, by unfold maxLen; omega, ?_, ?_⟩⟩
  · simp [u8v_length, zeros4]
  · simp only []
    rw [List.take_of_length_le (by simp [u8v_length, zeros4])]

set_option maxHeartbeats 1600000 in
theorem fix_c {w : World} {a : Option Addr} {n cap : Nat} {l : List UInt8} (hb : Bys w a n cap l) (hn : n ≤ 1000000) : Calls Tryz.prog 113 #[.slice a n cap] w (BytesPost (fixS l) w) := by
  obtain ⟨i0, hi, hz0, hz1, hz2⟩ := info_parts Tryz.info5
  obtain rfl : l.length = n := hb.len
  go_enter Tryz.func113, Tryz.ntmps113
  go_wp2_with (at_make; refine wpList_make_full _ rfl _ _ 34 rfl w.heap.size 5 i0 (.int .u8 0) 1 Tryz.underlying34 hi hz0 hz1 .i64 .i64 _ _ (l.length + 4) rfl rfl ?c1 ?c2 ?c3 ?c4 ?c5 ?_)
  case c1 => simp
  case c2 => simp
  case c3 => rw [hz2]; omega
  case c4 => unfold maxLen; omega
  case c5 => exact Nat.le_refl _
  intro w1 hown hgr
  have hbel : Below w.heap.size w w1.drew := ((Below.refl _ _).grown hgr (Nat.le_refl _) (fun k hk => by cases hk)).drew
  have hheap : w1.drew.heap[w.heap.size]? = some (.cells (List.replicate (l.length + 4) (Value.int .u8 0)).toArray 5 (0, 0)) := heap_of_made hown
  have hsz : (Tryz.prog.info? 5).map (·.size) = some 1 := by rw [hi]; simp [hz1]
  have hcl : (u8v l).length = l.length := u8v_length l
  have hpos : 0 < (u8v l).length → ∃ ad, a = some ad ∧ ∀ j v, (u8v l)[j]? = some v → w1.drew.cell? (ad.add j) = some v := by
    intro hp
    rw [hcl] at hp
    exact (hb.below hbel).cells hp
  have hmin : (u8v l).length = Nat.min l.length (l.length + 4) := by rw [hcl]; exact (Nat.min_eq_left (by omega)).symm
  have hfit : 0 + (u8v l).length ≤ (List.replicate (l.length + 4) (Value.int .u8 0)).length := by rw [hcl]; simp
  have HP := Lib.hid hpos
  have HH := Lib.hid hheap
  have HC := Lib.hid hcl
  have HM := Lib.hid hmin
  clear hown hgr hheap hmin hpos
  have hle : (l.length : Int) ≤ (l.length : Int) + 4 := by omega
  go_wp2
  go_region_law (first
    | (refine step_copy_splice rfl (.tmp 9) (.tmp 10) 34 34 rfl 5 Tryz.underlying34 hsz (some ⟨w.heap.size, 0, none⟩) a (l.length + 4) (l.length + 4) l.length cap (by simp [Act.eval, Act.put]) (by simp [Act.eval, Act.put]) w.heap.size 0 (List.replicate (l.length + 4) (Value.int .u8 0)) 5 HH.out (u8v l) HM.out (fun hp => ⟨rfl, HP.out hp⟩) hfit (u8v_one l) w.heap.size w hbel (Nat.le_refl _) ?_; intro w4 hg4 hb4)
    | (go_simp; go_at_call 143; refine (sum_c (hb.below (by assumption))).mono ?_; rintro e w' ⟨rfl, rfl⟩)
    | (go_simp; go_at_call 142; refine (lay_c (sumS l) rfl rfl (by assumption : Below w.heap.size w _).size (own_copied4 (Nat.le_refl _) hn (by assumption : Hid _).out)).mono ?_; rintro e w' ⟨rfl, ho5, hb5, hg5⟩))
  go_wp2
  go_ret
  exact ⟨_, rfl, by unfold OwnB; rw [fixS_length]; exact ho5, hb4.trans hb5⟩

end Go.Proofs.YtpejojagghfjgaaGreatDoor
end

section
namespace Go.Proofs.YtpejojagghfjgaaGreatDoor
set_option maxRecDepth 20000
open Go.RowKit
set_option linter.unusedVariables false

/-- A body's frame; nothing, if the body is too long. -/
def wrapS (l : List UInt8) : List UInt8 := if 1048576 < l.length then [] else fixS (([181] ++ numB (l.length : Int)) ++ l)
theorem wrapS_short {l : List UInt8} (h : l.length ≤ 1048576) : wrapS l = fixS (([181] ++ numB (l.length : Int)) ++ l) := by unfold wrapS; rw [if_neg (by omega)]
end Go.Proofs.YtpejojagghfjgaaGreatDoor
end

section
namespace Go.Proofs.YtpejojagghfjgaaGreatDoor
open Go.RowKit
set_option linter.unusedVariables false

theorem numB_some {n : Int} {k : Nat} (h : sizeS n = (k : Int)) : numB n = numK n k := by unfold numB; rw [h]; rfl

set_option maxRecDepth 100000 in
set_option maxHeartbeats 3200000 in
theorem put_some {w : World} {a : Option Addr} {m cap : Nat} {l : List UInt8} (hb : Bys w a m cap l) (hn : m ≤ 1000000) (n : Int) (h0 : 0 ≤ n) (h1 : n ≤ 4611686018427387903) (hT : TabW w) :
    Calls Tryz.prog 114 #[.slice a m cap, .int .i64 n] w (BytesPost (l ++ numB n) w) := by
  obtain ⟨i0, hi, hz0, hz1, hz2⟩ := info_parts Tryz.info5
  obtain rfl : l.length = m := hb.len
  obtain ⟨k, hs, hk, hlow⟩ := sizeS_cases h0 h1
  have HB := Lib.hid (numB_some hs)
  have hsz : (Tryz.prog.info? 5).map (·.size) = some 1 := by rw [hi]; simp [hz1]
  have hk8 : 1 ≤ k ∧ k ≤ 8 := by omega
  have HS := Lib.hid hs
  have HK := Lib.hid hk
  have HL := Lib.hid hlow
  clear hs hk hlow
  have hkz : (0 : Int) < (k : Int) ∧ (k : Int) ≤ 8 := by omega
  have hle : (l.length : Int) ≤ (l.length : Int) + (k : Int) := by omega
  have hcq : ¬ l.length + k = l.length := by omega
  go_enter Tryz.func114, Tryz.ntmps114
  go_wp2_with (first
    | (go_at_call 144; refine (size_c n (by omega) (by omega) _).mono ?_; rintro e w' ⟨rfl, rfl⟩; rw [HS.out])
    | (at_make; refine wpList_make_full _ rfl _ _ 34 rfl w.heap.size 5 i0 (.int .u8 0) 1 Tryz.underlying34 hi hz0 hz1 .i64 .i64 _ _ (l.length + k) rfl rfl ?c1 ?c2 ?c3 ?c4 ?c5 ?_))
  case c1 => simp
  case c2 => simp
  case c3 => rw [hz2]; omega
  case c4 => unfold maxLen; omega
  case c5 => exact Nat.le_refl _
  intro w1 hown hgr
  have hbel : Below w.heap.size w w1 := (Below.refl _ _).grown hgr (Nat.le_refl _) (fun k hk => by cases hk)
  have HH := Lib.hid (show w1.heap[w.heap.size]? = some (.cells (List.replicate (l.length + k) (Value.int .u8 0)).toArray 5 (0, 0)) from heap_of_made hown)
  have hcl : (u8v l).length = l.length := u8v_length l
  have HP := Lib.hid (show 0 < (u8v l).length → ∃ ad, a = some ad ∧ ∀ j v, (u8v l)[j]? = some v → w1.cell? (ad.add j) = some v from fun hp => (hb.below hbel).cells (by rw [hcl] at hp; exact hp))
  have HM := Lib.hid (show (u8v l).length = Nat.min l.length (l.length + k) by rw [hcl]; exact (Nat.min_eq_left (by omega)).symm)
  have hfit : 0 + (u8v l).length ≤ (List.replicate (l.length + k) (Value.int .u8 0)).length := by rw [hcl]; simp
  clear hown hgr
  go_wp2_with (with_reducible refine wpList_copy_splice rfl (.tmp 17) (.tmp 18) 34 34 rfl 5 Tryz.underlying34 hsz (some ⟨w.heap.size, 0, none⟩) a (l.length + k) (l.length + k) l.length cap rfl rfl w.heap.size 0 (List.replicate (l.length + k) (Value.int .u8 0)) 5 HH.out (u8v l) HM.out (fun hp => ⟨rfl, HP.out hp⟩) hfit (u8v_one l) w.heap.size w hbel (Nat.le_refl _) ?_; intro w4 hg4 hb4)
  have ho := own_copied (Nat.le_refl w.heap.size) (by omega) hg4.out
  clear hg4 hfit hcl hbel
  go_loopw [22] (fun i wr => ∃ j : Nat, j ≤ k ∧ i = .int .i64 j ∧ wr.ownsRow w.heap.size 5 1 (.slice (some ⟨w.heap.size, 0, none⟩) (l.length + k) (l.length + k)) (l.length + k) (u8v (layN l n k j)) ∧ w4.grownBy wr (some w.heap.size)) (fun i _ => k - (intOf i).toNat)
  case atStart => exact ⟨0, by omega, rfl, by rw [layN_zero]; exact ho, World.grownBy.refl _ _⟩
  case round =>
    obtain ⟨j, hj, rfl, hown2, hgr⟩ := hrel
    by_cases hlt : j < k
    · have hcell := hown2.cellAt (l.length + (k - 1 - j)) (by omega)
      rw [u8v_get _ _ (by rw [layN_length _ _ _ _ hj]; omega)] at hcell
      have hfz := hown2.frozenAt (l.length + (k - 1 - j))
      have HV := Lib.hid (rawAt_val n h0 j)
      generalize by8 (layN l n k j) (l.length + (k - 1 - j)) = old at hcell
      have hst := hown2.stored (l.length + (k - 1 - j)) (.int .u8 ((rawAt n j).toNat : Int))
      rw [u8v_set, layN_succ l n k j hlt] at hst
      have HST := Lib.hid hst
      have hj8 : 0 ≤ (k : Int) - 1 - (j : Int) ∧ (k : Int) - 1 - (j : Int) < (k : Int) ∧ (j : Int) ≤ 7 ∧ 0 ≤ (j : Int) := by omega
      clear hst hown2
      go_wp2
      go_roundw
      case rel => exact ⟨j + 1, by omega, by go_num, by rw [HV.out]; exact HST.out.1, by rw [HV.out]; exact grown_trans hgr HST.out.2⟩
      case measure => simp [intOf]; omega
    · obtain rfl : j = k := by omega
      have hcell := hown2.cellAt l.length (by omega)
      rw [layN_all, u8v_get _ _ (by simp [rawB_length]; omega)] at hcell
      have e0 : by8 (l ++ rawB n j) l.length = ((rawAt n (j - 1)).toNat : Int) := by
        rw [by8_byt8]
        have := rawB_get n j 0 (by omega)
        rw [Nat.sub_zero] at this
        rw [← this]
        unfold byt8
        rw [List.getD_eq_getElem?_getD, List.getElem?_append_right (Nat.le_refl _), Nat.sub_self, List.getD_eq_getElem?_getD]
      rw [e0] at hcell
      have hfz := hown2.frozenAt l.length
      have HV := Lib.hid (mark_val n j HK.out HL.out)
      have hbr : Below w.heap.size w wr.drew := (hb4.trans ⟨hgr.os, hgr.tape, hgr.output, hgr.size, fun i hi => hgr.block i (by have := hb4.size; omega) (by simp; omega)⟩).drew
      have hTd := hT.below hbr
      have hst := (World.ownsRow.drew hown2).stored l.length (.int .u8 ((UInt8.ofNat (n.toNat / 256 ^ (j - 1) % 256 + markS j)).toNat : Int))
      rw [u8v_set, layN_all, numK_set l n j (by omega)] at hst
      have HST := Lib.hid hst
      have hx := (rawAt n (j - 1)).toNat_lt
      obtain ⟨cv, hcv⟩ : ∃ cv : Int, cv = ((rawAt n (j - 1)).toNat : Int) := ⟨_, rfl⟩
      rw [← hcv] at hcell HV
      have hcv8 : 0 ≤ cv ∧ cv ≤ 255 := by omega
      clear hst hown2 e0 hcv hx
      go_wp2
      go_region_with (go_at_call 145; refine (mark_c j HK.out ?_).mono ?_; exact hTd; rintro e w' ⟨rfl, rfl⟩)
      all_goals go_wp2
      all_goals go_ret
      all_goals refine ⟨_, rfl, ?_, (hbr.setCell (p := ⟨w.heap.size, l.length, none⟩) (Nat.le_refl _) _)⟩
      all_goals (rw [HV.out, HB.out]; unfold OwnB; rw [List.length_append, numK_length]; exact HST.out.1)
end Go.Proofs.YtpejojagghfjgaaGreatDoor
end

section
namespace Go.Proofs.YtpejojagghfjgaaGreatDoor
open Go.RowKit
set_option linter.unusedVariables false

theorem one_bys (w : World) (e : TypeId) (x : Int) (c : UInt8) (h : x = (c.toNat : Int)) : Bys (w.alloc (.cells #[.int .u8 x] e)) (some ⟨w.heap.size, 0, none⟩) 1 1 [c] := by
  subst h
  refine ⟨rfl, Nat.le_refl _, by omega, .inr ⟨w.heap.size, 0, rfl, fun i hi => ?_⟩⟩
  obtain rfl : i = 0 := by omega
  unfold World.cell?
  rw [heap_alloc_new]
  rfl

/-- Where the loop stands: j of the number's bytes are appended. -/
def PutAt (l : List UInt8) (n : Int) (k j : Nat) (w : World) (v : Value) (wr : World) : Prop :=
  OwnB wr w.heap.size 5 v (l ++ (numK n k).take j) ∧ Below w.heap.size w wr
theorem PutAt.next {l : List UInt8} {n : Int} {k j : Nat} {w wr w1 : World} {v v' : Value} {o : Obj} (hj : j < k) (h : PutAt l n k j w v wr)
    (ho : OwnB w1 w.heap.size 5 v' (l ++ ((numK n k).take j ++ [byt8 (numK n k) j]))) (hg : (wr.alloc o).grownBy w1 v.ownBlock) : PutAt l n k (j + 1) w v' w1 := by
  refine ⟨?_, (h.2.alloc h.2.size _).grown hg (by have := h.2.size; simp; omega) (fun q hq => (h.1.lt q hq).1)⟩
  have := take_snoc8 (numK n k) j (by rw [numK_length]; exact hj)
  rw [this]
  exact ho

end Go.Proofs.YtpejojagghfjgaaGreatDoor
end

section
namespace Go.Proofs.YtpejojagghfjgaaGreatDoor
open Go.RowKit
set_option linter.unusedVariables false

set_option maxRecDepth 100000 in
set_option maxHeartbeats 800000 in
theorem wrap_c {w : World} {a : Option Addr} {n cap : Nat} {l : List UInt8} (hb : Bys w a n cap l) (hn : n ≤ 100000) (hT : TabW w) :
    Calls Tryz.prog 65 #[.slice a n cap] w (BytesPost (wrapS l) w) := by
  obtain ⟨i0, hi, hz0, hz1, hz2⟩ := info_parts Tryz.info5
  obtain rfl : l.length = n := hb.len
  have hd : decide ((1048576 : Int) < (l.length : Int)) = false := by simp; omega
  have hb1 : Bys (w.alloc (.cells #[.int .u8 181] 5)) (some ⟨w.heap.size, 0, none⟩) 1 1 [181] := one_bys w 5 181 181 rfl
  have hal : Below w.heap.size w (w.alloc (.cells #[.int .u8 181] 5)) := (Below.refl _ _).alloc (Nat.le_refl _) _
  have hTa := hT.below hal
  have hW := wrapS_short (l := l) (by omega)
  have hsz : w.heap.size ≤ (w.alloc (.cells #[.int .u8 181] 5)).heap.size := by simp
  obtain ⟨k, hkk, hk9⟩ : ∃ k, [181] ++ numB (l.length : Int) = k ∧ k.length ≤ 9 := ⟨_, rfl, by have := numB_length (l.length : Int); simp; omega⟩
  rw [hkk] at hW
  have HW := Lib.hid hW
  have HK := Lib.hid hkk
  have hlk : k.length + l.length ≤ 140737488355328 := by omega
  have hlf : k.length + l.length ≤ 1000000 := by omega
  clear hW hkk
  go_enter Tryz.func65, Tryz.ntmps65
  go_wp2_with (first
    | (go_at_call 114; refine (put_some hb1 (by omega) (l.length : Int) (by omega) (by omega) hTa).mono ?_; rintro e w1 ⟨v1, rfl, ho1, hbv1⟩; rw [HK.out] at ho1; have hbb := hb.below (hal.trans (hbv1.mono hsz)))
    | (at_builtin; refine wpList_append_bys rfl (.tmp 9) (.tmp 10) 34 rfl Tryz.underlying34 hi hz0 hz1 hz2 rfl rfl ho1 rfl hbb hlk hbv1.size ?_; intro v2 w2 ho2 hg2; obtain ⟨av2, c2, hv2, hb2⟩ := ho2.bys; rw [List.length_append] at hv2 hb2; subst hv2)
    | (go_at_call 113; refine (fix_c hb2 hlf).mono ?_; rintro e w3 ⟨v3, rfl, ho3, hbv3⟩))
  go_ret
  have b2 : Below w.heap.size w w2 := (hal.trans (hbv1.mono (by simp))).grown hg2 (by have := hbv1.size; simp at this; omega) (fun k hk => by have := (ho1.lt k hk).1; simp at this; omega)
  exact ⟨v3, rfl, by rw [HW.out]; exact ho3.mono b2.size, b2.trans (hbv3.mono b2.size)⟩

end Go.Proofs.YtpejojagghfjgaaGreatDoor
end

section
namespace Go.Proofs.YtpejojagghfjgaaGreatDoor
open Go.RowKit Go Go.Sort Go.Maps Go.WideMaps
set_option linter.unusedVariables false
set_option maxRecDepth 20000

/-- A log and its disk, apart, laid since w0. -/
def Wg (w0 : World) (q p : Nat) (st : Ds) (g : Lg) (W : World) : Prop := ∃ F G, Dk W q st F ∧ Lk W p q g G ∧ (∀ k, F k → ¬ G k) ∧ (∀ k, F k → w0.heap.size ≤ k) ∧ (∀ k, G k → w0.heap.size ≤ k) ∧ Below w0.heap.size w0 W
section
variable {w0 W W' : World} {q p : Nat} {st st' : Ds} {g g' : Lg}
theorem Wg.b (h : Wg w0 q p st g W) : Below w0.heap.size w0 W := by obtain ⟨F, G, -, -, -, -, -, hb⟩ := h; exact hb
theorem Wg.below (h : Wg w0 q p st g W) (hb : Below W.heap.size W W') : Wg w0 q p st g W' := by
  obtain ⟨F, G, hd, hr, h1, h2, h3, hb0⟩ := h
  exact ⟨F, G, wdk_keep hd (fun k hk => hb.block k (wdk_lt hd hk)), hr.below hb, h1, h2, h3, hb0.trans (hb.mono hb0.size)⟩
theorem wg_of {w1 : World} {F G : Nat → Prop} (h2 : ∀ k, F k → w0.heap.size ≤ k) (h3 : ∀ k, G k → w0.heap.size ≤ k) (hb : Below w0.heap.size w0 w1) (h : Lw w1 F G q p st g W) : Wg w0 q p st g W := by
  obtain ⟨⟨F', G', hd, hr, h1, h4, h5⟩, ht⟩ := h
  exact ⟨F', G', hd, hr, h1, fun k hk => (h4 k hk).elim (h2 k) (fun h => Nat.le_trans hb.size h), fun k hk => (h5 k hk).elim (h3 k) (fun h => Nat.le_trans hb.size h), hb.trans (ht.base hb.size (fun k hk => hk.elim (h2 k) (h3 k)))⟩
theorem Wg.cs (h : Wg w0 q p st g W) : ∃ bv, LogIn W p q bv g := by
  obtain ⟨F, G, hd, ⟨bv, hl, -⟩, -⟩ := h; exact ⟨bv, hl⟩
end
theorem wrapS_len200 (l : List UInt8) (h : l.length ≤ 100000) : (wrapS l).length ≤ 200000 := by
  rw [wrapS_short (by omega), fixS_length]
  have := numB_length (l.length : Int)
  simp only [List.length_append, List.length_cons, List.length_nil]
  omega
/-- What numbers of a log may be. -/
structure GOk (g : Lg) (n : Nat) : Prop where
  ne : 0 < g.B.length
  len : g.B.length ≤ n + 1000
  each : ∀ x ∈ g.B, 0 ≤ x ∧ x ≤ 1000000000000
  nx : 0 ≤ g.next ∧ g.next ≤ 999999999999
  sz : 0 ≤ g.size ∧ g.size ≤ 2000000 + 1000000 * (n : Int)
  mo : 0 ≤ g.most ∧ g.most ≤ 1048576
theorem GOk.mono {g : Lg} {n m : Nat} (h : GOk g n) (hm : n ≤ m) : GOk g m := by
  obtain ⟨h1, h2, h3, h4, h5, h6⟩ := h
  exact ⟨h1, by omega, h3, h4, by omega, h6⟩
theorem GOk.last {g : Lg} {n : Nat} (h : GOk g n) : 0 ≤ g.lastN ∧ g.lastN ≤ 1000000000000 := by
  have := h.ne
  unfold Lg.lastN
  rw [List.getD_eq_getElem?_getD, List.getElem?_eq_getElem (by omega)]
  exact h.each _ (List.getElem_mem _)
theorem GOk.sync {g : Lg} {n : Nat} (h : GOk g n) (st : Ds) : GOk (syncL st g).2.2 n := by
  unfold syncL
  split
  · exact ⟨h.ne, h.len, h.each, h.nx, h.sz, h.mo⟩
  · exact h
theorem GOk.begin {g : Lg} {n : Nat} (h : GOk g n) (st : Ds) : GOk (beginL st g).2.2 (n + 1) := by
  unfold beginL
  split
  · refine ⟨by simp, by have := h.len; simp; omega, fun x hx => ?_, h.nx, by simp; omega, h.mo⟩
    rcases List.mem_append.1 hx with hx | hx
    · exact h.each x hx
    · rw [List.mem_singleton.1 hx]; have := h.nx; omega
  · exact h.mono (Nat.le_succ n)
theorem GOk.turn {g : Lg} {n : Nat} (h : GOk g n) (st : Ds) : GOk (turnL st g).2.2 (n + 1) := by
  unfold turnL
  split
  · exact (h.sync st).begin _
  · exact (h.sync st).mono (Nat.le_succ n)
theorem turnL_next (st : Ds) (g : Lg) : (turnL st g).2.2.next = g.next := by
  have h1 := (syncL_next st g).1
  unfold turnL
  split
  · unfold beginL
    split
    · exact h1
    · exact h1
  · exact h1
theorem GOk.put {g : Lg} {n : Nat} (h : GOk g n) (st : Ds) {f : List UInt8} (hf : f.length ≤ 1000000) (hn : g.next < 999999999999) : GOk (putL st g f).2.2 (n + 1) := by
  unfold putL
  split
  · exact ⟨h.ne, by have := h.len; simp only; omega, h.each, by have := h.nx; simp only; omega, by have := h.sz; simp only; omega, h.mo⟩
  · exact h.mono (Nat.le_succ n)
/-- Whether a segment is begun first. -/
def appT (st : Ds) (g : Lg) (fl : Nat) : Int × Ds × Lg := if g.lastN < g.next ∧ g.most < g.size + (fl : Int) then turnL st g else (0, st, g)
def errR (e : Int) : Int := if e = 3 then 151 else e
def putR (u : Int × Ds × Lg) : (Int × Int) × Ds × Lg := if u.1 = 0 then ((u.2.2.next - 1, 0), u.2.1, u.2.2) else ((0, errR u.1), u.2.1, u.2.2)
/-- What an append tells, and leaves. -/
def appL (st : Ds) (g : Lg) (l : List UInt8) : (Int × Int) × Ds × Lg :=
  if st.fails ≠ g.fails then ((0, 150), st, g) else if 999999999999 ≤ g.next then ((0, 151), st, g)
  else if (appT st g (wrapS l).length).1 ≠ 0 then ((0, errR (appT st g (wrapS l).length).1), (appT st g (wrapS l).length).2.1, (appT st g (wrapS l).length).2.2)
  else putR (putL (appT st g (wrapS l).length).2.1 (appT st g (wrapS l).length).2.2 (wrapS l))
theorem GOk.app {g : Lg} {n : Nat} (h : GOk g n) (st : Ds) {l : List UInt8} (hf : (wrapS l).length ≤ 1000000) : GOk (appL st g l).2.2 (n + 2) := by
  unfold appL
  split
  · exact h.mono (by omega)
  · split
    · exact h.mono (by omega)
    · rename_i hnx
      have ht : GOk (appT st g (wrapS l).length).2.2 (n + 1) ∧ (appT st g (wrapS l).length).2.2.next = g.next := by
        unfold appT
        split
        · exact ⟨h.turn st, turnL_next st g⟩
        · exact ⟨h.mono (Nat.le_succ n), rfl⟩
      split
      · exact ht.1.mono (by omega)
      · have hp := ht.1.put (appT st g (wrapS l).length).2.1 hf (by rw [ht.2]; omega)
        unfold putR
        split
        · exact hp
        · exact hp
set_option maxHeartbeats 1600000 in
theorem lready_c {w0 W : World} {q p : Nat} {st : Ds} {g : Lg} (h : Wg w0 q p st g W) : Calls Tryz.prog 64 #[.pointer (some ⟨p, 0, none⟩)] W (Tells (.int .i64 (if st.fails = g.fails then 0 else 150)) W) := by
  have HM := Lib.hid (show Calls Tryz.prog 62 #[.pointer (some ⟨p, 0, none⟩)] W (Tells (.bool true) W) from by obtain ⟨bv, hl⟩ := h.cs; exact lmade_c hl)
  have HO := Lib.hid (fun (W' : World) (hb : Below W.heap.size W W') => (show Calls Tryz.prog 23 #[.pointer (some ⟨p, 0, none⟩)] W' (Tells (.bool (decide (st.fails = g.fails))) W') from by
    obtain ⟨F, G, hd, ⟨bv, hl, -⟩, -⟩ := h.below hb
    exact lon_c hl hd))
  by_cases hf : st.fails = g.fails
  · rw [if_pos hf]
    rw [decide_eq_true hf] at HO
    clear h hf
    go_enter Tryz.func64, Tryz.ntmps64
    go_wp2_with (first
      | (go_at_call 62; (with_reducible refine HM.out.mono ?_); rintro e1 w1 ⟨rfl, hb1⟩; have HB1 := Lib.hid hb1; clear hb1)
      | (go_at_call 23; (with_reducible refine (HO.out _ HB1.out).mono ?_); rintro e2 w2 ⟨rfl, hb2⟩; have HB2 := Lib.hid (HB1.out.trans (hb2.mono HB1.out.size)); clear hb2))
    go_ret
    exact ⟨rfl, HB2.out⟩
  · rw [if_neg hf]
    rw [decide_eq_false hf] at HO
    clear h hf
    go_enter Tryz.func64, Tryz.ntmps64
    go_wp2_with (first
      | (go_at_call 62; (with_reducible refine HM.out.mono ?_); rintro e1 w1 ⟨rfl, hb1⟩; have HB1 := Lib.hid hb1; clear hb1)
      | (go_at_call 23; (with_reducible refine (HO.out _ HB1.out).mono ?_); rintro e2 w2 ⟨rfl, hb2⟩; have HB2 := Lib.hid (HB1.out.trans (hb2.mono HB1.out.size)); clear hb2))
    go_ret
    exact ⟨rfl, HB2.out⟩
set_option maxRecDepth 100000 in
set_option maxHeartbeats 12800000 in
theorem lappend_c {w0 W : World} {q p n : Nat} {st : Ds} {g : Lg} (h : Wg w0 q p st g W) (hg : GOk g n) (hn : n ≤ 90000) (hT : TabE w0) {a : Option Addr} {m cap : Nat} {l : List UInt8} (hb : Bys W a m cap l) (hm : m ≤ 100000) : Calls Tryz.prog 24 #[.pointer (some ⟨p, 0, none⟩), .slice a m cap] W (fun e W' => e = .returned (.tuple #[.int .i64 (appL st g l).1.1, .int .i64 (appL st g l).1.2]) ∧ Wg w0 q p (appL st g l).2.1 (appL st g l).2.2 W') := by
  have HR := Lib.hid (lready_c h)
  have HG := Lib.hid h
  have HK := Lib.hid hg
  have HTE := Lib.hid hT
  have HN := Lib.hid hn
  have HBY := Lib.hid hb
  have HM := Lib.hid hm
  have hml : ¬ (262144 : Int) < (m : Int) := by omega
  unfold appL
  by_cases hf : st.fails = g.fails
  · rw [if_neg (not_not_intro hf)]
    rw [if_pos hf] at HR
    by_cases hnx : 999999999999 ≤ g.next
    · rw [if_pos hnx]
      clear h hg hn hT hb hm hf
      go_enter Tryz.func24, Tryz.ntmps24
      go_wp2_with ((go_at_call 64; (with_reducible refine HR.out.mono ?_); rintro e1 w1 ⟨rfl, hb1⟩; have HB1 := Lib.hid hb1; obtain ⟨bv, hl1⟩ := (HG.out.below hb1).cs; obtain ⟨c0, c1, c2, c3, c4, c5, c6⟩ := hl1.cs; clear hb1 hl1))
      go_ret2
      exact ⟨rfl, HG.out.below HB1.out⟩
    · rw [if_neg hnx]
      have hwl : (wrapS l).length ≤ 200000 := wrapS_len200 l (by rw [hb.len]; exact hm)
      have HNX := Lib.hid (show g.next < 999999999999 by omega)
      have HWR := Lib.hid (fun (W' : World) (hbw : Below W.heap.size W W') => wrap_c (hb.below hbw) hm (hT.i.b.below (h.b.trans (hbw.mono h.b.size))))
      obtain ⟨f, hfd⟩ : ∃ z, wrapS l = z := ⟨_, rfl⟩
      rw [hfd] at HWR hwl ⊢
      obtain ⟨fl, hfl⟩ : ∃ z, f.length = z := ⟨_, rfl⟩
      have HFL := Lib.hid hfl
      rw [hfl] at hwl ⊢
      have HWL := Lib.hid hwl
      have hsz := hg.sz
      have hmo := hg.mo
      have HA := Lib.hid (show appT st g fl = if g.lastN < g.next ∧ g.most < g.size + (fl : Int) then turnL st g else (0, st, g) from rfl)
      obtain ⟨T, hTT⟩ : ∃ z, appT st g fl = z := ⟨_, rfl⟩
      rw [hTT] at HA ⊢
      obtain ⟨R, hRR⟩ : ∃ z, (if T.1 ≠ 0 then ((0, errR T.1), T.2.1, T.2.2) else putR (putL T.2.1 T.2.2 f)) = z := ⟨_, rfl⟩
      rw [hRR]
      have HRR := Lib.hid hRR
      clear hRR
      have HGT := Lib.hid (hg.turn st)
      have HTN := Lib.hid (turnL_next st g)
      obtain ⟨hd9, hhd⟩ : ∃ z, decide (g.lastN < g.next) = z := ⟨_, rfl⟩
      obtain ⟨he9, hhe⟩ : ∃ z, decide (g.most < g.size + (fl : Int)) = z := ⟨_, rfl⟩
      have HDE := Lib.hid (And.intro hhd hhe)
      have hws : IntKind.i64.wrap (g.size + (fl : Int)) = g.size + (fl : Int) := by rw [IntKind.wrap_i64]; omega
      have hnx0 := hg.nx
      have HBZ := Lib.hid (show 0 ≤ g.size ∧ g.size ≤ 1000000000000 from by omega)
      obtain ⟨F, G, hd, hr, hdj, hF, hG, hb0⟩ := h
      have HD0 := Lib.hid hd
      have HR0 := Lib.hid hr
      have HDJ := Lib.hid hdj
      have HFG := Lib.hid (And.intro hF (And.intro hG hb0))
      have HLST := Lib.hid hg.last
      clear hd hr hdj hF hG hb0 hg hn hT hb hm hf hfd hfl hTT hwl hsz hmo hnx0
      go_enter Tryz.func24, Tryz.ntmps24
      go_upto_region 9 with (first
        | (go_at_call 64; (with_reducible refine HR.out.mono ?_); rintro e1 w1 ⟨rfl, hb1⟩; have HB1 := Lib.hid hb1; obtain ⟨bv, hl1⟩ := (HG.out.below hb1).cs; obtain ⟨c0, c1, c2, c3, c4, c5, c6⟩ := hl1.cs; clear hb1 hl1)
        | (go_at_call 65; (with_reducible refine (HWR.out _ HB1.out).mono ?_); rintro e2 w2 ⟨ov, rfl, ho2, hb2⟩; have HO2 := Lib.hid ho2; have HB2 := Lib.hid (HB1.out.trans (hb2.mono HB1.out.size)); obtain ⟨oa, oc, hov, hoy⟩ := ho2.bys; rw [HFL.out] at hov hoy; subst hov; have HOY := Lib.hid hoy; clear ho2 hb2 hoy))
      clear c0 c1 c2 c3 c4 c5 c6
      have HLW := Lib.hid (Lw.start (wdk_keep HD0.out fun k hk => HB2.out.block k (wdk_lt HD0.out hk)) (HR0.out.below HB2.out) HDJ.out)
      have HOA := Lib.hid (show 0 < fl → ∀ b off, oa = some ⟨b, off, none⟩ → b < w2.heap.size ∧ ¬ F b ∧ ¬ G b from fun h0 b off e => by
        have h3 : w1.heap.size ≤ b ∧ b < w2.heap.size := by
          rcases HO2.out.2 with ⟨e9, -⟩ | ⟨g9, c9, cur9, e9, hB9, hg9, -⟩
          · injection e9 with e1
            rw [e1] at e; cases e
          · injection e9 with e1
            rw [e1] at e
            injection e with e
            injection e with e4 e5
            subst e4
            exact ⟨hB9, (Array.getElem?_eq_some_iff.1 hg9).1⟩
        have h4 := HB1.out.size
        exact ⟨h3.2, fun hf => by have := wdk_lt HD0.out hf; omega, fun hf => by have := HR0.out.lt hf; omega⟩)
      have HWGo := Lib.hid (fun (st' : Ds) (g' : Lg) (W' : World) (hw : Lw w2 F G q p st' g' W') => wg_of HFG.out.1 HFG.out.2.1 (HFG.out.2.2.trans (HB2.out.mono HFG.out.2.2.size)) hw)
      have HTW := Lib.hid (fun (W' : World) (ht : Trn (fun k => F k ∨ G k) w2 W') => HTE.out.i.grown ((HFG.out.2.2.trans (HB2.out.mono HFG.out.2.2.size)).trans (ht.base (HFG.out.2.2.trans (HB2.out.mono HFG.out.2.2.size)).size (fun k hk => hk.elim (HFG.out.1 k) (HFG.out.2.1 k)))))
      have HHO := Lib.hid (fun (W' : World) (hbw : Below w2.heap.size w2 W') => (show Calls Tryz.prog 66 #[.pointer (some ⟨p, 0, none⟩)] W' (Tells (.bool hd9) W') from by
        obtain ⟨bv', hl'⟩ := (HLW.out.below hbw).cs
        have := lholds_c hl' HK.out.ne
        rw [show g.B.getD (g.B.length - 1) 0 = g.lastN from rfl, HDE.out.1] at this
        exact this))
      cases hd9
      · refine wp_region_flow [none, none, none, none, none, none, none, none, none, none, none, none, none, none, none, none, none, none, none, none, none, none, none, none, none, none, none, some 0, some 1, some 2, some 3, some 4, some 5, some 6, some 7, some 8, some 9, some 10, some 11, some 12, some 13, some 14, some 15, some 16, some 17, some 18, none, none, none, none, none, none, none, none, none, none, none, none, none, none, none, none, none, none, none, none, none, none, none] (fun i => [undef, undef, undef, undef, undef, undef, undef, undef, undef, undef, undef, undef, undef, undef, undef, undef, undef, undef, undef].getD i undef) [(fun v _ => v = .pointer (some ⟨p, 0, none⟩)), (fun v _ => v = .pointer (some ⟨p, 0, none⟩)), (fun v _ => v = .pointer (some ⟨p, 0, none⟩)), (fun v _ => v = .bool false), (fun v _ => v = .bool false), (fun v _ => v = undef), (fun v _ => v = undef), (fun v _ => v = undef), (fun v _ => v = undef), (fun v _ => v = undef), (fun v _ => v = undef), (fun v _ => v = undef), (fun v _ => v = undef), (fun v _ => v = undef), (fun v _ => v = undef), (fun v _ => v = undef), (fun v _ => v = undef), (fun v _ => v = undef), (fun v _ => v = .bool false)] (by kernel_rfl) (by kernel_rfl) rfl rfl rfl ?_ ?_ ?_
        · intro g hg v X Y hX hY hv
          simp only [List.mem_cons, List.not_mem_nil, or_false] at hg
          rcases hg with rfl | rfl | rfl | rfl | rfl | rfl | rfl | rfl | rfl | rfl | rfl | rfl | rfl | rfl | rfl | rfl | rfl | rfl | rfl
          all_goals first
            | exact hv
            | exact hv.kept hY
        · simp only [flowOps, and_true]
          refine ⟨?_, ?_, ?_, ?_, ?_, ?_, ?_, ?_, ?_, ?_, ?_, ?_, ?_, ?_, ?_, ?_, ?_, ?_, ?_⟩
          · intro xs W9 hW hn9
            simp only [flowAct, List.zipWith_cons_cons, List.zipWith_nil_left]
            go_wp2_with (fail)
            exact ⟨rfl, _, rfl, Below.refl _ _, by first | rfl | simp⟩
          · intro xs W9 hW hn9
            simp [flowNeeds, Region.binds] at hn9
            simp only [flowAct, List.zipWith_cons_cons, List.zipWith_nil_left]
            try simp only [hn9]
            go_wp2_with (fail)
            exact ⟨rfl, _, rfl, Below.refl _ _, by first | rfl | simp⟩
          · intro xs W9 hW hn9
            simp [flowNeeds, Region.binds] at hn9
            simp only [flowAct, List.zipWith_cons_cons, List.zipWith_nil_left]
            try simp only [hn9]
            go_wp2_with (fail)
            exact ⟨rfl, _, rfl, Below.refl _ _, by first | rfl | simp⟩
          · intro xs W9 hW hn9
            simp [flowNeeds, Region.binds] at hn9
            simp only [flowAct, List.zipWith_cons_cons, List.zipWith_nil_left]
            try simp only [hn9]
            go_wp2_with (go_at_call 66; (with_reducible refine (HHO.out _ hW).mono ?_); rintro e9 w9 ⟨rfl, hb9⟩)
            exact ⟨rfl, _, rfl, hb9, rfl⟩
          · intro xs W9 hW hn9
            simp [flowNeeds, Region.binds] at hn9
            simp only [flowAct, List.zipWith_cons_cons, List.zipWith_nil_left]
            try simp only [hn9]
            go_wp2_with (fail)
            exact ⟨rfl, _, rfl, Below.refl _ _, by first | rfl | simp⟩
          · intro xs W9 hW hn9
            simp [flowNeeds, Region.binds] at hn9
            simp only [flowAct, List.zipWith_cons_cons, List.zipWith_nil_left]
            try simp only [hn9]
            go_wp2_with (fail)
            exact ⟨rfl, _, rfl, Below.refl _ _, by first | rfl | simp⟩
          · intro xs W9 hW hn9
            simp [flowNeeds, Region.binds] at hn9
            simp only [flowAct, List.zipWith_cons_cons, List.zipWith_nil_left]
            try simp only [hn9]
            go_wp2_with (fail)
            exact ⟨rfl, _, rfl, Below.refl _ _, by first | rfl | simp⟩
          · intro xs W9 hW hn9
            simp [flowNeeds, Region.binds] at hn9
            simp only [flowAct, List.zipWith_cons_cons, List.zipWith_nil_left]
            try simp only [hn9]
            go_wp2_with (fail)
            exact ⟨rfl, _, rfl, Below.refl _ _, by first | rfl | simp⟩
          · intro xs W9 hW hn9
            simp [flowNeeds, Region.binds] at hn9
            simp only [flowAct, List.zipWith_cons_cons, List.zipWith_nil_left]
            try simp only [hn9]
            go_wp2_with (fail)
            exact ⟨rfl, _, rfl, Below.refl _ _, by first | rfl | simp⟩
          · intro xs W9 hW hn9
            simp [flowNeeds, Region.binds] at hn9
            simp only [flowAct, List.zipWith_cons_cons, List.zipWith_nil_left]
            try simp only [hn9]
            go_wp2_with (fail)
            exact ⟨rfl, _, rfl, Below.refl _ _, by first | rfl | simp⟩
          · intro xs W9 hW hn9
            simp [flowNeeds, Region.binds] at hn9
            simp only [flowAct, List.zipWith_cons_cons, List.zipWith_nil_left]
            try simp only [hn9]
            go_wp2_with (fail)
            exact ⟨rfl, _, rfl, Below.refl _ _, by first | rfl | simp⟩
          · intro xs W9 hW hn9
            simp [flowNeeds, Region.binds] at hn9
            simp only [flowAct, List.zipWith_cons_cons, List.zipWith_nil_left]
            try simp only [hn9]
            go_wp2_with (fail)
            exact ⟨rfl, _, rfl, Below.refl _ _, by first | rfl | simp⟩
          · intro xs W9 hW hn9
            simp [flowNeeds, Region.binds] at hn9
            simp only [flowAct, List.zipWith_cons_cons, List.zipWith_nil_left]
            try simp only [hn9]
            go_wp2_with (fail)
            exact ⟨rfl, _, rfl, Below.refl _ _, by first | rfl | simp⟩
          · intro xs W9 hW hn9
            simp [flowNeeds, Region.binds] at hn9
            simp only [flowAct, List.zipWith_cons_cons, List.zipWith_nil_left]
            try simp only [hn9]
            go_wp2_with (fail)
            exact ⟨rfl, _, rfl, Below.refl _ _, by first | rfl | simp⟩
          · intro xs W9 hW hn9
            simp [flowNeeds, Region.binds] at hn9
            simp only [flowAct, List.zipWith_cons_cons, List.zipWith_nil_left]
            try simp only [hn9]
            go_wp2_with (fail)
            exact ⟨rfl, _, rfl, Below.refl _ _, by first | rfl | simp⟩
          · intro xs W9 hW hn9
            simp [flowNeeds, Region.binds] at hn9
            simp only [flowAct, List.zipWith_cons_cons, List.zipWith_nil_left]
            try simp only [hn9]
            go_wp2_with (fail)
            exact ⟨rfl, _, rfl, Below.refl _ _, by first | rfl | simp⟩
          · intro xs W9 hW hn9
            simp [flowNeeds, Region.binds] at hn9
            simp only [flowAct, List.zipWith_cons_cons, List.zipWith_nil_left]
            try simp only [hn9]
            go_wp2_with (fail)
            exact ⟨rfl, _, rfl, Below.refl _ _, by first | rfl | simp⟩
          · intro xs W9 hW hn9
            simp [flowNeeds, Region.binds] at hn9
            simp only [flowAct, List.zipWith_cons_cons, List.zipWith_nil_left]
            try simp only [hn9]
            go_wp2_with (fail)
            exact ⟨rfl, _, rfl, Below.refl _ _, by first | rfl | simp⟩
          · intro xs W9 hW hn9
            simp [flowNeeds, Region.binds] at hn9
            simp only [flowAct, List.zipWith_cons_cons, List.zipWith_nil_left]
            try simp only [hn9]
            go_wp2_with (fail)
            exact ⟨rfl, _, rfl, Below.refl _ _, by first | rfl | simp⟩
        · intro xs W9 hW hall
          simp only [flowAll, and_true, Nat.zero_add, Nat.reduceAdd] at hall
          obtain ⟨a0, a1, a2, a3, a4, a5, a6, a7, a8, a9, a10, a11, a12, a13, a14, a15, a16, a17, a18⟩ := hall
          simp only [flowAct, List.zipWith_cons_cons, List.zipWith_nil_left]
          simp only [a18]
          clear a0 a1 a2 a3 a4 a5 a6 a7 a8 a9 a10 a11 a12 a13 a14 a15 a16 a17 a18
          have HLW2 := Lib.hid (HLW.out.below hW)
          clear hW
          have HTE0 := Lib.hid (show T = (0, st, g) from by rw [HA.out, if_neg (fun h => by have := HDE.out.1; simp at this; omega)])
          obtain ⟨⟨r2, s2, g2⟩, hpr⟩ : ∃ z, putL st g f = z := ⟨_, rfl⟩
          have HPU := Lib.hid (lput_p HLW2.out HK.out.ne (HTW.out _ HLW2.out.tr) (by have := HLST.out; omega) (by have := HLST.out; omega) (by have := HK.out.nx; omega) (by have := HK.out.nx; omega) (by have := HBZ.out; omega) (by have := HBZ.out; omega) HOY.out (by have := HFL.out; have := HWL.out; omega) HOA.out)
          rw [hpr] at HPU
          simp only at HPU
          have HPN := Lib.hid (show putL st g f = (r2, s2, g2) from hpr)
          have HG2 := Lib.hid (show 0 ≤ g2.next ∧ g2.next ≤ 999999999999 from by
            have h9 := (HK.out).put st (f := f) (by have := HFL.out; have := HWL.out; omega) (by exact HNX.out)
            rw [hpr] at h9
            exact h9.nx)
          clear hpr
          by_cases hr2 : r2 = 0
          · subst hr2
            have hnx2 := HG2.out
            go_wp2_with (go_at_call 68; (with_reducible refine HPU.out.mono ?_); rintro e7 w7 ⟨rfl, hl7⟩; have HL7 := Lib.hid hl7; obtain ⟨bv7, hl9⟩ := hl7.cs; obtain ⟨c0, c1, c2, c3, c4, c5, c6⟩ := hl9.cs; clear hl7 hl9)
            go_ret2
            rw [← HRR.out, HTE0.out]
            simp only [ne_eq, not_true_eq_false, if_false, HPN.out, putR, if_true]
            exact ⟨by first | rfl | (congr 4; rw [IntKind.wrap_i64]; omega) | go_num, HWGo.out _ _ _ HL7.out⟩
          · have hrb : (r2 == 0) = false := by rw [beq_eq_false_iff_ne]; exact hr2
            by_cases hr3 : r2 = 3
            · subst hr3
              go_wp2_with (go_at_call 68; (with_reducible refine HPU.out.mono ?_); rintro e7 w7 ⟨rfl, hl7⟩; have HL7 := Lib.hid hl7; clear hl7)
              go_ret2
              rw [← HRR.out, HTE0.out]
              simp only [ne_eq, not_true_eq_false, if_false, HPN.out, putR]
              exact ⟨by first | rfl | simp [errR], by simpa [errR] using HWGo.out _ _ _ HL7.out⟩
            · have hrb3 : (r2 == 3) = false := by rw [beq_eq_false_iff_ne]; exact hr3
              have HR2 := Lib.hid (And.intro hr2 hr3)
              go_wp2_with (go_at_call 68; (with_reducible refine HPU.out.mono ?_); rintro e7 w7 ⟨rfl, hl7⟩; have HL7 := Lib.hid hl7; clear hl7)
              go_ret2
              rw [← HRR.out, HTE0.out]
              simp only [ne_eq, not_true_eq_false, if_false, HPN.out, putR, if_neg HR2.out.1]
              exact ⟨by unfold errR; rw [if_neg HR2.out.2]; rfl, HWGo.out _ _ _ HL7.out⟩
  
      · refine wp_region_flow [none, none, none, none, none, none, none, none, none, none, none, none, none, none, none, none, none, none, none, none, none, none, none, none, none, none, none, some 0, some 1, some 2, some 3, some 4, some 5, some 6, some 7, some 8, some 9, some 10, some 11, some 12, some 13, some 14, some 15, some 16, some 17, some 18, none, none, none, none, none, none, none, none, none, none, none, none, none, none, none, none, none, none, none, none, none, none, none] (fun i => [undef, undef, undef, undef, undef, undef, undef, undef, undef, undef, undef, undef, undef, undef, undef, undef, undef, undef, undef].getD i undef) [(fun v _ => v = .pointer (some ⟨p, 0, none⟩)), (fun v _ => v = .pointer (some ⟨p, 0, none⟩)), (fun v _ => v = .pointer (some ⟨p, 0, none⟩)), (fun v _ => v = .bool true), (fun v _ => v = .bool true), (fun v _ => v = .pointer (some ⟨p, 0, none⟩)), (fun v _ => v = .pointer (some ⟨p, 0, none⟩)), (fun v _ => v = .pointer (some ⟨p, 0, none⟩)), (fun v _ => v = .pointer (some ⟨p, 3, none⟩)), (fun v _ => v = .int .i64 g.size), (fun v _ => v = .slice oa fl oc), (fun v _ => v = .int .i64 (fl : Int)), (fun v _ => v = .int .i64 (g.size + (fl : Int))), (fun v _ => v = .pointer (some ⟨p, 0, none⟩)), (fun v _ => v = .pointer (some ⟨p, 0, none⟩)), (fun v _ => v = .pointer (some ⟨p, 6, none⟩)), (fun v _ => v = .int .i64 g.most), (fun v _ => v = .bool he9), (fun v _ => v = .bool he9)] (by kernel_rfl) (by kernel_rfl) rfl rfl rfl ?_ ?_ ?_
        · intro g hg v X Y hX hY hv
          simp only [List.mem_cons, List.not_mem_nil, or_false] at hg
          rcases hg with rfl | rfl | rfl | rfl | rfl | rfl | rfl | rfl | rfl | rfl | rfl | rfl | rfl | rfl | rfl | rfl | rfl | rfl | rfl
          all_goals first
            | exact hv
            | exact hv.kept hY
        · simp only [flowOps, and_true]
          refine ⟨?_, ?_, ?_, ?_, ?_, ?_, ?_, ?_, ?_, ?_, ?_, ?_, ?_, ?_, ?_, ?_, ?_, ?_, ?_⟩
          · intro xs W9 hW hn9
            simp only [flowAct, List.zipWith_cons_cons, List.zipWith_nil_left]
            go_wp2_with (fail)
            exact ⟨rfl, _, rfl, Below.refl _ _, by first | rfl | simp⟩
          · intro xs W9 hW hn9
            simp [flowNeeds, Region.binds] at hn9
            simp only [flowAct, List.zipWith_cons_cons, List.zipWith_nil_left]
            try simp only [hn9]
            go_wp2_with (fail)
            exact ⟨rfl, _, rfl, Below.refl _ _, by first | rfl | simp⟩
          · intro xs W9 hW hn9
            simp [flowNeeds, Region.binds] at hn9
            simp only [flowAct, List.zipWith_cons_cons, List.zipWith_nil_left]
            try simp only [hn9]
            go_wp2_with (fail)
            exact ⟨rfl, _, rfl, Below.refl _ _, by first | rfl | simp⟩
          · intro xs W9 hW hn9
            simp [flowNeeds, Region.binds] at hn9
            simp only [flowAct, List.zipWith_cons_cons, List.zipWith_nil_left]
            try simp only [hn9]
            go_wp2_with (go_at_call 66; (with_reducible refine (HHO.out _ hW).mono ?_); rintro e9 w9 ⟨rfl, hb9⟩)
            exact ⟨rfl, _, rfl, hb9, rfl⟩
          · intro xs W9 hW hn9
            simp [flowNeeds, Region.binds] at hn9
            simp only [flowAct, List.zipWith_cons_cons, List.zipWith_nil_left]
            try simp only [hn9]
            go_wp2_with (fail)
            exact ⟨rfl, _, rfl, Below.refl _ _, by first | rfl | simp⟩
          · intro xs W9 hW hn9
            simp [flowNeeds, Region.binds] at hn9
            simp only [flowAct, List.zipWith_cons_cons, List.zipWith_nil_left]
            try simp only [hn9]
            go_wp2_with (fail)
            exact ⟨rfl, _, rfl, Below.refl _ _, by first | rfl | simp⟩
          · intro xs W9 hW hn9
            simp [flowNeeds, Region.binds] at hn9
            simp only [flowAct, List.zipWith_cons_cons, List.zipWith_nil_left]
            try simp only [hn9]
            go_wp2_with (fail)
            exact ⟨rfl, _, rfl, Below.refl _ _, by first | rfl | simp⟩
          · intro xs W9 hW hn9
            simp [flowNeeds, Region.binds] at hn9
            simp only [flowAct, List.zipWith_cons_cons, List.zipWith_nil_left]
            try simp only [hn9]
            go_wp2_with (fail)
            exact ⟨rfl, _, rfl, Below.refl _ _, by first | rfl | simp⟩
          · intro xs W9 hW hn9
            simp [flowNeeds, Region.binds] at hn9
            simp only [flowAct, List.zipWith_cons_cons, List.zipWith_nil_left]
            try simp only [hn9]
            go_wp2_with (fail)
            exact ⟨rfl, _, rfl, Below.refl _ _, by first | rfl | simp⟩
          · intro xs W9 hW hn9
            simp [flowNeeds, Region.binds] at hn9
            obtain ⟨bv, hl9⟩ := (HLW.out.below hW).cs
            obtain ⟨c0, c1, c2, c3, c4, c5, c6⟩ := hl9.cs
            clear hl9
            simp only [flowAct, List.zipWith_cons_cons, List.zipWith_nil_left]
            try simp only [hn9]
            go_wp2_with (fail)
            exact ⟨rfl, _, rfl, Below.refl _ _, by first | rfl | simp⟩
          · intro xs W9 hW hn9
            simp [flowNeeds, Region.binds] at hn9
            simp only [flowAct, List.zipWith_cons_cons, List.zipWith_nil_left]
            try simp only [hn9]
            go_wp2_with (fail)
            exact ⟨rfl, _, rfl, Below.refl _ _, by first | rfl | simp⟩
          · intro xs W9 hW hn9
            simp [flowNeeds, Region.binds] at hn9
            simp only [flowAct, List.zipWith_cons_cons, List.zipWith_nil_left]
            try simp only [hn9]
            go_wp2_with (fail)
            exact ⟨rfl, _, rfl, Below.refl _ _, by first | rfl | simp⟩
          · intro xs W9 hW hn9
            simp [flowNeeds, Region.binds] at hn9
            simp only [flowAct, List.zipWith_cons_cons, List.zipWith_nil_left]
            try simp only [hn9]
            go_wp2_with (fail)
            exact ⟨rfl, _, rfl, Below.refl _ _, by first | rfl | simp⟩
          · intro xs W9 hW hn9
            simp [flowNeeds, Region.binds] at hn9
            simp only [flowAct, List.zipWith_cons_cons, List.zipWith_nil_left]
            try simp only [hn9]
            go_wp2_with (fail)
            exact ⟨rfl, _, rfl, Below.refl _ _, by first | rfl | simp⟩
          · intro xs W9 hW hn9
            simp [flowNeeds, Region.binds] at hn9
            simp only [flowAct, List.zipWith_cons_cons, List.zipWith_nil_left]
            try simp only [hn9]
            go_wp2_with (fail)
            exact ⟨rfl, _, rfl, Below.refl _ _, by first | rfl | simp⟩
          · intro xs W9 hW hn9
            simp [flowNeeds, Region.binds] at hn9
            simp only [flowAct, List.zipWith_cons_cons, List.zipWith_nil_left]
            try simp only [hn9]
            go_wp2_with (fail)
            exact ⟨rfl, _, rfl, Below.refl _ _, by first | rfl | simp⟩
          · intro xs W9 hW hn9
            simp [flowNeeds, Region.binds] at hn9
            obtain ⟨bv, hl9⟩ := (HLW.out.below hW).cs
            obtain ⟨c0, c1, c2, c3, c4, c5, c6⟩ := hl9.cs
            clear hl9
            simp only [flowAct, List.zipWith_cons_cons, List.zipWith_nil_left]
            try simp only [hn9]
            go_wp2_with (fail)
            exact ⟨rfl, _, rfl, Below.refl _ _, by first | rfl | simp⟩
          · intro xs W9 hW hn9
            simp [flowNeeds, Region.binds] at hn9
            simp only [flowAct, List.zipWith_cons_cons, List.zipWith_nil_left]
            try simp only [hn9]
            go_wp2_with (fail)
            exact ⟨rfl, _, rfl, Below.refl _ _, by first | rfl | simp⟩
          · intro xs W9 hW hn9
            simp [flowNeeds, Region.binds] at hn9
            simp only [flowAct, List.zipWith_cons_cons, List.zipWith_nil_left]
            try simp only [hn9]
            go_wp2_with (fail)
            exact ⟨rfl, _, rfl, Below.refl _ _, by first | rfl | simp⟩
        · intro xs W9 hW hall
          simp only [flowAll, and_true, Nat.zero_add, Nat.reduceAdd] at hall
          obtain ⟨a0, a1, a2, a3, a4, a5, a6, a7, a8, a9, a10, a11, a12, a13, a14, a15, a16, a17, a18⟩ := hall
          simp only [flowAct, List.zipWith_cons_cons, List.zipWith_nil_left]
          simp only [a18]
          clear a0 a1 a2 a3 a4 a5 a6 a7 a8 a9 a10 a11 a12 a13 a14 a15 a16 a17 a18
          have HLW2 := Lib.hid (HLW.out.below hW)
          clear hW
          cases he9
          · have HTE0 := Lib.hid (show T = (0, st, g) from by rw [HA.out, if_neg (fun h => by have := HDE.out.2; simp at this; omega)])
            obtain ⟨⟨r2, s2, g2⟩, hpr⟩ : ∃ z, putL st g f = z := ⟨_, rfl⟩
            have HPU := Lib.hid (lput_p HLW2.out HK.out.ne (HTW.out _ HLW2.out.tr) (by have := HLST.out; omega) (by have := HLST.out; omega) (by have := HK.out.nx; omega) (by have := HK.out.nx; omega) (by have := HBZ.out; omega) (by have := HBZ.out; omega) HOY.out (by have := HFL.out; have := HWL.out; omega) HOA.out)
            rw [hpr] at HPU
            simp only at HPU
            have HPN := Lib.hid (show putL st g f = (r2, s2, g2) from hpr)
            have HG2 := Lib.hid (show 0 ≤ g2.next ∧ g2.next ≤ 999999999999 from by
              have h9 := (HK.out).put st (f := f) (by have := HFL.out; have := HWL.out; omega) (by exact HNX.out)
              rw [hpr] at h9
              exact h9.nx)
            clear hpr
            by_cases hr2 : r2 = 0
            · subst hr2
              have hnx2 := HG2.out
              go_wp2_with (go_at_call 68; (with_reducible refine HPU.out.mono ?_); rintro e7 w7 ⟨rfl, hl7⟩; have HL7 := Lib.hid hl7; obtain ⟨bv7, hl9⟩ := hl7.cs; obtain ⟨c0, c1, c2, c3, c4, c5, c6⟩ := hl9.cs; clear hl7 hl9)
              go_ret2
              rw [← HRR.out, HTE0.out]
              simp only [ne_eq, not_true_eq_false, if_false, HPN.out, putR, if_true]
              exact ⟨by first | rfl | (congr 4; rw [IntKind.wrap_i64]; omega) | go_num, HWGo.out _ _ _ HL7.out⟩
            · have hrb : (r2 == 0) = false := by rw [beq_eq_false_iff_ne]; exact hr2
              by_cases hr3 : r2 = 3
              · subst hr3
                go_wp2_with (go_at_call 68; (with_reducible refine HPU.out.mono ?_); rintro e7 w7 ⟨rfl, hl7⟩; have HL7 := Lib.hid hl7; clear hl7)
                go_ret2
                rw [← HRR.out, HTE0.out]
                simp only [ne_eq, not_true_eq_false, if_false, HPN.out, putR]
                exact ⟨by first | rfl | simp [errR], by simpa [errR] using HWGo.out _ _ _ HL7.out⟩
              · have hrb3 : (r2 == 3) = false := by rw [beq_eq_false_iff_ne]; exact hr3
                have HR2 := Lib.hid (And.intro hr2 hr3)
                go_wp2_with (go_at_call 68; (with_reducible refine HPU.out.mono ?_); rintro e7 w7 ⟨rfl, hl7⟩; have HL7 := Lib.hid hl7; clear hl7)
                go_ret2
                rw [← HRR.out, HTE0.out]
                simp only [ne_eq, not_true_eq_false, if_false, HPN.out, putR, if_neg HR2.out.1]
                exact ⟨by unfold errR; rw [if_neg HR2.out.2]; rfl, HWGo.out _ _ _ HL7.out⟩
          · have HTT := Lib.hid (show T = turnL st g from by rw [HA.out, if_pos (by have h1 := HDE.out.1; have h2 := HDE.out.2; simp at h1 h2; omega)])
            have HTU := Lib.hid (lturn_p HLW2.out HK.out.ne HTW.out (by have := HLST.out; omega) (by have := HLST.out; omega) HK.out.nx.1 (by have := HK.out.nx; omega) (by have := HK.out.len; have := HN.out; omega))
            obtain ⟨⟨r1, s1, g1⟩, htr⟩ : ∃ z, turnL st g = z := ⟨_, rfl⟩
            rw [htr] at HTT HTU HGT HTN
            simp only at HTU HGT HTN
            clear htr
            by_cases hr1 : r1 = 0
            · subst hr1
              have HTE0 := HTT
              go_upto_region 12 with (go_at_call 67; (with_reducible refine HTU.out.mono ?_); rintro e6 w6 ⟨rfl, hl6⟩; have HL6 := Lib.hid hl6; clear hl6)
              obtain ⟨⟨r2, s2, g2⟩, hpr⟩ : ∃ z, putL s1 g1 f = z := ⟨_, rfl⟩
              have HPU := Lib.hid (lput_p HL6.out HGT.out.ne (HTW.out _ HL6.out.tr) (by have := HGT.out.last; omega) (by have := HGT.out.last; omega) (by have := HGT.out.nx; omega) (by have := HGT.out.nx; omega) (by have := (And.intro HGT.out.sz HN.out); omega) (by have := (And.intro HGT.out.sz HN.out); omega) HOY.out (by have := HFL.out; have := HWL.out; omega) HOA.out)
              rw [hpr] at HPU
              simp only at HPU
              have HPN := Lib.hid (show putL s1 g1 f = (r2, s2, g2) from hpr)
              have HG2 := Lib.hid (show 0 ≤ g2.next ∧ g2.next ≤ 999999999999 from by
                have h9 := (HGT.out).put s1 (f := f) (by have := HFL.out; have := HWL.out; omega) (by rw [HTN.out]; exact HNX.out)
                rw [hpr] at h9
                exact h9.nx)
              clear hpr
              by_cases hr2 : r2 = 0
              · subst hr2
                have hnx2 := HG2.out
                go_wp2_with (go_at_call 68; (with_reducible refine HPU.out.mono ?_); rintro e7 w7 ⟨rfl, hl7⟩; have HL7 := Lib.hid hl7; obtain ⟨bv7, hl9⟩ := hl7.cs; obtain ⟨c0, c1, c2, c3, c4, c5, c6⟩ := hl9.cs; clear hl7 hl9)
                go_ret2
                rw [← HRR.out, HTE0.out]
                simp only [ne_eq, not_true_eq_false, if_false, HPN.out, putR, if_true]
                exact ⟨by first | rfl | (congr 4; rw [IntKind.wrap_i64]; omega) | go_num, HWGo.out _ _ _ HL7.out⟩
              · have hrb : (r2 == 0) = false := by rw [beq_eq_false_iff_ne]; exact hr2
                by_cases hr3 : r2 = 3
                · subst hr3
                  go_wp2_with (go_at_call 68; (with_reducible refine HPU.out.mono ?_); rintro e7 w7 ⟨rfl, hl7⟩; have HL7 := Lib.hid hl7; clear hl7)
                  go_ret2
                  rw [← HRR.out, HTE0.out]
                  simp only [ne_eq, not_true_eq_false, if_false, HPN.out, putR]
                  exact ⟨by first | rfl | simp [errR], by simpa [errR] using HWGo.out _ _ _ HL7.out⟩
                · have hrb3 : (r2 == 3) = false := by rw [beq_eq_false_iff_ne]; exact hr3
                  have HR2 := Lib.hid (And.intro hr2 hr3)
                  go_wp2_with (go_at_call 68; (with_reducible refine HPU.out.mono ?_); rintro e7 w7 ⟨rfl, hl7⟩; have HL7 := Lib.hid hl7; clear hl7)
                  go_ret2
                  rw [← HRR.out, HTE0.out]
                  simp only [ne_eq, not_true_eq_false, if_false, HPN.out, putR, if_neg HR2.out.1]
                  exact ⟨by unfold errR; rw [if_neg HR2.out.2]; rfl, HWGo.out _ _ _ HL7.out⟩
            · have hrb : (r1 == 0) = false := by rw [beq_eq_false_iff_ne]; exact hr1
              have HR1 := Lib.hid hr1
              by_cases hr3 : r1 = 3
              · subst hr3
                go_wp2_with (go_at_call 67; (with_reducible refine HTU.out.mono ?_); rintro e6 w6 ⟨rfl, hl6⟩; have HL6 := Lib.hid hl6; clear hl6)
                go_ret2
                rw [← HRR.out, HTT.out]
                exact ⟨by first | rfl | simp [errR], by simpa [errR] using HWGo.out _ _ _ HL6.out⟩
              · have hrb3 : (r1 == 3) = false := by rw [beq_eq_false_iff_ne]; exact hr3
                have HR3 := Lib.hid hr3
                go_wp2_with (go_at_call 67; (with_reducible refine HTU.out.mono ?_); rintro e6 w6 ⟨rfl, hl6⟩; have HL6 := Lib.hid hl6; clear hl6)
                go_ret2
                rw [← HRR.out, HTT.out]
                simp only [ne_eq, HR1.out, not_false_eq_true, if_true]
                exact ⟨by unfold errR; rw [if_neg HR3.out]; rfl, HWGo.out _ _ _ HL6.out⟩
  
  · rw [if_pos hf]
    rw [if_neg hf] at HR
    clear h hg hn hT hb hm hf
    go_enter Tryz.func24, Tryz.ntmps24
    go_wp2_with ((go_at_call 64; (with_reducible refine HR.out.mono ?_); rintro e1 w1 ⟨rfl, hb1⟩; have HB1 := Lib.hid hb1; obtain ⟨bv, hl1⟩ := (HG.out.below hb1).cs; obtain ⟨c0, c1, c2, c3, c4, c5, c6⟩ := hl1.cs; clear hb1 hl1))
    go_ret2
    exact ⟨rfl, HG.out.below HB1.out⟩
end Go.Proofs.YtpejojagghfjgaaGreatDoor
end

section
namespace Go.Proofs
open Go.Shelf
def Tryz.lays190_ren : Go.Shelf.Ren := ⟨fun | 190 => 83 | 125 => 123 | 258 => 122 | 128 => 157 | 129 => 158 | 302 => 148 | 303 => 149 | 304 => 150 | 305 => 151 | 306 => 152 | 307 => 153 | 308 => 154 | 309 => 155 | 310 => 156 | 333 => 173 | 329 => 174 | 330 => 175 | 334 => 176 | 335 => 177 | 336 => 178 | 344 => 188 | n => n, fun | 31 => 81 | 9 => 9 | 3 => 3 | 46 => 47 | 0 => 0 | 51 => 140 | 53 => 152 | 4 => 4 | 183 => 172 | 182 => 171 | 131 => 176 | 5 => 5 | 218 => 197 | 222 => 201 | 228 => 214 | 229 => 89 | n => n, fun | n => n⟩
theorem Tryz.lays190 : Go.Proofs.Lays.n190 Tryz.prog Tryz.lays190_ren := {
  mixed := by kernel_rfl
  f125 := Tryz.func123.trans (congrArg some (by kernel_rfl))
  f128 := Tryz.func157.trans (congrArg some (by kernel_rfl))
  f129 := Tryz.func158.trans (congrArg some (by kernel_rfl))
  f190 := Tryz.func83.trans (congrArg some (by kernel_rfl))
  f258 := Tryz.func122.trans (congrArg some (by kernel_rfl))
  f302 := Tryz.func148.trans (congrArg some (by kernel_rfl))
  f303 := Tryz.func149.trans (congrArg some (by kernel_rfl))
  f304 := Tryz.func150.trans (congrArg some (by kernel_rfl))
  f305 := Tryz.func151.trans (congrArg some (by kernel_rfl))
  f306 := Tryz.func152.trans (congrArg some (by kernel_rfl))
  f307 := Tryz.func153.trans (congrArg some (by kernel_rfl))
  f308 := Tryz.func154.trans (congrArg some (by kernel_rfl))
  f309 := Tryz.func155.trans (congrArg some (by kernel_rfl))
  f310 := Tryz.func156.trans (congrArg some (by kernel_rfl))
  f329 := Tryz.func174.trans (congrArg some (by kernel_rfl))
  f330 := Tryz.func175.trans (congrArg some (by kernel_rfl))
  f333 := Tryz.func173.trans (congrArg some (by kernel_rfl))
  f334 := Tryz.func176.trans (congrArg some (by kernel_rfl))
  f335 := Tryz.func177.trans (congrArg some (by kernel_rfl))
  f336 := Tryz.func178.trans (congrArg some (by kernel_rfl))
  f344 := Tryz.func188.trans (congrArg some (by kernel_rfl))
  t0 := Tryz.underlying0
  a0 := Tryz.isAgg0
  z0 := Tryz.sizeOf0
  v0 := Tryz.zeroValue0
  t3 := Tryz.underlying3
  a3 := Tryz.isAgg3
  z3 := Tryz.sizeOf3
  v3 := Tryz.zeroValue3
  t4 := Tryz.underlying4
  a4 := Tryz.isAgg4
  z4 := Tryz.sizeOf4
  v4 := Tryz.zeroValue4
  t5 := Tryz.underlying5
  a5 := Tryz.isAgg5
  z5 := Tryz.sizeOf5
  v5 := Tryz.zeroValue5
  t9 := Tryz.underlying9
  a9 := Tryz.isAgg9
  z9 := Tryz.sizeOf9
  v9 := Tryz.zeroValue9
  t31 := Tryz.underlying81
  a31 := Tryz.isAgg81
  z31 := Tryz.sizeOf81
  v31 := Tryz.zeroValue81
  t46 := Tryz.underlying47
  a46 := Tryz.isAgg47
  z46 := Tryz.sizeOf47
  v46 := Tryz.zeroValue47
  t51 := Tryz.underlying140
  a51 := Tryz.isAgg140
  z51 := Tryz.sizeOf140
  v51 := Tryz.zeroValue140
  t53 := Tryz.underlying152
  a53 := Tryz.isAgg152
  z53 := Tryz.sizeOf152
  v53 := Tryz.zeroValue152
  t131 := Tryz.underlying176
  a131 := Tryz.isAgg176
  z131 := Tryz.sizeOf176
  v131 := Tryz.zeroValue176
  t182 := Tryz.underlying171
  a182 := Tryz.isAgg171
  z182 := Tryz.sizeOf171
  v182 := Tryz.zeroValue171
  t183 := Tryz.underlying172
  a183 := Tryz.isAgg172
  z183 := Tryz.sizeOf172
  v183 := Tryz.zeroValue172
  t218 := Tryz.underlying197
  a218 := Tryz.isAgg197
  z218 := Tryz.sizeOf197
  v218 := Tryz.zeroValue197
  t222 := Tryz.underlying201
  a222 := Tryz.isAgg201
  z222 := Tryz.sizeOf201
  v222 := Tryz.zeroValue201
  t228 := Tryz.underlying214
  a228 := Tryz.isAgg214
  z228 := Tryz.sizeOf214
  v228 := Tryz.zeroValue214
  t229 := Tryz.underlying89
  a229 := Tryz.isAgg89
  z229 := Tryz.sizeOf89
  v229 := Tryz.zeroValue89 }
open Go.Sort Go.RowKit in
theorem Tryz.slices_Sort_string (blk off cap : Nat) (ss : List (List UInt8)) (w : World) (hH : Holds encStr w blk off ss.toArray) (hblk : blk < w.heap.size) (hsz : ss.length < 4611686018427387904) :
    Calls Tryz.prog 83 #[.slice (some ⟨blk, off, none⟩) ss.length cap] w fun e w' =>
      e = .returned (.tuple #[]) ∧ ∃ n os, w' = grow (putRow encStr (Sort.ahead w n) blk off (ss.mergeSort fun x y => decide (x ≤ y)).toArray) os := Any.slices_Sort_string Tryz.lays190 blk off cap ss w hH hblk hsz
open Go.RowKit Go.Sort in
theorem Tryz.slices_Sort_string_none (p : Option Addr) (cap : Nat) (w : World) :
    Calls Tryz.prog 83 #[.slice p 0 cap] w fun e w' => e = .returned (.tuple #[]) ∧ w' = w := Any.slices_Sort_string_none Tryz.lays190 p cap w
end Go.Proofs
end

section
namespace Go.Proofs.YtpejojagghfjgaaGreatDoor
open Go.RowKit Go Go.Sort Go.Maps Go.WideMaps
set_option linter.unusedVariables false
set_option maxRecDepth 20000

theorem infoD9 : (Tryz.prog.info? 9).map (fun i => (i.zero, i.size, i.bytes)) = some (some (.string ⟨#[]⟩), 1, 16) := by kernel_rfl
/-- A slice of texts of the call's own. -/
def OwnT (w : World) (B : Nat) (v : Value) (L : List (List UInt8)) : Prop := w.ownsRow B 9 1 v L.length (L.map encStr)
def NamesPost (L : List (List UInt8)) (w : World) (e : Ending) (w' : World) : Prop := ∃ v, e = .returned v ∧ OwnT w' w.heap.size v L ∧ Below w.heap.size w w'
theorem names_sorted {L ns : List (List UInt8)} (hp : ns.Perm L) (ha : L.Pairwise (fun a b => Op.bytesLess a b = true)) : ns.mergeSort (fun x y => decide (x ≤ y)) = L := by
  refine List.Perm.eq_of_pairwise (le := fun x y => decide (x ≤ y) = true) (fun a b _ _ h1 h2 => ?_) ?_ ?_ ((List.mergeSort_perm _ _).trans hp)
  · simp only [decide_eq_true_eq] at h1 h2
    exact List.le_antisymm h1 h2
  · refine List.pairwise_mergeSort (fun a b c h1 h2 => ?_) (fun a b => ?_) ns
    · simp only [decide_eq_true_eq] at *; exact List.le_trans h1 h2
    · simp only [Bool.or_eq_true, decide_eq_true_eq]; exact List.le_total a b
  · refine ha.imp fun {a b} h => ?_
    rw [bytesLess_eq] at h
    simp only [decide_eq_true_eq] at h ⊢
    exact List.le_of_lt h
set_option maxRecDepth 100000 in
set_option maxHeartbeats 6400000 in
theorem dnames_c {w : World} {q m : Nat} {pv : Value} {FS : List Fl} {st : Ds} (h : DiskIn w q m pv FS st) : Calls Tryz.prog 39 #[.pointer (some ⟨q, 0, none⟩)] w (NamesPost (st.F.map Fi.nm) w) := by
  obtain ⟨i0, hi, hz0, hz1, hz2⟩ := info_parts infoD9
  have c0 := h.cs.1
  have HD := Lib.hid h
  have HM := Lib.hid h.map
  have HN := Lib.hid h.names
  have HL := Lib.hid (show (FS.map (fun x => x.f.nm)) = st.F.map Fi.nm by rw [← h.pr, List.map_map]; rfl)
  have HAS := Lib.hid (show (st.F.map Fi.nm).Pairwise (fun a b => Op.bytesLess a b = true) by rw [List.pairwise_map]; exact h.ok.asc)
  have HLN := Lib.hid (show FS.length ≤ 64 by have := h.ok.len; rw [← h.pr] at this; simpa using this)
  have HBL := Lib.hid h.map.lt
  clear h
  go_enter Tryz.func39, Tryz.ntmps39
  go_wp2_with (first
    | (go_at_call 71; (with_reducible refine (dmade_c HD.out).mono ?_); rintro e9 w9 ⟨rfl, rfl⟩)
    | (at_range; refine wpList_range_own _ rfl _ 72 rfl 9 112 klawD Tryz.underlying72 ptrElem m FS.length (mapD FS) rfl HM.out ?_; intro w0 hrg0 hg0 hs0)
    | go_in)
  go_frame
  go_loopw [3] (fun s wr => ∃ (left : Lit → Bool) (cnt : Nat) (ns : List (List UInt8)), wr.ranges Tryz.prog 9 ptrElem m w.heap.size FS.length (mapD FS) left cnt ∧ OwnT wr w.heap.size s ns ∧ ns.Perm ((doneL left FS).map fun x => x.f.nm) ∧ Below w.heap.size w wr) (fun _ wr => wr.rangeLeft m w.heap.size)
  case atStart => exact ⟨_, _, [], hrg0, World.ownsRow_nil _ _ _ _, by rw [doneL_start]; exact List.Perm.refl _, ⟨hg0.os, hg0.tape, hg0.output, hg0.size, fun k hk => hg0.block k hk (by simp)⟩⟩
  case round =>
    obtain ⟨left, cnt, ns, hrg, hrow, hp, hb⟩ := hrel
    have HRG := Lib.hid hrg
    have HB := Lib.hid hb
    have HROW := Lib.hid hrow
    have HP := Lib.hid hp
    clear hb hrow hp
    go_wp2_with (first
      | (at_next; refine wpList_next_ranges _ rfl _ rfl 9 klawD ptrElem (fun v : Value => v) (fun v : Value => v) (fun key kl _ => ⟨key, rfl⟩) (fun v y _ => ⟨v, rfl⟩) m w.heap.size FS.length _ _ _ rfl hrg ?_ ?_)
      | go_in)
    · intro hc0 hl0
      have hp := HP.out
      rw [doneL_end hl0, HL.out] at hp
      have HSO := Lib.hid (names_sorted hp HAS.out)
      have HLE := Lib.hid (show ns.length = (st.F.map Fi.nm).length from hp.length_eq)
      clear hp hrg
      rcases HROW.out.2 with ⟨rfl, hz⟩ | ⟨g, cap, cur, rfl, hbase, hb9, h1, h2, h3, h4⟩
      · have hs := Tryz.slices_Sort_string_none none 0 wr
        go_wp2_with (go_at_call 83; (with_reducible refine hs.mono ?_); rintro e7 w7 ⟨rfl, rfl⟩)
        go_ret
        have h0 : st.F.map Fi.nm = [] := List.length_eq_zero_iff.1 (by rw [← HLE.out]; exact hz)
        exact ⟨_, rfl, by rw [h0]; exact World.ownsRow_nil _ _ _ _, HB.out⟩
      · have hH : Holds encStr wr g 0 ns.toArray := holds_of_block hb9 (by simpa using h4)
        have hgl : g < wr.heap.size := (Array.getElem?_eq_some_iff.1 hb9).1
        have hs := Tryz.slices_Sort_string g 0 cap ns wr hH hgl (by have h8 := HLE.out; rw [← HL.out, List.length_map] at h8; have := HLN.out; omega)
        have HC := Lib.hid (And.intro hbase (And.intro hb9 (And.intro h1 (And.intro h2 h3))))
        clear hH hgl hbase hb9 h1 h2 h3 h4
        go_wp2_with (go_at_call 83; (with_reducible refine hs.mono ?_); rintro e7 w7 ⟨rfl, nn, os, rfl⟩)
        go_ret
        obtain ⟨hbase, hb9, h1, h2, h3⟩ := HC.out
        refine ⟨_, rfl, ?_, HB.out.grown (grownBy_sorted _) HB.out.size (fun j hj => by cases hj; exact hbase)⟩
        have := ownsRow_sorted (os := os) (n := nn) (ts := ns.mergeSort fun x y => decide (x ≤ y)) (ss := ns) (by simp) hbase hb9 h1 h2 h3
        rw [HSO.out, HLE.out] at this
        unfold OwnT
        rw [HLE.out, HSO.out]
        exact this
    · intro key v kl yd yp w2 cnt2 hkey hlk hv hat hrg2 hlt hg2 hs2 hen
      obtain ⟨A, x, C, e, rfl, rfl, rfl⟩ := entryD (y := (yd, yp)) hkey hv hat
      have hrow2 : w2.ownsRow w.heap.size 9 1 _ ns.length (ns.map encStr) := World.ownsRow.kept HROW.out hg2 (Or.inr (row_ne_iter HROW.out hrg).symm)
      have hB2 := rg_below HB.out hg2 (Nat.le_refl _)
      have hpm := (doneL_step (left := left) (x := x) (A := A) (C := C) (by rw [← e]; exact HN.out) hlk).map fun x => x.f.nm
      rw [← e] at hpm
      have HPM := Lib.hid (show (ns ++ [x.f.nm]).Perm ((doneL (fun z => left z && !z.sameKey (.string x.f.nm)) FS).map fun x => x.f.nm) from
        ((HP.out.append_right [x.f.nm]).trans (List.perm_append_comm)).trans hpm.symm)
      have hnl : ns.length ≤ 64 := by
        have h8 := HP.out.length_eq
        rw [List.length_map] at h8
        have := List.length_filter_le (fun y : Fl => !left (.string y.f.nm)) FS
        have := HLN.out
        unfold doneL at h8
        omega
      obtain ⟨xn, hxn⟩ : ∃ z, x.f.nm = z := ⟨_, rfl⟩
      rw [hxn] at HPM hen ⊢
      have HXN := Lib.hid hxn
      have HR2 := Lib.hid hrg2
      have HLT := Lib.hid hlt
      have HROW2 := Lib.hid hrow2
      have HB2 := Lib.hid hB2
      have hbz := HB2.out.size
      have HXE := Lib.hid (show (Value.string (text xn)) = encStr xn from rfl)
      clear hs2 hpm hrow2 hB2 hrg2 hlt hg2 hat hv hlk hkey hrg e hxn
      go_wp2_with (first
        | (at_builtin; refine wpList_append_own _ rfl _ _ 81 rfl w.heap.size 9 i0 (.string ⟨#[]⟩) 1 16 Tryz.underlying81 hi hz0 hz1 hz2 rfl (by decide) _ _ _ rfl (World.ownsRow.alloc HROW2.out _) ⟨w2.heap.size, 0, none⟩ 1 1 [encStr xn] rfl rfl (cell_one_new _ _ _) (by simp [Value.oneCell', encStr]) (by unfold maxLen at *; omega) (by omega) (by simp; omega) ?_; intro v' w3 hown' hg3 hnil3; have HO3 := Lib.hid hown'; have HG3 := Lib.hid hg3; clear hown' hg3 hnil3)
        | go_in)
      try go_frame
      have hrg3 := (HR2.out.alloc _).kept HG3.out (row_ne_low HROW2.out HBL.out) (row_ne_iter HROW2.out HR2.out)
      have HR3 := Lib.hid hrg3
      clear hrg3 hbz
      go_roundw
      case rel =>
        refine ⟨_, cnt2, ns ++ [xn], HR3.out, by unfold OwnT; simpa using HO3.out, by rw [HXN.out]; exact HPM.out, ?_⟩
        exact (HB2.out.alloc (by have := HB2.out.size; omega) _).grown HG3.out (by have := HB2.out.size; simp; omega) (fun j hj => (HROW2.out.lt j hj).1)
      case measure => rw [HR3.out.left_eq, HRG.out.left_eq]; exact HLT.out
end Go.Proofs.YtpejojagghfjgaaGreatDoor
end

section
namespace Go.Proofs.YtpejojagghfjgaaGreatDoor
open Go.RowKit Go Go.Sort Go.Maps Go.WideMaps
set_option linter.unusedVariables false
set_option maxRecDepth 20000

/-- An act that came in. -/
structure Dc where
  kd : Int
  nm : List UInt8
  v : Value
  l : List UInt8
  n : Int
  kp : Int
def Dc.zero : Dc := ⟨0, [], .slice none 0 0, [], 0, 0⟩
def Dc.arr (a : Dc) : Array Value := #[.int .i64 a.kd, .string (text a.nm), a.v, .int .i64 a.n, .int .i64 a.kp]
end Go.Proofs.YtpejojagghfjgaaGreatDoor
end

section
namespace Go.Proofs.YtpejojagghfjgaaGreatDoor
open Go.RowKit Go Go.Sort Go.Deep
set_option linter.unusedVariables false
set_option maxRecDepth 20000

/-- Acts that lie in memory, each with its bytes. -/
structure Dcs (w : World) (a : Option Addr) (n cap : Nat) (L : List Dc) : Prop where
  len : L.length = n
  le : n ≤ cap
  max : cap ≤ 9223372036854775807
  adr : cap = 0 ∨ ∃ b off, a = some ⟨b, off, none⟩ ∧ ∀ i, i < n → ∀ j u, (L.getD i Dc.zero).arr[j]? = some u → w.cell? ⟨b, off + i * 5 + j, none⟩ = some u
  dat : ∀ i, i < n → ∃ x c, (L.getD i Dc.zero).v = .slice x (L.getD i Dc.zero).l.length c ∧ Bys w x (L.getD i Dc.zero).l.length c (L.getD i Dc.zero).l ∧ (L.getD i Dc.zero).nm.length ≤ 9223372036854775807 ∧ (-9223372036854775808 ≤ (L.getD i Dc.zero).n ∧ (L.getD i Dc.zero).n ≤ 9223372036854775807)
theorem Dcs.below {w w' : World} {a : Option Addr} {n cap : Nat} {L : List Dc} (h : Dcs w a n cap L) (hb : Below w.heap.size w w') : Dcs w' a n cap L := by
  refine ⟨h.len, h.le, h.max, ?_, fun i hi => by obtain ⟨x, c, e, hy, hr⟩ := h.dat i hi; exact ⟨x, c, e, hy.below hb, hr⟩⟩
  rcases h.adr with h4 | ⟨b, off, rfl, hc⟩
  · exact .inl h4
  · exact .inr ⟨b, off, rfl, fun i hi j u hj => (hb.cell (World.block_lt_of_cell? w _ (hc i hi j u hj))).trans (hc i hi j u hj)⟩
end Go.Proofs.YtpejojagghfjgaaGreatDoor
end

section
namespace Go.Proofs.YtpejojagghfjgaaGreatDoor
open Go.RowKit Go Go.Sort Go.Maps Go.WideMaps
set_option linter.unusedVariables false
set_option maxRecDepth 20000

/-- Texts that lie in memory. -/
def Tx (w : World) (v : Value) (L : List (List UInt8)) : Prop := ∃ a cap, v = .slice a L.length cap ∧ L.length ≤ cap ∧ cap ≤ 9223372036854775807 ∧ (cap = 0 ∨ ∃ b, a = some ⟨b, 0, none⟩ ∧ ∀ i, i < L.length → w.cell? ⟨b, i, none⟩ = some (.string (text (L.getD i []))))
theorem OwnT.tx {w : World} {B : Nat} {v : Value} {L : List (List UInt8)} (h : OwnT w B v L) : Tx w v L := by
  rcases h.2 with ⟨rfl, hz⟩ | ⟨g, cap, cur, rfl, hbase, hb, h1, h2, h3, h4⟩
  · exact ⟨none, 0, by rw [hz], by omega, by omega, .inl rfl⟩
  · refine ⟨_, cap, rfl, h1, by unfold maxLen at h2; omega, .inr ⟨g, rfl, fun i hi => ?_⟩⟩
    rw [cell_of_row w g i cur 9 (0, 0) hb]
    have h5 : (cur.toList.take (L.length * 1))[i]? = (L.map encStr)[i]? := by rw [h4]
    rw [Nat.mul_one, List.getElem?_take_of_lt hi] at h5
    rw [← Array.getElem?_toList, h5, List.getElem?_map, List.getElem?_eq_getElem hi, List.getD_eq_getElem?_getD, List.getElem?_eq_getElem hi]
    rfl
theorem Tx.below {w w' : World} {v : Value} {L : List (List UInt8)} (h : Tx w v L) (hb : Below w.heap.size w w') : Tx w' v L := by
  obtain ⟨a, cap, e, h1, h2, h3⟩ := h
  refine ⟨a, cap, e, h1, h2, h3.imp_right ?_⟩
  rintro ⟨b, rfl, hc⟩
  exact ⟨b, rfl, fun i hi => (hb.cell (World.block_lt_of_cell? w _ (hc i hi))).trans (hc i hi)⟩
end Go.Proofs.YtpejojagghfjgaaGreatDoor
end

