/-
  Merged: D9 PM DA DB DE DL WM1 WM2 NW PW Tb IZ IW WL1 WL2 Rd BO WM3 WM5 WM6 WM7 IQ WM8 CM CB CW CL Co CF CR BM FM PP.
-/
import Derived.WalkKit
import Derived.Laws.CopyOwn
import Derived.WalkSmall
import Derived.Deep.QuietTactic
import Derived.StillTail
import Derived.Lib.QuietBelow
import Derived.Test.YtioeimkaljmffaaGreatDoorRows
import Derived.Lib.Hide
import Derived.BigQuiet
import Derived.BigRegion
import Derived.Deep.Cut
import Derived.Deep.MidRow
import Derived.Great.BuildSlice
import Derived.Outline
import Derived.OwnWalk
import Derived.Laws.Rows
import Derived.ChangeKeysEq
import Derived.Laws.StructEq
import Derived.Deep.DeepAppendWide
import Derived.Deep.AppendSrc
import Derived.Maps.RangeWalk
import Derived.Maps.OwnSet
import Derived.Maps.OwnOps
import Derived.Lib.MinMax
import Derived.Deep.RegionWith
import Derived.Maps.AppendAt
import Derived.Shelf.Abstract
import Derived.Lib.ConvBytes
import Derived.Lib.SlBytesConst
import Derived.WalkSpells
import Derived.WalkLawsBesides
import Derived.Lib.LaidTab
import Derived.Stop.LaidErr
import Derived.Lib.ItoaNum
import Derived.Shelf.Strings.Builder1
import Derived.Shelf.Strings.Builder2
import Derived.Shelf.Strings.BuilderF
import Derived.Shelf.Strconv.Atoi
import Derived.Shelf.Strconv.Itoa0
import Derived.Shelf.Strconv.Itoa1
import Derived.Shelf.LaysM
import Derived.Shelf.Strconv.Itoa2
import Derived.Shelf.Strconv.Itoa3
import Derived.Shelf.Strconv.AtoiErrFast
import Derived.Shelf.Strconv.ParseIntEmpty
import Derived.Shelf.Strconv.AtoiFail
import Derived.Shelf.Strconv.Clone
import Derived.Shelf.Strconv.SyntaxError
import Derived.Shelf.LaysC
import Derived.Shelf.Strconv.ToError
import Derived.Shelf.Strconv.Lower
import Derived.Shelf.Strconv.ParseUint10
import Derived.Shelf.Strconv.ParseUint10Empty
import Derived.Shelf.Strconv.ParseUint10Any
import Derived.Shelf.Strconv.ParseInt10
import Derived.Shelf.Strconv.AtoiLong
import Derived.Shelf.Strconv.AtoiInnerAll
import Derived.Shelf.Strconv.RangeError
import Derived.Shelf.Strconv.ToErrorRange
import Derived.Shelf.Strconv.AtoiAll
import Derived.Shelf.Strconv.ErrVarAll
import Derived.Shelf.Strings.Prefix
import Derived.Shelf.Bits.Mul64
import Derived.Shelf.Strings.Repeat
import Derived.Test.YtioeimkaljmffaaGreatDoorProg
import Derived.Lib.AtoiTie
import Derived.Lib.AtoiAll
import Derived.Lib.ItoaMem
import Derived.Lib.ItoaLen
import Derived.Lib.AtoiErrMem
import Derived.Lib.AtoiAllCases
import Derived.WideShapes
import Derived.OpenShut
import Derived.ChangeSlices
import Derived.Deep.RegionLaw
import Derived.Deep.RegionHeld3
import Derived.Shelf.Sort.Plain
import Derived.Shelf.Slices.In.SortNone
import Derived.Sort.OwnSorted
import Derived.Sort.KeysCollected
import Derived.Deep.Slices
import Derived.RangeFuncNested
import Derived.RangeFuncBound
import Derived.RangeFuncCalls
import Derived.RangeFuncLeaves
import Derived.OwnWalkIn
import Derived.TacticsInMore
import Derived.LoopNIn
import Derived.LoopIn
import Derived.Shelf.Small.Bits
import Derived.Ground.Names2Prog
import Derived.Shelf.Slices.Delete
import Derived.Shelf.Slices.Cells
import Derived.Shelf.Slices.Empties
import Derived.Deep.Matrix
import Derived.Test.YtioeimkaljmffaaGreatDoorSC1

section
namespace Go.Proofs.YtioeimkaljmffaaGreatDoor
open Go.RowKit Go Go.Sort Go.Maps Go.WideMaps
set_option linter.unusedVariables false
set_option maxRecDepth 20000

theorem DPost.pre {q : Nat} {F : Nat → Prop} {v : Value} {st' : Ds} {w W w' : World} {e : Ending} (hb : Below w.heap.size w W) (h : DPost q F v st' W e w') : DPost q F v st' w e w' := by
  obtain ⟨he, F', hk, ht, hf⟩ := h
  exact ⟨he, F', hk, (Trn.of hb).then ht, fun k hk => (hf k hk).imp_right (fun h => Nat.le_trans hb.size h)⟩
theorem enD {f : FuncId} {fn : Func} {c : Code} (hf : Tryz.prog.funcs[f]? = some fn) (hname : (fn.name == "runtime.NumGoroutine") = false) (hb : fn.body = some c) : ∀ args w, (callFunc f args).run Tryz.prog w = .ok (.enter f args) w := enters_of hf hname hb
theorem enNothing : ∀ args w, (callFunc 69 args).run Tryz.prog w = .ok (.enter 69 args) w := enD Tryz.func69 (by kernel_rfl) rfl
theorem find_none_mem {FS : List Fl} {nm : List UInt8} (h : FS.find? (fun x => x.f.nm == nm) = none) : ∀ x ∈ FS, x.f.nm ≠ nm := fun x hx e => by
  rw [List.find?_eq_none] at h
  exact h x hx (by simp [e])
theorem Trn.box {F : Nat → Prop} {W W' : World} {k n : Nat} {o : Obj} (h : Trn F W W') (hF : ∀ k, F k → k < n) (hn : n ≤ k) (hk : W.heap[k]? = some o) : W'.heap[k]? = some o := h.heap hk fun hf => by have := hF k hf; omega
set_option maxRecDepth 100000 in
set_option maxHeartbeats 6400000 in
theorem dmake_c {w : World} {q : Nat} {st : Ds} {F : Nat → Prop} (hk : Dk w q st F) (nm : List UInt8) (hn : nm.length ≤ 9223372036854775807) : Calls Tryz.prog 30 #[.pointer (some ⟨q, 0, none⟩), .string (text nm)] w (DPost q F (.int .i64 (st.make nm).1) (st.make nm).2 w) := by
  have HKK := Lib.hid hk
  obtain ⟨m, pv, FS, h, rfl⟩ := hk
  have hb := second_below w (.cells #[.pointer (some ⟨q, 0, none⟩)] 24) (.cells #[.string (text nm)] 9)
  have hv0 := heapB (heap_alloc_new w (.cells #[.pointer (some ⟨q, 0, none⟩)] 24)) (alloc_below _ (.cells #[.string (text nm)] 9))
  have hv1 := heap_alloc_new (w.alloc (.cells #[.pointer (some ⟨q, 0, none⟩)] 24)) (.cells #[.string (text nm)] 9)
  rw [World.size_alloc] at hv1
  have HD1 := Lib.hid (h.below hb)
  have HFL := Lib.hid (fun k (hk : foot q m pv FS k) => h.lt hk)
  have HG := Lib.hid (dgood_c nm hn)
  have HB := Lib.hid hb
  have HMK := Lib.hid (show st.make nm = if st.on = false then (150, st) else if goodNm nm = false then (2, st) else if (lookF st.F nm).isSome = true then (153, st) else if 64 ≤ st.F.length then (151, st) else st.opd (insF ⟨nm, [], 0⟩) id from rfl)
  have HLF := Lib.hid (h.lookF nm)
  have HLN := Lib.hid (show FS.length = st.F.length by rw [← h.pr]; simp)
  have HL2 := Lib.hid h.ok.len
  have HN := Lib.hid hn
  have HSB := Lib.hid (show w.heap.size = w.heap.size from rfl)
  have HV0 := Lib.hid hv0
  have HV1 := Lib.hid hv1
  have HT := Lib.hid (show ∃ s, text nm = s from ⟨_, rfl⟩)
  clear h hb hv0 hv1 hn
  cases hon : st.on with
  | false =>
    have HON := Lib.hid hon
    have HR := Lib.hid (show st.make nm = (150, st) by rw [HMK.out, if_pos hon])
    rw [HR.out]
    clear hon
    go_enter Tryz.func30, Tryz.ntmps30
    go_upto_region 1 with (fail)
    have v0 := var_c HV0.out
    generalize (w.alloc (.cells #[.pointer (some ⟨q, 0, none⟩)] 24)).alloc (.cells #[.string (text nm)] 9) = W1 at *
    go_wp2_with (go_at_call 48; (with_reducible refine (dready_c HD1.out false HON.out).mono ?_); rintro e9 w9 ⟨rfl, rfl⟩)
    go_ret
    exact (dk_same (⟨m, pv, FS, HD1.out, rfl⟩ : Dk W1 q st _) _).pre HB.out
  | true =>
    have HON := Lib.hid hon
    cases hg : goodNm nm with
    | false =>
      have HR := Lib.hid (show st.make nm = (2, st) by rw [HMK.out, if_neg (by simp [hon]), if_pos hg])
      rw [HR.out]
      rw [hg] at HG
      clear hon hg
      go_enter Tryz.func30, Tryz.ntmps30
      go_upto_region 1 with (fail)
      have v0 := var_c HV0.out
      have v1 := var_c HV1.out
      generalize (w.alloc (.cells #[.pointer (some ⟨q, 0, none⟩)] 24)).alloc (.cells #[.string (text nm)] 9) = W1 at *
      go_wp2_with (first
        | (go_at_call 48; (with_reducible refine (dready_c HD1.out true HON.out).mono ?_); rintro e9 w9 ⟨rfl, rfl⟩)
        | (go_at_call 66; (with_reducible refine (HG.out _).mono ?_); rintro e2 w2 ⟨rfl, hb2⟩))
      go_ret
      exact (dk_below (⟨m, pv, FS, HD1.out, rfl⟩ : Dk W1 q st _) hb2 _).pre HB.out
    | true =>
      rw [hg] at HG
      have HGN := Lib.hid hg
      have HLK := Lib.hid (fun W (hd : DiskIn W q m pv FS st) => hd.look nm HN.out)
      clear hon hg
      obtain ⟨pt, hpt⟩ : ∃ v, ptrF FS nm = v := ⟨_, rfl⟩
      simp only [hpt] at HLK
      have HPT := Lib.hid hpt
      clear hpt
      have hneq : (pt = .pointer none ∧ FS.find? (fun x => x.f.nm == nm) = none) ∨ ∃ g, pt = .pointer (some ⟨g, 0, none⟩) ∧ (lookF st.F nm).isSome = true := by
        have h1 := HPT.out
        unfold ptrF at h1
        cases hf : FS.find? (fun x => x.f.nm == nm) with
        | none => rw [hf] at h1; exact .inl ⟨h1.symm, rfl⟩
        | some x => rw [hf] at h1; exact .inr ⟨x.g, h1.symm, by rw [HLF.out, hf]; rfl⟩
      rcases hneq with ⟨rfl, hf⟩ | ⟨g, rfl, hf⟩
      · have HF := Lib.hid hf
        have HNS := Lib.hid (show (lookF st.F nm).isSome = false by rw [HLF.out, hf]; rfl)
        clear hf
        by_cases h64 : 64 ≤ st.F.length
        · have HR := Lib.hid (show st.make nm = (151, st) by rw [HMK.out, if_neg (by rw [HON.out]; simp), if_neg (by rw [HGN.out]; simp), if_neg (by rw [HNS.out]; simp), if_pos h64])
          rw [HR.out]
          have hl64 : ((FS.length : Nat) : Int) = 64 := by have := HLN.out; have := HL2.out; omega
          have HL64 := Lib.hid hl64
          clear h64 hl64
          go_enter Tryz.func30, Tryz.ntmps30
          go_upto_region 1 with (fail)
          have v0 := var_c HV0.out
          have v1 := var_c HV1.out
          generalize (w.alloc (.cells #[.pointer (some ⟨q, 0, none⟩)] 24)).alloc (.cells #[.string (text nm)] 9) = W1 at *
          go_upto_region 6 with (first
            | (go_at_call 48; (with_reducible refine (dready_c HD1.out true HON.out).mono ?_); rintro e9 w9 ⟨rfl, rfl⟩)
            | (go_at_call 66; (with_reducible refine (HG.out _).mono ?_); rintro e2 w2 ⟨rfl, hb2⟩; have HB2 := Lib.hid hb2; clear hb2 v0 v1))
          have HD2 := Lib.hid (HD1.out.below HB2.out)
          have k0 := cell_regrown (var_c (heapB HV0.out HB2.out))
          have k1 := cell_regrown (var_c (heapB HV1.out HB2.out))
          have k2 := cell_regrown HD2.out.cs.1
          have k3 := fun (d : Nat) (os : Array Obj) => HLK.out _ (HD2.out.below (below_regrown w2 d os))
          obtain ⟨tx, htx⟩ : ∃ s, text nm = s := ⟨_, rfl⟩
          rw [htx] at k1 k3
          refine wp_region_quiet_below (by kernel_rfl) (by kernel_rfl) ?_
          repeat (go_big_quiet_step (fail))
          refine wpQuiet_nil ?_
          intro _ hw'
          obtain ⟨⟨dq, osq⟩, hw''⟩ := hw'
          subst hw''
          have hbq := below_regrown w2 dq osq
          have HB3 := Lib.hid (HB2.out.trans (hbq.mono HB2.out.size))
          have HD3 := Lib.hid (HD2.out.below hbq)
          clear hbq k0 k1 k2 k3 htx
          generalize grow (redrawn w2 dq) osq = W3 at *
          have HSZ := Lib.hid (fun W (hd : DiskIn W q m pv FS st) (ty : TypeId) => hd.map.len Tryz.underlying64 ty)
          have hsz := HSZ.out _ HD3.out 3
          have hs2 : Maps.size (mapD FS) = FS.length := by unfold mapD mapL; simp [Maps.size]
          rw [hs2, HL64.out] at hsz
          have v0 := var_c (heapB HV0.out HB3.out)
          have c0 := HD3.out.cs.1
          clear hs2
          go_wp2
          go_ret
          exact (dk_below (⟨m, pv, FS, HD1.out, rfl⟩ : Dk W1 q st _) HB3.out _).pre HB.out
        · have HR := Lib.hid (show st.make nm = st.opd (insF ⟨nm, [], 0⟩) id by rw [HMK.out, if_neg (by rw [HON.out]; simp), if_neg (by rw [HGN.out]; simp), if_neg (by rw [HNS.out]; simp), if_neg h64])
          rw [HR.out]
          have hl64 : (((FS.length : Nat) : Int) == 64) = false := by have := HLN.out; simp; omega
          have HL64 := Lib.hid hl64
          have HLT := Lib.hid (show FS.length < 64 by have := HLN.out; omega)
          clear h64 hl64
          go_enter Tryz.func30, Tryz.ntmps30
          go_upto_region 1 with (fail)
          have v0 := var_c HV0.out
          have v1 := var_c HV1.out
          generalize (w.alloc (.cells #[.pointer (some ⟨q, 0, none⟩)] 24)).alloc (.cells #[.string (text nm)] 9) = W1 at *
          go_upto_region 6 with (first
            | (go_at_call 48; (with_reducible refine (dready_c HD1.out true HON.out).mono ?_); rintro e9 w9 ⟨rfl, rfl⟩)
            | (go_at_call 66; (with_reducible refine (HG.out _).mono ?_); rintro e2 w2 ⟨rfl, hb2⟩; have HB2 := Lib.hid hb2; clear hb2 v0 v1))
          have HD2 := Lib.hid (HD1.out.below HB2.out)
          have k0 := cell_regrown (var_c (heapB HV0.out HB2.out))
          have k1 := cell_regrown (var_c (heapB HV1.out HB2.out))
          have k2 := cell_regrown HD2.out.cs.1
          have k3 := fun (d : Nat) (os : Array Obj) => HLK.out _ (HD2.out.below (below_regrown w2 d os))
          obtain ⟨tx, htx⟩ : ∃ s, text nm = s := ⟨_, rfl⟩
          rw [htx] at k1 k3
          refine wp_region_quiet_below (by kernel_rfl) (by kernel_rfl) ?_
          repeat (go_big_quiet_step (fail))
          refine wpQuiet_nil ?_
          intro _ hw'
          obtain ⟨⟨dq, osq⟩, hw''⟩ := hw'
          subst hw''
          have hbq := below_regrown w2 dq osq
          have HB3 := Lib.hid (HB2.out.trans (hbq.mono HB2.out.size))
          have HD3 := Lib.hid (HD2.out.below hbq)
          clear hbq k0 k1 k2 k3 htx
          generalize grow (redrawn w2 dq) osq = W3 at *
          have HSZ := Lib.hid (fun W (hd : DiskIn W q m pv FS st) (ty : TypeId) => hd.map.len Tryz.underlying64 ty)
          have hsz := HSZ.out _ HD3.out 3
          have hs2 : Maps.size (mapD FS) = FS.length := by unfold mapD mapL; simp [Maps.size]
          rw [hs2] at hsz
          have hl9 := HL64.out
          have v0 := var_c (heapB HV0.out HB3.out)
          have c0 := HD3.out.cs.1
          have HE0 := Lib.hid (enD Tryz.func68 (by kernel_rfl) rfl)
          have hH0 := heapB HV0.out HB3.out
          have hH1 := heapB HV1.out HB3.out
          have HOP := Lib.hid (doperate20_c HD3.out HE0.out enNothing (x0 := .pointer (some ⟨w.heap.size, 0, none⟩)) (x1 := .pointer (some ⟨w.heap.size + 1, 0, none⟩)) (insF ⟨nm, [], 0⟩) id
            (fun W st' ht hF hd => dmake1_c hd (ht.box HFL.out (Nat.le_refl _) hH0) (ht.box HFL.out (by omega) hH1) (find_none_mem HF.out) HGN.out HLT.out)
            (fun W st' ht hF hd => dnothing_c hd))
          clear hs2 hH0 hH1
          go_wp2_with (go_at_call 67; (with_reducible refine HOP.out.mono ?_); rintro e5 w5 ⟨rfl, F5, hk5, ht5, hf5⟩; have HP5 := Lib.hid (And.intro hk5 (And.intro ht5 hf5)); clear hk5 ht5 hf5)
          go_ret
          exact DPost.pre HB.out (DPost.pre HB3.out ⟨rfl, F5, HP5.out⟩)
      · have HR := Lib.hid (show st.make nm = (153, st) by rw [HMK.out, if_neg (by rw [HON.out]; simp), if_neg (by rw [HGN.out]; simp), if_pos hf])
        rw [HR.out]
        clear hf
        go_enter Tryz.func30, Tryz.ntmps30
        go_upto_region 1 with (fail)
        have v0 := var_c HV0.out
        have v1 := var_c HV1.out
        generalize (w.alloc (.cells #[.pointer (some ⟨q, 0, none⟩)] 24)).alloc (.cells #[.string (text nm)] 9) = W1 at *
        go_upto_region 6 with (first
          | (go_at_call 48; (with_reducible refine (dready_c HD1.out true HON.out).mono ?_); rintro e9 w9 ⟨rfl, rfl⟩)
          | (go_at_call 66; (with_reducible refine (HG.out _).mono ?_); rintro e2 w2 ⟨rfl, hb2⟩; have HB2 := Lib.hid hb2; clear hb2 v0 v1))
        have HD2 := Lib.hid (HD1.out.below HB2.out)
        have k0 := cell_regrown (var_c (heapB HV0.out HB2.out))
        have k1 := cell_regrown (var_c (heapB HV1.out HB2.out))
        have k2 := cell_regrown HD2.out.cs.1
        have k3 := fun (d : Nat) (os : Array Obj) => HLK.out _ (HD2.out.below (below_regrown w2 d os))
        obtain ⟨tx, htx⟩ : ∃ s, text nm = s := ⟨_, rfl⟩
        rw [htx] at k1 k3
        refine wp_region_quiet_below (by kernel_rfl) (by kernel_rfl) ?_
        repeat (go_big_quiet_step (fail))
        refine wpQuiet_nil ?_
        intro _ hw'
        obtain ⟨⟨dq, osq⟩, hw''⟩ := hw'
        subst hw''
        have hbq := below_regrown w2 dq osq
        have HB3 := Lib.hid (HB2.out.trans (hbq.mono HB2.out.size))
        have HD3 := Lib.hid (HD2.out.below hbq)
        clear hbq k0 k1 k2 k3 htx
        generalize grow (redrawn w2 dq) osq = W3 at *
        go_wp2
        go_ret
        exact (dk_below (⟨m, pv, FS, HD1.out, rfl⟩ : Dk W1 q st _) HB3.out _).pre HB.out
set_option maxRecDepth 100000 in
set_option maxHeartbeats 6400000 in
theorem ddrop_c {w : World} {q : Nat} {st : Ds} {F : Nat → Prop} (hk : Dk w q st F) (nm : List UInt8) (hn : nm.length ≤ 9223372036854775807) : Calls Tryz.prog 59 #[.pointer (some ⟨q, 0, none⟩), .string (text nm)] w (DPost q F (.int .i64 (st.drop nm).1) (st.drop nm).2 w) := by
  obtain ⟨m, pv, FS, h, rfl⟩ := hk
  have hb := second_below w (.cells #[.pointer (some ⟨q, 0, none⟩)] 24) (.cells #[.string (text nm)] 9)
  have hv0 := heapB (heap_alloc_new w (.cells #[.pointer (some ⟨q, 0, none⟩)] 24)) (alloc_below _ (.cells #[.string (text nm)] 9))
  have hv1 := heap_alloc_new (w.alloc (.cells #[.pointer (some ⟨q, 0, none⟩)] 24)) (.cells #[.string (text nm)] 9)
  rw [World.size_alloc] at hv1
  have HV0 := Lib.hid hv0
  have HV1 := Lib.hid hv1
  clear hv0 hv1
  have HD1 := Lib.hid (h.below hb)
  have HFL := Lib.hid (fun k (hk : foot q m pv FS k) => h.lt hk)
  have HB := Lib.hid hb
  have HLF := Lib.hid (h.lookF nm)
  have HN := Lib.hid hn
  have HOK := Lib.hid h.ok
  clear h hb hn
  cases hon : st.on with
  | false =>
    have HON := Lib.hid hon
    have HR := Lib.hid (show st.drop nm = (150, st) by unfold Ds.drop; rw [if_pos hon])
    rw [HR.out]
    clear hon
    go_enter Tryz.func59, Tryz.ntmps59
    go_upto_region 1 with (fail)
    try have v0 := var_c HV0.out
    try have v1 := var_c HV1.out
    obtain ⟨W1, hW1⟩ : ∃ X, (w.alloc (.cells #[.pointer (some ⟨q, 0, none⟩)] 24)).alloc (.cells #[.string (text nm)] 9) = X := ⟨_, rfl⟩
    try rw [hW1]
    rw [hW1] at HD1 HB
    try rw [hW1] at v0
    try rw [hW1] at v1
    try rw [hW1] at HV0
    try rw [hW1] at HV1
    clear hW1
    go_wp2_with (go_at_call 70; (with_reducible refine (dfind_off HD1.out _ HON.out).mono ?_); rintro e9 w9 ⟨rfl, rfl⟩)
    go_ret
    first
      | exact (dk_same (⟨m, pv, FS, HD1.out, rfl⟩ : Dk W1 q st _) _).pre HB.out
      | exact (dk_below (⟨m, pv, FS, HD1.out, rfl⟩ : Dk W1 q st _) (alloc_below _ _) _).pre HB.out
  | true =>
    have HON := Lib.hid hon
    cases hf : FS.find? (fun x => x.f.nm == nm) with
    | none =>
      have HF := Lib.hid hf
      have HR := Lib.hid (show st.drop nm = (152, st) by unfold Ds.drop; rw [if_neg (by simp [hon]), HLF.out, hf]; rfl)
      rw [HR.out]
      clear hon hf
      go_enter Tryz.func59, Tryz.ntmps59
      go_upto_region 1 with (fail)
      try have v0 := var_c HV0.out
      try have v1 := var_c HV1.out
      obtain ⟨W1, hW1⟩ : ∃ X, (w.alloc (.cells #[.pointer (some ⟨q, 0, none⟩)] 24)).alloc (.cells #[.string (text nm)] 9) = X := ⟨_, rfl⟩
      try rw [hW1]
      rw [hW1] at HD1 HB
      try rw [hW1] at v0
      try rw [hW1] at v1
      try rw [hW1] at HV0
      try rw [hW1] at HV1
      clear hW1
      obtain ⟨tx, htx⟩ : ∃ s, text nm = s := ⟨_, rfl⟩
      have HFN := Lib.hid (dfind_none HD1.out nm HN.out HON.out HF.out)
      rw [htx] at HFN ⊢
      try rw [htx] at v1
      clear htx
      go_wp2_with (go_at_call 70; (with_reducible refine HFN.out.mono ?_); rintro e9 w9 ⟨rfl, rfl⟩)
      go_ret
      first
        | exact (dk_same (⟨m, pv, FS, HD1.out, rfl⟩ : Dk W1 q st _) _).pre HB.out
        | exact (dk_below (⟨m, pv, FS, HD1.out, rfl⟩ : Dk W1 q st _) (alloc_below _ _) _).pre HB.out
    | some x =>
      have HF := Lib.hid hf
      have HLS := Lib.hid (show lookF st.F nm = some x.f by rw [HLF.out, hf]; rfl)
      have HR := Lib.hid (show st.drop nm = st.opd (delF nm) id by unfold Ds.drop; rw [if_neg (by simp [hon]), HLS.out])
      rw [HR.out]
      clear hon hf
      go_enter Tryz.func59, Tryz.ntmps59
      go_upto_region 1 with (fail)
      try have v0 := var_c HV0.out
      try have v1 := var_c HV1.out
      obtain ⟨W1, hW1⟩ : ∃ X, (w.alloc (.cells #[.pointer (some ⟨q, 0, none⟩)] 24)).alloc (.cells #[.string (text nm)] 9) = X := ⟨_, rfl⟩
      try rw [hW1]
      rw [hW1] at HD1 HB
      try rw [hW1] at v0
      try rw [hW1] at v1
      try rw [hW1] at HV0
      try rw [hW1] at HV1
      clear hW1
      have HE0 := Lib.hid (enD Tryz.func100 (by kernel_rfl) rfl)
      have HOP := Lib.hid (doperate20_c HD1.out HE0.out enNothing (x0 := .pointer (some ⟨w.heap.size, 0, none⟩)) (x1 := .pointer (some ⟨w.heap.size + 1, 0, none⟩)) (delF nm) id
        (fun W st' ht hF hd => ddrop1_c hd (ht.box HFL.out (Nat.le_refl _) HV0.out) (ht.box HFL.out (by omega) HV1.out) HN.out)
        (fun W st' ht hF hd => dnothing_c hd))
      have HFN := Lib.hid (dfind_some HD1.out nm HN.out HON.out HF.out)
      obtain ⟨tx, htx⟩ : ∃ s, text nm = s := ⟨_, rfl⟩
      rw [htx] at HFN v1 ⊢
      clear htx
      go_wp2_with (first
        | (go_at_call 70; (with_reducible refine HFN.out.mono ?_); rintro e9 w9 ⟨rfl, rfl⟩)
        | (go_at_call 67; (with_reducible refine HOP.out.mono ?_); rintro e5 w5 ⟨rfl, F5, hk5, ht5, hf5⟩; have HP5 := Lib.hid (And.intro hk5 (And.intro ht5 hf5)); clear hk5 ht5 hf5))
      go_ret
      exact DPost.pre HB.out ⟨rfl, F5, HP5.out⟩
set_option maxRecDepth 100000 in
set_option maxHeartbeats 6400000 in
theorem dsync_c {w : World} {q : Nat} {st : Ds} {F : Nat → Prop} (hk : Dk w q st F) (nm : List UInt8) (hn : nm.length ≤ 9223372036854775807) : Calls Tryz.prog 98 #[.pointer (some ⟨q, 0, none⟩), .string (text nm)] w (DPost q F (.int .i64 (st.sync nm).1) (st.sync nm).2 w) := by
  obtain ⟨m, pv, FS, h, rfl⟩ := hk
  have hb := Below.refl w.heap.size w
  have HD1 := Lib.hid (h.below hb)
  have HFL := Lib.hid (fun k (hk : foot q m pv FS k) => h.lt hk)
  have HB := Lib.hid hb
  have HLF := Lib.hid (h.lookF nm)
  have HN := Lib.hid hn
  have HOK := Lib.hid h.ok
  clear h hb hn
  cases hon : st.on with
  | false =>
    have HON := Lib.hid hon
    have HR := Lib.hid (show st.sync nm = (150, st) by unfold Ds.sync; rw [if_pos hon])
    rw [HR.out]
    clear hon
    go_enter Tryz.func98, Tryz.ntmps98
    go_upto_region 1 with (fail)
    skip
    go_wp2_with (go_at_call 70; (with_reducible refine (dfind_off HD1.out _ HON.out).mono ?_); rintro e9 w9 ⟨rfl, rfl⟩)
    go_ret
    first
      | exact (dk_same (⟨m, pv, FS, HD1.out, rfl⟩ : Dk w q st _) _).pre HB.out
      | exact (dk_below (⟨m, pv, FS, HD1.out, rfl⟩ : Dk w q st _) (alloc_below _ _) _).pre HB.out
  | true =>
    have HON := Lib.hid hon
    cases hf : FS.find? (fun x => x.f.nm == nm) with
    | none =>
      have HF := Lib.hid hf
      have HR := Lib.hid (show st.sync nm = (152, st) by unfold Ds.sync; rw [if_neg (by simp [hon]), HLF.out, hf]; rfl)
      rw [HR.out]
      clear hon hf
      go_enter Tryz.func98, Tryz.ntmps98
      go_upto_region 1 with (fail)
      skip
      obtain ⟨tx, htx⟩ : ∃ s, text nm = s := ⟨_, rfl⟩
      have HFN := Lib.hid (dfind_none HD1.out nm HN.out HON.out HF.out)
      rw [htx] at HFN ⊢
      try rw [htx] at v1
      clear htx
      go_wp2_with (go_at_call 70; (with_reducible refine HFN.out.mono ?_); rintro e9 w9 ⟨rfl, rfl⟩)
      go_ret
      first
        | exact (dk_same (⟨m, pv, FS, HD1.out, rfl⟩ : Dk w q st _) _).pre HB.out
        | exact (dk_below (⟨m, pv, FS, HD1.out, rfl⟩ : Dk w q st _) (alloc_below _ _) _).pre HB.out
    | some x =>
      have HF := Lib.hid hf
      have HLS := Lib.hid (show lookF st.F nm = some x.f by rw [HLF.out, hf]; rfl)
      have HR := Lib.hid (show st.sync nm = st.opd (setF nm fun f => ⟨f.nm, f.b, f.b.length⟩) id by unfold Ds.sync; rw [if_neg (by simp [hon]), HLS.out])
      rw [HR.out]
      clear hon hf
      have HFN := Lib.hid (dfind_some HD1.out nm HN.out HON.out HF.out)
      have HB4 := Lib.hid (alloc_below w (.cells #[.pointer (some ⟨x.g, 0, none⟩)] 101))
      have HV4 := Lib.hid (heap_alloc_new w (.cells #[.pointer (some ⟨x.g, 0, none⟩)] 101))
      have HE0 := Lib.hid (enD Tryz.func132 (by kernel_rfl) rfl)
      have HOP := Lib.hid (doperate10_c (HD1.out.below HB4.out) HE0.out enNothing (x0 := .pointer (some ⟨w.heap.size, 0, none⟩)) (setF nm fun f => ⟨f.nm, f.b, f.b.length⟩) id
        (fun W st' ht hF hd => dsync1_c hd HF.out (ht.box HFL.out (Nat.le_refl _) HV4.out))
        (fun W st' ht hF hd => dnothing_c hd))
      obtain ⟨xg, hxg⟩ : ∃ n, x.g = n := ⟨_, rfl⟩
      rw [hxg] at HFN HB4 HV4 HOP
      obtain ⟨tx, htx⟩ : ∃ s, text nm = s := ⟨_, rfl⟩
      rw [htx] at HFN ⊢
      clear htx hxg
      go_enter Tryz.func98, Tryz.ntmps98
      go_wp2_with (first
        | (go_at_call 70; (with_reducible refine HFN.out.mono ?_); rintro e9 w9 ⟨rfl, rfl⟩)
        | (go_at_call 67; (with_reducible refine HOP.out.mono ?_); rintro e5 w5 ⟨rfl, F5, hk5, ht5, hf5⟩; have HP5 := Lib.hid (And.intro hk5 (And.intro ht5 hf5)); clear hk5 ht5 hf5))
      go_ret
      exact DPost.pre HB4.out ⟨rfl, F5, HP5.out⟩
set_option maxHeartbeats 1600000 in
theorem dfail_c {w : World} {q : Nat} {st : Ds} {F : Nat → Prop} (hk : Dk w q st F) (keep : Int) : Calls Tryz.prog 20 #[.pointer (some ⟨q, 0, none⟩), .int .i64 keep] w (DPost q F (.int .i64 (st.fail keep).1) (st.fail keep).2 w) := by
  obtain ⟨m, pv, FS, h, rfl⟩ := hk
  have HD1 := Lib.hid h
  cases hon : st.on with
  | false =>
    have HON := Lib.hid hon
    have HR := Lib.hid (show st.fail keep = (150, st) by unfold Ds.fail; rw [if_pos hon])
    rw [HR.out]
    clear hon h
    go_enter Tryz.func20, Tryz.ntmps20
    go_wp2_with (go_at_call 48; (with_reducible refine (dready_c HD1.out false HON.out).mono ?_); rintro e9 w9 ⟨rfl, rfl⟩)
    go_ret
    exact dk_same (⟨m, pv, FS, HD1.out, rfl⟩ : Dk w q st _) _
  | true =>
    have HON := Lib.hid hon
    have HR := Lib.hid (show st.fail keep = (0, st.lost keep st.F) by unfold Ds.fail; rw [if_neg (by simp [hon])])
    rw [HR.out]
    have HL := Lib.hid (dlose_c h keep)
    clear hon h
    go_enter Tryz.func20, Tryz.ntmps20
    go_wp2_with (first
      | (go_at_call 48; (with_reducible refine (dready_c HD1.out true HON.out).mono ?_); rintro e9 w9 ⟨rfl, rfl⟩)
      | (go_at_call 57; (with_reducible refine HL.out.mono ?_); rintro e5 w5 ⟨rfl, F5, hk5, ht5, hf5⟩; have HP5 := Lib.hid (And.intro hk5 (And.intro ht5 hf5)); clear hk5 ht5 hf5))
    go_ret
    exact ⟨rfl, F5, HP5.out⟩
end Go.Proofs.YtioeimkaljmffaaGreatDoor
end

section
namespace Go.Proofs.YtioeimkaljmffaaGreatDoor
open Go.RowKit
set_option linter.unusedVariables false

/-- The mark of a number's first byte. -/
def markS (k : Nat) : Nat := if k = 2 then 64 else if k = 4 then 128 else if k = 8 then 192 else 0

def rawAt (n : Int) (i : Nat) : UInt8 := UInt8.ofNat (n.toNat / 256 ^ i % 256)
/-- The k lowest bytes of n, the highest first. -/
def rawB (n : Int) (k : Nat) : List UInt8 := (List.range k).map (fun j => rawAt n (k - 1 - j))
theorem rawB_length (n : Int) (k : Nat) : (rawB n k).length = k := by simp [rawB]
theorem rawB_get (n : Int) (k j : Nat) (h : j < k) : byt8 (rawB n k) j = rawAt n (k - 1 - j) := by
  unfold byt8 rawB; simp [List.getD, h]
/-- k bytes with the mark. -/
def numK (n : Int) (k : Nat) : List UInt8 := (rawB n k).set 0 (UInt8.ofNat (n.toNat / 256 ^ (k - 1) % 256 + markS k))
theorem numK_length (n : Int) (k : Nat) : (numK n k).length = k := by simp [numK, rawB_length]
/-- The bytes of a number; none, if it can't be laid. -/
def numB (n : Int) : List UInt8 := numK n (sizeS n).toNat

theorem rawAt_val (n : Int) (h : 0 ≤ n) (i : Nat) : n / 2 ^ (8 * i) % 256 = ((rawAt n i).toNat : Int) := by
  obtain ⟨m, rfl⟩ := Int.eq_ofNat_of_zero_le h
  unfold rawAt
  rw [show (2 : Int) ^ (8 * i) = 256 ^ i by rw [Int.pow_mul]; rfl]
  simp

/-- Where Put's loop stands: i bytes are laid, from the last one on. -/
def layN (l : List UInt8) (n : Int) (k i : Nat) : List UInt8 := l ++ (List.replicate (k - i) 0 ++ (rawB n k).drop (k - i))
theorem layN_zero (l : List UInt8) (n : Int) (k : Nat) : layN l n k 0 = l ++ List.replicate k 0 := by
  unfold layN; rw [List.drop_of_length_le (by rw [rawB_length]; omega)]; simp
theorem layN_all (l : List UInt8) (n : Int) (k : Nat) : layN l n k k = l ++ rawB n k := by unfold layN; simp
theorem layN_length (l : List UInt8) (n : Int) (k i : Nat) (h : i ≤ k) : (layN l n k i).length = l.length + k := by
  unfold layN; simp [rawB_length]
theorem layN_succ (l : List UInt8) (n : Int) (k i : Nat) (h : i < k) : (layN l n k i).set (l.length + (k - 1 - i)) (rawAt n i) = layN l n k (i + 1) := by
  unfold layN
  rw [List.set_append, if_neg (by omega), Nat.add_sub_cancel_left, List.set_append, List.length_replicate, if_pos (by omega)]
  congr 1
  have e1 : k - i = (k - 1 - i) + 1 := by omega
  have e2 : k - (i + 1) = k - 1 - i := by omega
  rw [e2]
  have hd : (rawB n k).drop (k - 1 - i) = rawAt n i :: (rawB n k).drop (k - i) := by
    rw [List.drop_eq_getElem_cons (by rw [rawB_length]; omega), ← e1]
    congr 1
    have := rawB_get n k (k - 1 - i) (by omega)
    unfold byt8 at this
    rw [List.getD_eq_getElem?_getD, List.getElem?_eq_getElem (by rw [rawB_length]; omega), Option.getD_some] at this
    rw [this]
    congr 1; omega
  rw [hd, e1, List.replicate_succ', List.set_append, List.length_replicate, if_neg (by omega), Nat.sub_self]
  simp

theorem sizeS_cases {n : Int} (h0 : 0 ≤ n) (h1 : n ≤ 4611686018427387903) : ∃ k : Nat, sizeS n = (k : Int) ∧ (k = 1 ∨ k = 2 ∨ k = 4 ∨ k = 8) ∧ n.toNat / 256 ^ (k - 1) < 64 := by
  by_cases c3 : n < 64
  · exact ⟨1, sizeS_1 h0 c3, by omega, by simp; omega⟩
  by_cases c4 : n < 16384
  · exact ⟨2, sizeS_2 (by omega) c4, by omega, by simp; omega⟩
  by_cases c5 : n < 1073741824
  · exact ⟨4, sizeS_4 (by omega) c5, by omega, by simp; omega⟩
  · exact ⟨8, sizeS_8 (by omega) h1, by omega, by simp; omega⟩

/-- The first byte takes its mark. -/
theorem mark_val (n : Int) (k : Nat) (hk : k = 1 ∨ k = 2 ∨ k = 4 ∨ k = 8) (hn : n.toNat / 256 ^ (k - 1) < 64) :
    bits .or .u8 ((rawAt n (k - 1)).toNat : Int) (markS k : Nat) = ((UInt8.ofNat (n.toNat / 256 ^ (k - 1) % 256 + markS k)).toNat : Int) := by
  have hr : (rawAt n (k - 1)).toNat = n.toNat / 256 ^ (k - 1) := by unfold rawAt; simp; omega
  have hm : markS k = 64 * (markS k / 64) ∧ markS k ≤ 192 := by rcases hk with rfl | rfl | rfl | rfl <;> decide
  rw [hr]
  generalize n.toNat / 256 ^ (k - 1) = a at *
  rw [u8_or_nat _ _ (by omega) (by omega)]
  have e : a ||| markS k = a + markS k := by
    have := Nat.shiftLeft_add_eq_or_of_lt (i := 6) (b := a) (by omega) (markS k / 64)
    rw [Nat.shiftLeft_eq, show markS k / 64 * 2 ^ 6 = markS k by omega] at this
    rw [Nat.or_comm, ← this, Nat.add_comm]
  rw [e]
  simp; omega
theorem numK_set (l : List UInt8) (n : Int) (k : Nat) (hk : 0 < k) : (l ++ rawB n k).set l.length (UInt8.ofNat (n.toNat / 256 ^ (k - 1) % 256 + markS k)) = l ++ numK n k := by
  rw [List.set_append, if_neg (by omega), Nat.sub_self]; rfl

theorem u8v_set (l : List UInt8) (i : Nat) (c : UInt8) : (u8v l).set i (.int .u8 (c.toNat : Int)) = u8v (l.set i c) := by
  unfold u8v; rw [List.map_set]

/-- A row that was made, and copied into at its head. -/
theorem made_list (n : Nat) : (madeCells #[Value.int .u8 0] n).toList = List.replicate n (Value.int .u8 0) := toList_madeCells_one _ n
theorem heap_of_made {w : World} {B g n : Nat} (h : w.ownsRow B 5 1 (.slice (some ⟨g, 0, none⟩) n n) n (madeCells #[Value.int .u8 0] n).toList) :
    w.heap[g]? = some (.cells (List.replicate n (Value.int .u8 0)).toArray 5 (0, 0)) := by
  rcases h.2 with ⟨h', _⟩ | ⟨g', cap', cur, h', _, hg, _, _, hcs, htake⟩
  · simp at h'
  · simp only [Value.slice.injEq, Option.some.injEq, Addr.mk.injEq, and_true, true_and] at h'
    obtain ⟨rfl, rfl⟩ := h'
    rw [made_list, List.take_of_length_le (by simp [hcs])] at htake
    rw [hg]
    congr 2
    apply Array.ext'
    rw [htake]
theorem own_copied {w : World} {B g k : Nat} {l : List UInt8} (hB : B ≤ g) (hm : l.length + k ≤ 140737488355328)
    (h : w.heap[g]? = some (.cells (splice (List.replicate (l.length + k) (Value.int .u8 0)) 0 (u8v l)).toArray 5 (0, 0))) :
    w.ownsRow B 5 1 (.slice (some ⟨g, 0, none⟩) (l.length + k) (l.length + k)) (l.length + k) (u8v (l ++ List.replicate k 0)) := by
  have e : splice (List.replicate (l.length + k) (Value.int .u8 0)) 0 (u8v l) = u8v (l ++ List.replicate k 0) := by
    unfold splice
    rw [u8v_append, u8v_length]
    simp [u8v]
  rw [e] at h
  refine ⟨by rw [u8v_length]; simp, .inr ⟨g, _, _, rfl, hB, h, Nat.le_refl _, by unfold maxLen; omega, ?_, ?_⟩⟩
  · simp [u8v_length]
  · simp only []
    rw [List.take_of_length_le (by simp [u8v_length])]
theorem grown_trans {a b c : World} {g : Nat} (h : a.grownBy b (some g)) (k : b.grownBy c (some g)) : a.grownBy c (some g) :=
  ⟨k.os.trans h.os, k.tape.trans h.tape, k.output.trans h.output, Nat.le_trans h.size k.size, fun i hi hne => (k.block i (Nat.lt_of_lt_of_le hi h.size) hne).trans (h.block i hi hne)⟩
theorem grown_below {a b : World} {g : Nat} (h : a.grownBy b (some g)) (hg : g ≤ a.heap.size) : Below g a b :=
  ⟨h.os, h.tape, h.output, h.size, fun i hi => h.block i (by omega) (by simp; omega)⟩
theorem text_beq (l m : List UInt8) : ((text l).toList == (text m).toList) = decide (l = m) := by
  have e : ∀ k : List UInt8, (text k).toList = k := fun k => by
    unfold text; simp
  rw [e, e, Bool.eq_iff_iff]; simp
theorem numB_length (n : Int) : (numB n).length ≤ 8 := by
  unfold numB; rw [numK_length]; have := sizeS_bd n; omega
end Go.Proofs.YtioeimkaljmffaaGreatDoor
end

section
namespace Go.Proofs.YtioeimkaljmffaaGreatDoor
open Go.RowKit Go Go.Sort Go.Maps Go.WideMaps
set_option linter.unusedVariables false
set_option maxRecDepth 20000

theorem Bys.trn {F : Nat → Prop} {w W : World} {a : Option Addr} {n cap : Nat} {l : List UInt8} (h : Bys w a n cap l) (hn : 0 < n → ∀ b off, a = some ⟨b, off, none⟩ → ¬ F b) (ht : Trn F w W) : Bys W a n cap l := by
  refine ⟨h.len, h.le, h.max, ?_⟩
  rcases h.adr with h4 | ⟨b, off, rfl, hc⟩
  · exact .inl h4
  · exact .inr ⟨b, off, rfl, fun i hi => by rw [World.cell?_of_block (ht.block b (World.block_lt_of_cell? w _ (hc i hi)) (hn (by omega) b off rfl))]; exact hc i hi⟩
theorem used_F {w : World} {q m : Nat} {pv : Value} {FS : List Fl} {st : Ds} (h : DiskIn w q m pv FS st) : usedF st.F ≤ 67108864 := by
  have hu : usedF st.F = (FS.map fun x => x.f.b.length).sum := by unfold usedF; rw [← h.pr, List.map_map]; rfl
  rw [hu]
  exact h.few (Nat.le_refl _) (fun x hx => hx)
set_option maxRecDepth 100000 in
set_option maxHeartbeats 6400000 in
theorem dappend_c {w : World} {q : Nat} {st : Ds} {F : Nat → Prop} (hk : Dk w q st F) (nm : List UInt8) (hn : nm.length ≤ 9223372036854775807) {ab : Option Addr} {bl cb : Nat} {l : List UInt8} (hbl : Bys w ab bl cb l) (hbl2 : l.length ≤ 1000000) (hbn : 0 < bl → ∀ b off, ab = some ⟨b, off, none⟩ → ¬ F b) : Calls Tryz.prog 31 #[.pointer (some ⟨q, 0, none⟩), .string (text nm), .slice ab bl cb] w (DPost q F (.int .i64 (st.append nm l).1) (st.append nm l).2 w) := by
  obtain ⟨m, pv, FS, h, rfl⟩ := hk
  have hb := alloc_below w (.cells #[.slice ab bl cb] 34)
  have HV0 := Lib.hid (heap_alloc_new w (.cells #[.slice ab bl cb] 34))
  have HD1 := Lib.hid (h.below hb)
  have HFL := Lib.hid (fun k (hk : foot q m pv FS k) => h.lt hk)
  have HB := Lib.hid hb
  have HLF := Lib.hid (h.lookF nm)
  have HN := Lib.hid hn
  have HUS := Lib.hid (used_F h)
  have HBL := Lib.hid (hbl.below hb)
  have HBN := Lib.hid hbn
  have hlb := hbl.len
  have HLB := Lib.hid (show l.length = bl ∧ bl ≤ 1000000 from ⟨hlb, by omega⟩)
  clear hbl hbl2 hbn hlb
  clear h hb hn
  cases hon : st.on with
  | false =>
    have HON := Lib.hid hon
    have HR := Lib.hid (show st.append nm l = (150, st) by unfold Ds.append; rw [if_pos hon])
    rw [HR.out]
    clear hon
    go_enter Tryz.func31, Tryz.ntmps31
    go_upto_region 1 with (fail)
    generalize w.alloc (.cells #[.slice ab bl cb] 34) = W1 at *
    go_wp2_with (go_at_call 70; (with_reducible refine (dfind_off HD1.out _ HON.out).mono ?_); rintro e9 w9 ⟨rfl, rfl⟩)
    go_ret
    exact (dk_below (⟨m, pv, FS, HD1.out, rfl⟩ : Dk W1 q st _) (alloc_below _ _) _).pre HB.out
  | true =>
    have HON := Lib.hid hon
    cases hf : FS.find? (fun x => x.f.nm == nm) with
    | none =>
      have HF := Lib.hid hf
      have HR := Lib.hid (show st.append nm l = (152, st) by unfold Ds.append; rw [if_neg (by simp [hon]), HLF.out, hf]; rfl)
      rw [HR.out]
      have HFN := Lib.hid (dfind_none HD1.out nm HN.out HON.out HF.out)
      obtain ⟨tx, htx⟩ : ∃ s, text nm = s := ⟨_, rfl⟩
      rw [htx] at HFN ⊢
      clear htx hon hf
      go_enter Tryz.func31, Tryz.ntmps31
      go_upto_region 1 with (fail)
      generalize w.alloc (.cells #[.slice ab bl cb] 34) = W1 at *
      go_wp2_with (go_at_call 70; (with_reducible refine HFN.out.mono ?_); rintro e9 w9 ⟨rfl, rfl⟩)
      go_ret
      exact (dk_below (⟨m, pv, FS, HD1.out, rfl⟩ : Dk W1 q st _) (alloc_below _ _) _).pre HB.out
    | some x =>
      have HF := Lib.hid hf
      have HLS := Lib.hid (show lookF st.F nm = some x.f by rw [HLF.out, hf]; rfl)
      have HFI := Lib.hid (HD1.out.file hf)
      have HFN := Lib.hid (dfind_some HD1.out nm HN.out HON.out HF.out)
      have hb4 := alloc_below (w.alloc (.cells #[.slice ab bl cb] 34)) (.cells #[.pointer (some ⟨x.g, 0, none⟩)] 101)
      have hv4 := heap_alloc_new (w.alloc (.cells #[.slice ab bl cb] 34)) (.cells #[.pointer (some ⟨x.g, 0, none⟩)] 101)
      rw [World.size_alloc] at hv4
      have HV4 := Lib.hid hv4
      have HB47 := Lib.hid hb4
      have HXG0 := Lib.hid (show x.g = x.g from rfl)
      have HV5 := Lib.hid (heapB HV0.out hb4)
      have HD4 := Lib.hid (HD1.out.below hb4)
      have HB4 := Lib.hid (HB.out.trans (hb4.mono HB.out.size))
      obtain ⟨-, -, hxl, hxs, xa, xc, hxv, hxb, hbx⟩ := HD4.out.file hf
      obtain ⟨xl, hxl2⟩ : ∃ n, x.f.b.length = n := ⟨_, rfl⟩
      obtain ⟨xg, hxg⟩ : ∃ n, x.g = n := ⟨_, rfl⟩
      obtain ⟨tx, htx⟩ : ∃ s, text nm = s := ⟨_, rfl⟩
      rw [hxl2, hxg] at hbx
      rw [hxl2] at hxl
      have HXL := Lib.hid hxl2
      have HBX := Lib.hid hbx
      have HXL2 := Lib.hid hxl
      rw [hxg] at HFN HV4 HV5 HD4 HB4 HB47
      replace HXG0 := Lib.hid hxg
      rw [htx] at HFN ⊢
      have HMU := Lib.hid (show st.append nm l = st.append nm l from rfl)
      clear hb4 hv4 hxs hxv hxb hbx hxl hon hf
      have s1 : IntKind.i64.wrap ((xl : Int) + (bl : Int)) = ((xl + bl : Nat) : Int) := by have := HLB.out; have := HXL2.out; rw [IntKind.wrap_i64]; omega
      have s2 : wrap64 ((xl : Int) + (bl : Int)) = ((xl + bl : Nat) : Int) := by have := HLB.out; have := HXL2.out; unfold wrap64; omega
      have HS1 := Lib.hid s1
      have HS2 := Lib.hid s2
      clear s1 s2 hxl2 hxg htx
      by_cases hlong : 1048576 < xl + bl
      · have HR := Lib.hid (show st.append nm l = (3, st) by
          unfold Ds.append; rw [if_neg (by rw [HON.out]; simp), HLS.out]; simp only; rw [if_pos (by have := HLB.out; have := HXL.out; omega)])
        rw [HR.out]
        have hd : decide ((1048576 : Int) < ((xl + bl : Nat) : Int)) = true := by simp; omega
        have hd3 : (1048576 : Int) < (xl : Int) + (bl : Int) := by omega
        clear hlong
        go_enter Tryz.func31, Tryz.ntmps31
        go_upto_region 4 with (go_at_call 70; (with_reducible refine HFN.out.mono ?_); rintro e9 w9 ⟨rfl, rfl⟩)
        generalize hW4 : (w.alloc (.cells #[.slice ab bl cb] 34)).alloc (.cells #[.pointer (some ⟨xg, 0, none⟩)] 101) = W4 at *
        clear hW4
        have k0 := cell_regrown (var_c HV5.out)
        have k1 := cell_regrown (var_c HV4.out)
        have k2 := cell_regrown (box_cs HBX.out).1
        have s1 := HS1.out
        have s2 := HS2.out
        refine wp_region_quiet_below (by kernel_rfl) (by kernel_rfl) ?_
        repeat (go_big_quiet_step (fail))
        refine wpQuiet_nil ?_
        intro _ hw'
        obtain ⟨⟨dq5, osq5⟩, hw''⟩ := hw'
        subst hw''
        have hbq := below_regrown W4 dq5 osq5
        clear k0 k1 k2 s1 s2
        go_wp2
        go_ret
        exact (dk_below (⟨m, pv, FS, HD4.out, rfl⟩ : Dk W4 q st _) hbq _).pre HB4.out
      · have hd : decide ((1048576 : Int) < ((xl + bl : Nat) : Int)) = false := by simp; omega
        have hd3 : ¬ (1048576 : Int) < (xl : Int) + (bl : Int) := by omega
        obtain ⟨us, hus⟩ : ∃ n, usedF st.F = n := ⟨_, rfl⟩
        have HUS2 := Lib.hid (show usedF st.F = us ∧ us ≤ 67108864 from ⟨hus, by have := HUS.out; omega⟩)
        have s3 : IntKind.i64.wrap ((us : Int) + (bl : Int)) = ((us + bl : Nat) : Int) := by have := HLB.out; have := HUS2.out; rw [IntKind.wrap_i64]; omega
        have s4 : wrap64 ((us : Int) + (bl : Int)) = ((us + bl : Nat) : Int) := by have := HLB.out; have := HUS2.out; unfold wrap64; omega
        have HS3 := Lib.hid (And.intro s3 s4)
        have HD := Lib.hid (And.intro hd hd3)
        have HLG := Lib.hid hlong
        clear s3 s4 hd hd3 hlong hus
        by_cases hroom : st.room < ((us + bl : Nat) : Int)
        · have HR := Lib.hid (show st.append nm l = (151, st) by
            unfold Ds.append; rw [if_neg (by rw [HON.out]; simp), HLS.out]; simp only
            rw [if_neg (by have := HLB.out; have := HXL.out; have := HLG.out; omega), if_pos (by have := HLB.out; have := HUS2.out; omega)])
          rw [HR.out]
          have HDR := Lib.hid (show decide (st.room < ((us + bl : Nat) : Int)) = true ∧ st.room < (us : Int) + (bl : Int) from ⟨by simpa using hroom, by omega⟩)
          clear hroom
          go_enter Tryz.func31, Tryz.ntmps31
          go_upto_region 4 with (go_at_call 70; (with_reducible refine HFN.out.mono ?_); rintro e9 w9 ⟨rfl, rfl⟩)
          generalize hW4 : (w.alloc (.cells #[.slice ab bl cb] 34)).alloc (.cells #[.pointer (some ⟨xg, 0, none⟩)] 101) = W4 at *
          clear hW4
          have k0 := cell_regrown (var_c HV5.out)
          have k1 := cell_regrown (var_c HV4.out)
          have k2 := cell_regrown (box_cs HBX.out).1
          have s1 := HS1.out
          have s2 := HS2.out
          obtain ⟨hd, hd3⟩ := HD.out
          refine wp_region_quiet_below (by kernel_rfl) (by kernel_rfl) ?_
          repeat (go_big_quiet_step (fail))
          refine wpQuiet_nil ?_
          intro _ hw'
          obtain ⟨⟨dq5, osq5⟩, hw''⟩ := hw'
          subst hw''
          have hbq := below_regrown W4 dq5 osq5
          have HB5 := Lib.hid hbq
          have HD5 := Lib.hid (HD4.out.below hbq)
          have HV45 := Lib.hid (heapB HV5.out hbq)
          clear k0 k1 k2 s1 s2 hbq
          generalize grow (redrawn W4 dq5) osq5 = W5 at *
          have k0 := cell_regrown (var_c HV45.out)
          have k3 := cell_regrown HD5.out.cs.2.1
          have hus := fun (d : Nat) (os : Array Obj) => (dused_c (HD5.out.below (below_regrown W5 d os))).regrown_of
          rw [HUS2.out.1] at hus
          have HUD := Lib.hid hus
          obtain ⟨s3, s4⟩ := HS3.out
          obtain ⟨hdr, hdr2⟩ := HDR.out
          clear hus
          go_upto_region 6 with (fail)
          clear hd hd3
          refine wp_region_quiet_below (by kernel_rfl) (by kernel_rfl) ?_
          repeat (go_big_quiet_step (with_reducible exact HUD.out _ _))
          refine wpQuiet_nil ?_
          intro _ hw'
          obtain ⟨⟨dq6, osq6⟩, hw''⟩ := hw'
          subst hw''
          have hbq := below_regrown W5 dq6 osq6
          have HB6 := Lib.hid (HB5.out.trans (hbq.mono HB5.out.size))
          clear k0 k3 s3 s4 hbq
          generalize grow (redrawn W5 dq6) osq6 = W6 at *
          go_wp2
          go_ret
          exact (dk_below (⟨m, pv, FS, HD4.out, rfl⟩ : Dk W4 q st _) HB6.out _).pre HB4.out
        · have HR := Lib.hid (show st.append nm l = st.opd (setF nm fun f => ⟨f.nm, f.b ++ l, f.su⟩) (setF nm fun f => ⟨f.nm, f.b ++ l, f.su⟩) by
            unfold Ds.append; rw [if_neg (by rw [HON.out]; simp), HLS.out]; simp only
            rw [if_neg (by have := HLB.out; have := HXL.out; have := HLG.out; omega), if_neg (by have := HLB.out; have := HUS2.out; omega)])
          rw [HR.out]
          have HDR := Lib.hid (show decide (st.room < ((us + bl : Nat) : Int)) = false ∧ ¬ st.room < (us : Int) + (bl : Int) from ⟨by simpa using hroom, by omega⟩)
          clear hroom
          go_enter Tryz.func31, Tryz.ntmps31
          go_upto_region 4 with (go_at_call 70; (with_reducible refine HFN.out.mono ?_); rintro e9 w9 ⟨rfl, rfl⟩)
          generalize hW4 : (w.alloc (.cells #[.slice ab bl cb] 34)).alloc (.cells #[.pointer (some ⟨xg, 0, none⟩)] 101) = W4 at *
          clear hW4
          have k0 := cell_regrown (var_c HV5.out)
          have k1 := cell_regrown (var_c HV4.out)
          have k2 := cell_regrown (box_cs HBX.out).1
          have s1 := HS1.out
          have s2 := HS2.out
          obtain ⟨hd, hd3⟩ := HD.out
          refine wp_region_quiet_below (by kernel_rfl) (by kernel_rfl) ?_
          repeat (go_big_quiet_step (fail))
          refine wpQuiet_nil ?_
          intro _ hw'
          obtain ⟨⟨dq5, osq5⟩, hw''⟩ := hw'
          subst hw''
          have hbq := below_regrown W4 dq5 osq5
          have HB5 := Lib.hid hbq
          have HD5 := Lib.hid (HD4.out.below hbq)
          have HV45 := Lib.hid (heapB HV5.out hbq)
          clear k0 k1 k2 s1 s2 hbq
          generalize grow (redrawn W4 dq5) osq5 = W5 at *
          have k0 := cell_regrown (var_c HV45.out)
          have k3 := cell_regrown HD5.out.cs.2.1
          have hus := fun (d : Nat) (os : Array Obj) => (dused_c (HD5.out.below (below_regrown W5 d os))).regrown_of
          rw [HUS2.out.1] at hus
          have HUD := Lib.hid hus
          obtain ⟨s3, s4⟩ := HS3.out
          obtain ⟨hdr, hdr2⟩ := HDR.out
          clear hus
          go_upto_region 6 with (fail)
          clear hd hd3
          refine wp_region_quiet_below (by kernel_rfl) (by kernel_rfl) ?_
          repeat (go_big_quiet_step (with_reducible exact HUD.out _ _))
          refine wpQuiet_nil ?_
          intro _ hw'
          obtain ⟨⟨dq6, osq6⟩, hw''⟩ := hw'
          subst hw''
          have hbq := below_regrown W5 dq6 osq6
          have HB6 := Lib.hid (HB5.out.trans (hbq.mono HB5.out.size))
          clear k0 k3 s3 s4 hbq
          generalize grow (redrawn W5 dq6) osq6 = W6 at *
          have HV8 := Lib.hid (heapB HV4.out HB6.out)
          have HV9 := Lib.hid (heapB HV5.out HB6.out)
          have HD8 := Lib.hid (HD4.out.below HB6.out)
          have HBL8 := Lib.hid (HBL.out.below (HB47.out.trans (HB6.out.mono HB47.out.size)))
          have HE0 := Lib.hid (enD Tryz.func72 (by kernel_rfl) rfl)
          have HXX := Lib.hid (show x.f.b.length + l.length ≤ 1048576 by have := HLB.out; have := HXL.out; have := HLG.out; omega)
          have HXG := Lib.hid (show x.g = xg from HXG0.out)
          have HOP := Lib.hid (doperate22_c HD8.out HE0.out HE0.out (x0 := .pointer (some ⟨w.heap.size + 1, 0, none⟩)) (x1 := .pointer (some ⟨w.heap.size, 0, none⟩)) (y0 := .pointer (some ⟨w.heap.size + 1, 0, none⟩)) (y1 := .pointer (some ⟨w.heap.size, 0, none⟩)) (setF nm fun f => ⟨f.nm, f.b ++ l, f.su⟩) (setF nm fun f => ⟨f.nm, f.b ++ l, f.su⟩)
            (fun W st' ht hF hd => dappend1_c hd HF.out (by rw [HXG.out]; exact ht.box HFL.out (by omega) HV8.out) (ht.box HFL.out (Nat.le_refl _) HV9.out) (HBL8.out.trn HBN.out ht) HXX.out)
            (fun W st' ht hF hd => dappend1_c hd HF.out (by rw [HXG.out]; exact ht.box HFL.out (by omega) HV8.out) (ht.box HFL.out (Nat.le_refl _) HV9.out) (HBL8.out.trn HBN.out ht) HXX.out))
          go_wp2_with (go_at_call 67; (with_reducible refine HOP.out.mono ?_); rintro e5 w5 ⟨rfl, F5, hk5, ht5, hf5⟩; have HP5 := Lib.hid (And.intro hk5 (And.intro ht5 hf5)); clear hk5 ht5 hf5)
          go_ret
          exact DPost.pre HB4.out (DPost.pre HB6.out ⟨rfl, F5, HP5.out⟩)
end Go.Proofs.YtioeimkaljmffaaGreatDoor
end

section
namespace Go.Proofs.YtioeimkaljmffaaGreatDoor
open Go.RowKit Go Go.Sort Go.Maps Go.WideMaps
set_option linter.unusedVariables false
set_option maxRecDepth 20000

set_option maxRecDepth 100000 in
set_option maxHeartbeats 6400000 in
theorem dcut_c {w : World} {q : Nat} {st : Ds} {F : Nat → Prop} (hk : Dk w q st F) (nm : List UInt8) (hn : nm.length ≤ 9223372036854775807) (n : Int) : Calls Tryz.prog 94 #[.pointer (some ⟨q, 0, none⟩), .string (text nm), .int .i64 n] w (DPost q F (.int .i64 (st.cut nm n).1) (st.cut nm n).2 w) := by
  obtain ⟨m, pv, FS, h, rfl⟩ := hk
  have hb := alloc_below w (.cells #[.int .i64 n] 3)
  have HV0 := Lib.hid (heap_alloc_new w (.cells #[.int .i64 n] 3))
  have HD1 := Lib.hid (h.below hb)
  have HFL := Lib.hid (fun k (hk : foot q m pv FS k) => h.lt hk)
  have HB := Lib.hid hb
  have HLF := Lib.hid (h.lookF nm)
  have HN := Lib.hid hn
  clear h hb hn
  cases hon : st.on with
  | false =>
    have HON := Lib.hid hon
    have HR := Lib.hid (show st.cut nm n = (150, st) by unfold Ds.cut; rw [if_pos hon])
    rw [HR.out]
    clear hon
    go_enter Tryz.func94, Tryz.ntmps94
    go_upto_region 1 with (fail)
    generalize w.alloc (.cells #[.int .i64 n] 3) = W1 at *
    go_wp2_with (go_at_call 70; (with_reducible refine (dfind_off HD1.out _ HON.out).mono ?_); rintro e9 w9 ⟨rfl, rfl⟩)
    go_ret
    exact (dk_below (⟨m, pv, FS, HD1.out, rfl⟩ : Dk W1 q st _) (alloc_below _ _) _).pre HB.out
  | true =>
    have HON := Lib.hid hon
    cases hf : FS.find? (fun x => x.f.nm == nm) with
    | none =>
      have HF := Lib.hid hf
      have HR := Lib.hid (show st.cut nm n = (152, st) by unfold Ds.cut; rw [if_neg (by simp [hon]), HLF.out, hf]; rfl)
      rw [HR.out]
      have HFN := Lib.hid (dfind_none HD1.out nm HN.out HON.out HF.out)
      obtain ⟨tx, htx⟩ : ∃ s, text nm = s := ⟨_, rfl⟩
      rw [htx] at HFN ⊢
      clear htx hon hf
      go_enter Tryz.func94, Tryz.ntmps94
      go_upto_region 1 with (fail)
      generalize w.alloc (.cells #[.int .i64 n] 3) = W1 at *
      go_wp2_with (go_at_call 70; (with_reducible refine HFN.out.mono ?_); rintro e9 w9 ⟨rfl, rfl⟩)
      go_ret
      exact (dk_below (⟨m, pv, FS, HD1.out, rfl⟩ : Dk W1 q st _) (alloc_below _ _) _).pre HB.out
    | some x =>
      have HF := Lib.hid hf
      have HLS := Lib.hid (show lookF st.F nm = some x.f by rw [HLF.out, hf]; rfl)
      have HFI := Lib.hid (HD1.out.file hf)
      have HFN := Lib.hid (dfind_some HD1.out nm HN.out HON.out HF.out)
      have hb4 := alloc_below (w.alloc (.cells #[.int .i64 n] 3)) (.cells #[.pointer (some ⟨x.g, 0, none⟩)] 101)
      have hv4 := heap_alloc_new (w.alloc (.cells #[.int .i64 n] 3)) (.cells #[.pointer (some ⟨x.g, 0, none⟩)] 101)
      rw [World.size_alloc] at hv4
      have HV4 := Lib.hid hv4
      have HXG0 := Lib.hid (show x.g = x.g from rfl)
      have HV5 := Lib.hid (heapB HV0.out hb4)
      have HD4 := Lib.hid (HD1.out.below hb4)
      have HB4 := Lib.hid (HB.out.trans (hb4.mono HB.out.size))
      obtain ⟨-, -, hxl, hxs, xa, xc, hxv, hxb, hbx⟩ := HD4.out.file hf
      obtain ⟨xl, hxl2⟩ : ∃ n, x.f.b.length = n := ⟨_, rfl⟩
      obtain ⟨xg, hxg⟩ : ∃ n, x.g = n := ⟨_, rfl⟩
      obtain ⟨tx, htx⟩ : ∃ s, text nm = s := ⟨_, rfl⟩
      rw [hxl2, hxg] at hbx
      rw [hxl2] at hxl
      have HXL := Lib.hid hxl2
      have HBX := Lib.hid hbx
      have HXL2 := Lib.hid hxl
      rw [hxg] at HFN HV4 HV5 HD4 HB4
      replace HXG0 := Lib.hid hxg
      rw [htx] at HFN ⊢
      have HMU := Lib.hid (show st.cut nm n = st.cut nm n from rfl)
      clear hb4 hv4 hxs hxv hxb hbx hxl hon hf
      clear hxl2 hxg htx
      by_cases hneg : n < 0
      · have HR := Lib.hid (show st.cut nm n = (2, st) by
          unfold Ds.cut; rw [if_neg (by rw [HON.out]; simp), HLS.out]; simp only; rw [if_pos (.inl hneg)])
        rw [HR.out]
        have hd : decide (n < 0) = true := by simpa using hneg
        go_enter Tryz.func94, Tryz.ntmps94
        go_upto_region 4 with (go_at_call 70; (with_reducible refine HFN.out.mono ?_); rintro e9 w9 ⟨rfl, rfl⟩)
        generalize hW4 : (w.alloc (.cells #[.int .i64 n] 3)).alloc (.cells #[.pointer (some ⟨xg, 0, none⟩)] 101) = W4 at *
        clear hW4
        have k0 := cell_regrown (var_c HV5.out)
        have k1 := cell_regrown (var_c HV4.out)
        have k2 := cell_regrown (box_cs HBX.out).1
        refine wp_region_quiet_below (by kernel_rfl) (by kernel_rfl) ?_
        repeat (go_big_quiet_step (fail))
        refine wpQuiet_nil ?_
        intro _ hw'
        obtain ⟨⟨dq5, osq5⟩, hw''⟩ := hw'
        subst hw''
        have hbq := below_regrown W4 dq5 osq5
        clear k0 k1 k2
        go_wp2
        go_ret
        exact (dk_below (⟨m, pv, FS, HD4.out, rfl⟩ : Dk W4 q st _) hbq _).pre HB4.out
      obtain ⟨k, rfl⟩ := Int.eq_ofNat_of_zero_le (show 0 ≤ n by omega)
      clear hneg
      have hd0 : ¬ ((k : Nat) : Int) < 0 := by omega
      have hd1 : decide (((k : Nat) : Int) < 0) = false := by simp
      by_cases hbig : (xl : Int) < (k : Int)
      · have HR := Lib.hid (show st.cut nm k = (2, st) by
          unfold Ds.cut; rw [if_neg (by rw [HON.out]; simp), HLS.out]; simp only; rw [if_pos (.inr (by rw [HXL.out]; exact hbig))])
        rw [HR.out]
        have hd : decide ((xl : Int) < (k : Int)) = true := by simpa using hbig
        go_enter Tryz.func94, Tryz.ntmps94
        go_upto_region 4 with (go_at_call 70; (with_reducible refine HFN.out.mono ?_); rintro e9 w9 ⟨rfl, rfl⟩)
        generalize hW4 : (w.alloc (.cells #[.int .i64 (k : Int)] 3)).alloc (.cells #[.pointer (some ⟨xg, 0, none⟩)] 101) = W4 at *
        clear hW4
        have k0 := cell_regrown (var_c HV5.out)
        have k1 := cell_regrown (var_c HV4.out)
        have k2 := cell_regrown (box_cs HBX.out).1
        refine wp_region_quiet_below (by kernel_rfl) (by kernel_rfl) ?_
        repeat (go_big_quiet_step (fail))
        refine wpQuiet_nil ?_
        intro _ hw'
        obtain ⟨⟨dq5, osq5⟩, hw''⟩ := hw'
        subst hw''
        have hbq := below_regrown W4 dq5 osq5
        clear k0 k1 k2
        go_wp2
        go_ret
        exact (dk_below (⟨m, pv, FS, HD4.out, rfl⟩ : Dk W4 q st _) hbq _).pre HB4.out
      have HR := Lib.hid (show st.cut nm k = st.opd (setF nm fun f => ⟨f.nm, f.b.take k, min f.su k⟩) id by
        unfold Ds.cut; rw [if_neg (by rw [HON.out]; simp), HLS.out]; simp only; rw [if_neg (by rw [HXL.out]; omega)]; rfl)
      rw [HR.out]
      have hd : decide ((xl : Int) < (k : Int)) = false := by simpa using hbig
      have HKL := Lib.hid (show k ≤ x.f.b.length by rw [HXL.out]; omega)
      go_enter Tryz.func94, Tryz.ntmps94
      go_upto_region 4 with (go_at_call 70; (with_reducible refine HFN.out.mono ?_); rintro e9 w9 ⟨rfl, rfl⟩)
      generalize hW4 : (w.alloc (.cells #[.int .i64 (k : Int)] 3)).alloc (.cells #[.pointer (some ⟨xg, 0, none⟩)] 101) = W4 at *
      clear hW4
      have k0 := cell_regrown (var_c HV5.out)
      have k1 := cell_regrown (var_c HV4.out)
      have k2 := cell_regrown (box_cs HBX.out).1
      refine wp_region_quiet_below (by kernel_rfl) (by kernel_rfl) ?_
      repeat (go_big_quiet_step (fail))
      refine wpQuiet_nil ?_
      intro _ hw'
      obtain ⟨⟨dq5, osq5⟩, hw''⟩ := hw'
      subst hw''
      have hbq := below_regrown W4 dq5 osq5
      clear k0 k1 k2
      have HB5 := Lib.hid hbq
      have HD5 := Lib.hid (HD4.out.below hbq)
      have HV8 := Lib.hid (heapB HV4.out hbq)
      have HV9 := Lib.hid (heapB HV5.out hbq)
      clear hbq
      generalize grow (redrawn W4 dq5) osq5 = W5 at *
      have HE0 := Lib.hid (enD Tryz.func126 (by kernel_rfl) rfl)
      have HXG := Lib.hid (show x.g = xg from HXG0.out)
      have HOP := Lib.hid (doperate20_c HD5.out HE0.out enNothing (x0 := .pointer (some ⟨w.heap.size + 1, 0, none⟩)) (x1 := .pointer (some ⟨w.heap.size, 0, none⟩)) (setF nm fun f => ⟨f.nm, f.b.take k, min f.su k⟩) id
        (fun W st' ht hF hd => dcut1_c hd HF.out (by rw [HXG.out]; exact ht.box HFL.out (by omega) HV8.out) (ht.box HFL.out (Nat.le_refl _) HV9.out) HKL.out)
        (fun W st' ht hF hd => dnothing_c hd))
      go_wp2_with (go_at_call 67; (with_reducible refine HOP.out.mono ?_); rintro e5 w5 ⟨rfl, F5, hk5, ht5, hf5⟩; have HP5 := Lib.hid (And.intro hk5 (And.intro ht5 hf5)); clear hk5 ht5 hf5)
      go_ret
      exact DPost.pre HB4.out (DPost.pre HB5.out ⟨rfl, F5, HP5.out⟩)
end Go.Proofs.YtioeimkaljmffaaGreatDoor
end

section
namespace Go.Proofs.YtioeimkaljmffaaGreatDoor
open Go.RowKit Go Go.Sort Go.Maps Go.WideMaps
set_option linter.unusedVariables false
set_option maxRecDepth 20000

theorem infoD5 : (Tryz.prog.info? 5).map (fun i => (i.zero, i.size, i.bytes)) = some (some (.int .u8 0), 1, 1) := by kernel_rfl
/-- What Read leaves. -/
def ReadPost (w : World) (b : Option (List UInt8)) (n : Int) (e : Ending) (w' : World) : Prop :=
  ∃ v, e = .returned (.tuple #[v, .int .i64 n]) ∧ Below w.heap.size w w' ∧ match b with
    | none => v = .slice none 0 0
    | some l => OwnB w' w.heap.size 5 v l
set_option maxRecDepth 100000 in
set_option maxHeartbeats 6400000 in
theorem dread_c {w : World} {q : Nat} {st : Ds} {F : Nat → Prop} (hk : Dk w q st F) (nm : List UInt8) (hn : nm.length ≤ 9223372036854775807) : Calls Tryz.prog 32 #[.pointer (some ⟨q, 0, none⟩), .string (text nm)] w (ReadPost w (st.read nm).1 (st.read nm).2) := by
  obtain ⟨m, pv, FS, h, rfl⟩ := hk
  have HD1 := Lib.hid h
  have HLF := Lib.hid (h.lookF nm)
  have HN := Lib.hid hn
  clear h hn
  cases hon : st.on with
  | false =>
    have HON := Lib.hid hon
    have HR := Lib.hid (show st.read nm = (none, 150) by unfold Ds.read; rw [if_pos hon])
    rw [HR.out]
    clear hon
    go_enter Tryz.func32, Tryz.ntmps32
    go_wp2_with (go_at_call 70; (with_reducible refine (dfind_off HD1.out _ HON.out).mono ?_); rintro e9 w9 ⟨rfl, rfl⟩)
    go_ret2
    exact ⟨_, rfl, Below.refl _ _, rfl⟩
  | true =>
    have HON := Lib.hid hon
    cases hf : FS.find? (fun x => x.f.nm == nm) with
    | none =>
      have HF := Lib.hid hf
      have HR := Lib.hid (show st.read nm = (none, 152) by unfold Ds.read; rw [if_neg (by simp [hon]), HLF.out, hf]; rfl)
      rw [HR.out]
      have HFN := Lib.hid (dfind_none HD1.out nm HN.out HON.out HF.out)
      obtain ⟨tx, htx⟩ : ∃ s, text nm = s := ⟨_, rfl⟩
      rw [htx] at HFN ⊢
      clear htx hon hf
      go_enter Tryz.func32, Tryz.ntmps32
      go_wp2_with (go_at_call 70; (with_reducible refine HFN.out.mono ?_); rintro e9 w9 ⟨rfl, rfl⟩)
      go_ret2
      exact ⟨_, rfl, Below.refl _ _, rfl⟩
    | some x =>
      have HF := Lib.hid hf
      have HLS := Lib.hid (show lookF st.F nm = some x.f by rw [HLF.out, hf]; rfl)
      have HR := Lib.hid (show st.read nm = (some x.f.b, 0) by unfold Ds.read; rw [if_neg (by simp [hon]), HLS.out])
      rw [HR.out]
      have HFN := Lib.hid (dfind_some HD1.out nm HN.out HON.out HF.out)
      obtain ⟨-, -, hxl, -, xa, xc, hxv, hxb, hbx⟩ := HD1.out.file hf
      obtain ⟨l, hl⟩ : ∃ l, x.f.b = l := ⟨_, rfl⟩
      obtain ⟨xg, hxg⟩ : ∃ n, x.g = n := ⟨_, rfl⟩
      obtain ⟨tx, htx⟩ : ∃ s, text nm = s := ⟨_, rfl⟩
      rw [hl] at hxb hbx hxl
      rw [hxg] at hbx HFN
      rw [hl]
      rw [htx] at HFN ⊢
      clear htx hxg hl hon hf hxv
      obtain ⟨i0, hi, hz0, hz1, hz2⟩ := info_parts infoD5
      have hsz : (Tryz.prog.info? 5).map (·.size) = some 1 := by rw [hi]; simp [hz1]
      have k2 := (box_cs hbx).1
      have hbel0 := Below.refl w.heap.size w
      go_enter Tryz.func32, Tryz.ntmps32
      go_wp2_with (first
        | (go_at_call 70; (with_reducible refine HFN.out.mono ?_); rintro e9 w9 ⟨rfl, rfl⟩)
        | (at_make; refine wpList_make_full _ rfl _ _ 34 rfl w.heap.size 5 i0 (.int .u8 0) 1 Tryz.underlying34 hi hz0 hz1 .i64 .i64 _ _ l.length rfl rfl ?c1 ?c2 ?c3 ?c4 ?c5 ?_))
      case c1 => simp
      case c2 => simp
      case c3 => rw [hz2]; omega
      case c4 => unfold maxLen; omega
      case c5 => exact Nat.le_refl _
      intro w1 hown hgr
      have hbel : Below w.heap.size w w1 := (Below.refl _ _).grown hgr (Nat.le_refl _) (fun k hk => by cases hk)
      have HH := Lib.hid (show w1.heap[w.heap.size]? = some (.cells (List.replicate l.length (Value.int .u8 0)).toArray 5 (0, 0)) from heap_of_made hown)
      have hcl : (u8v l).length = l.length := u8v_length l
      have HP := Lib.hid (show 0 < (u8v l).length → ∃ ad, xa = some ad ∧ ∀ j v, (u8v l)[j]? = some v → w1.cell? (ad.add j) = some v from fun hp => (hxb.below hbel).cells (by rw [hcl] at hp; exact hp))
      have HM := Lib.hid (show (u8v l).length = Nat.min l.length l.length by rw [hcl]; exact (Nat.min_self _).symm)
      have hfit : 0 + (u8v l).length ≤ (List.replicate l.length (Value.int .u8 0)).length := by rw [hcl]; simp
      have k3 := (box_cs (heapB hbx hbel)).1
      clear hown hgr k2
      go_wp2_with (with_reducible refine wpList_copy_splice rfl (.tmp 24) (.tmp 28) 34 34 rfl 5 Tryz.underlying34 hsz (some ⟨w.heap.size, 0, none⟩) xa l.length l.length l.length xc rfl rfl w.heap.size 0 (List.replicate l.length (Value.int .u8 0)) 5 HH.out (u8v l) HM.out (fun hp => ⟨rfl, HP.out hp⟩) hfit (u8v_one l) w.heap.size w hbel (Nat.le_refl _) ?_; intro w4 hg4 hb4)
      go_ret2
      have ho := own_copied (k := 0) (Nat.le_refl w.heap.size) (by omega) hg4.out
      exact ⟨_, rfl, hb4, by simpa [OwnB] using ho⟩
end Go.Proofs.YtioeimkaljmffaaGreatDoor
end

section
namespace Go.Proofs.YtioeimkaljmffaaGreatDoor
open Go.RowKit Go Go.Sort Go.Maps Go.WideMaps
set_option linter.unusedVariables false
set_option maxRecDepth 20000

/-- A disk whose memory is behind w0's. -/
def Lv (w0 W : World) (q : Nat) (st : Ds) : Prop := ∃ F, Dk W q st F ∧ (∀ k, F k → w0.heap.size ≤ k) ∧ Below w0.heap.size w0 W
def LvP (w0 : World) (q : Nat) (st : Ds) (v : Value) (e : Ending) (W : World) : Prop := e = .returned v ∧ Lv w0 W q st
section
variable {w0 w w' : World} {q : Nat} {st st' : Ds}
theorem Lv.b (h : Lv w0 w q st) : Below w0.heap.size w0 w := by obtain ⟨F, -, -, hb⟩ := h; exact hb
theorem Lv.post {v : Value} {e : Ending} {F : Nat → Prop} (hlo : ∀ k, F k → w0.heap.size ≤ k) (hb : Below w0.heap.size w0 w) (h : DPost q F v st' w e w') : LvP w0 q st' v e w' := by
  obtain ⟨he, F', hk, ht, hf⟩ := h
  exact ⟨he, F', hk, fun k hk => (hf k hk).elim (hlo k) (fun h => Nat.le_trans hb.size h), hb.trans (ht.base hb.size hlo)⟩
theorem Lv.keep (h : Lv w0 w q st) (hb : Below w.heap.size w w') : Lv w0 w' q st := by
  obtain ⟨F, hk, hlo, hb0⟩ := h
  exact ⟨F, hk.below hb, hlo, hb0.trans (hb.mono hb0.size)⟩
theorem lv_new (room : Int) (w : World) (h0 : 0 ≤ room) (h1 : room ≤ 1073741824) : Calls Tryz.prog 7 #[.int .i64 room] w (fun e w' => ∃ q, e = .returned (.pointer (some ⟨q, 0, none⟩)) ∧ Lv w w' q (Ds.new room)) :=
  (dnew_c room w h0 h1).mono fun e w' ⟨q, he, F, hk, hlo, hb⟩ => ⟨q, he, F, hk, hlo, hb⟩
theorem lv_append (h : Lv w0 w q st) {s : ByteArray} {nm : List UInt8} (hs : s = text nm) (hn : nm.length ≤ 9223372036854775807) {ab : Option Addr} {bl cb : Nat} {l : List UInt8} (hbl : Bys w ab bl cb l) (hl : l.length ≤ 1000000) (hx : ∀ F, Dk w q st F → (∀ k, F k → w0.heap.size ≤ k) → 0 < bl → ∀ b off, ab = some ⟨b, off, none⟩ → ¬ F b) {r : Int} (heq : st.append nm l = (r, st')) : Calls Tryz.prog 31 #[.pointer (some ⟨q, 0, none⟩), .string s, .slice ab bl cb] w (LvP w0 q st' (.int .i64 r)) := by
  subst hs
  obtain ⟨F, hk, hlo, hb⟩ := h
  have := dappend_c hk nm hn hbl hl (hx F hk hlo)
  rw [heq] at this
  exact this.mono fun e w' hp => Lv.post hlo hb hp
theorem lv_make (h : Lv w0 w q st) {s : ByteArray} {nm : List UInt8} (hs : s = text nm) (hn : nm.length ≤ 9223372036854775807) {r : Int} (heq : st.make nm = (r, st')) : Calls Tryz.prog 30 #[.pointer (some ⟨q, 0, none⟩), .string s] w (LvP w0 q st' (.int .i64 r)) := by
  subst hs
  obtain ⟨F, hk, hlo, hb⟩ := h
  have := dmake_c hk nm hn
  rw [heq] at this
  exact this.mono fun e w' hp => Lv.post hlo hb hp
theorem lv_fail (h : Lv w0 w q st) {n : Int} {r : Int} (heq : st.fail n = (r, st')) : Calls Tryz.prog 20 #[.pointer (some ⟨q, 0, none⟩), .int .i64 n] w (LvP w0 q st' (.int .i64 r)) := by
  obtain ⟨F, hk, hlo, hb⟩ := h
  have := dfail_c hk n
  rw [heq] at this
  exact this.mono fun e w' hp => Lv.post hlo hb hp
theorem lv_power (h : Lv w0 w q st) (heq : st.power = st') : Calls Tryz.prog 21 #[.pointer (some ⟨q, 0, none⟩)] w (LvP w0 q st' (.int .i64 0)) := by
  obtain ⟨F, hk, hlo, hb⟩ := h
  have := dpower_c hk
  rw [heq] at this
  exact this.mono fun e w' hp => Lv.post hlo hb hp
theorem lv_read (h : Lv w0 w q st) {s : ByteArray} {nm : List UInt8} (hs : s = text nm) (hn : nm.length ≤ 9223372036854775807) {r : Int} {b : Option (List UInt8)} (heq : st.read nm = (b, r)) : Calls Tryz.prog 32 #[.pointer (some ⟨q, 0, none⟩), .string s] w (fun e w' => ReadPost w b r e w' ∧ Lv w0 w' q st) := by
  subst hs
  have hL := h
  obtain ⟨F, hk, hlo, hb⟩ := h
  have := dread_c hk nm hn
  rw [heq] at this
  exact this.mono fun e w' hp => ⟨hp, by obtain ⟨v, -, h2, -⟩ := hp; exact hL.keep h2⟩
end
end Go.Proofs.YtioeimkaljmffaaGreatDoor
end

section
namespace Go.Proofs.YtioeimkaljmffaaGreatDoor
open Go.RowKit Go Go.Sort Go.Maps Go.WideMaps
set_option linter.unusedVariables false
set_option maxRecDepth 20000

/-- A log: the numbers with which its segments begin, the bytes of the last one, the next number, the last that is sure, the bytes of a segment, how often the power had failed. -/
structure Lg where
  B : List Int
  size : Int
  next : Int
  sure : Int
  most : Int
  fails : Int
def iarr (n : Int) : Array Value := #[.int .i64 n]
theorem iarr_size (n : Int) : (iarr n).size = 1 := rfl
/-- A log in memory. -/
structure LogIn (W : World) (p q : Nat) (bv : Value) (g : Lg) : Prop where
  head : W.heap[p]? = some (.cells #[.pointer (some ⟨q, 0, none⟩), .int .i64 g.fails, bv, .int .i64 g.size, .int .i64 g.next, .int .i64 g.sure, .int .i64 g.most] 87 (0, 0))
  list : OwnL 1 3 iarr W 0 bv g.B
def lgfoot (p : Nat) (bv : Value) (k : Nat) : Prop := k = p ∨ bv.ownBlock = some k
theorem LogIn.keep {W W' : World} {p q : Nat} {bv : Value} {g : Lg} (h : LogIn W p q bv g) (hk : ∀ k, lgfoot p bv k → W'.heap[k]? = W.heap[k]?) : LogIn W' p q bv g :=
  ⟨(hk p (.inl rfl)).trans h.head, h.list.of_block (fun k hv => hk k (.inr hv))⟩
theorem LogIn.lt {W : World} {p q : Nat} {bv : Value} {g : Lg} (h : LogIn W p q bv g) {k : Nat} (hk : lgfoot p bv k) : k < W.heap.size := by
  rcases hk with rfl | hk
  · exact (Array.getElem?_eq_some_iff.1 h.head).1
  · exact (h.list.lt k hk).2
theorem LogIn.below {W W' : World} {p q : Nat} {bv : Value} {g : Lg} (h : LogIn W p q bv g) (hb : Below W.heap.size W W') : LogIn W' p q bv g := h.keep fun k hk => hb.block k (h.lt hk)
theorem LogIn.cs {W : World} {p q : Nat} {bv : Value} {g : Lg} (h : LogIn W p q bv g) : W.cell? ⟨p, 0, none⟩ = some (.pointer (some ⟨q, 0, none⟩)) ∧ W.cell? ⟨p, 1, none⟩ = some (.int .i64 g.fails) ∧ W.cell? ⟨p, 2, none⟩ = some bv ∧ W.cell? ⟨p, 3, none⟩ = some (.int .i64 g.size) ∧ W.cell? ⟨p, 4, none⟩ = some (.int .i64 g.next) ∧ W.cell? ⟨p, 5, none⟩ = some (.int .i64 g.sure) ∧ W.cell? ⟨p, 6, none⟩ = some (.int .i64 g.most) := by
  refine ⟨?_, ?_, ?_, ?_, ?_, ?_, ?_⟩ <;> (rw [cell_of_row W p _ _ 87 (0, 0) h.head]; rfl)
theorem LogIn.fz {W : World} {p q : Nat} {bv : Value} {g : Lg} (h : LogIn W p q bv g) (i : Nat) : W.frozen? ⟨p, i, none⟩ = false := frozen_of_row W p i _ 87 h.head
/-- The numbers lie there. -/
theorem LogIn.place {W : World} {p q : Nat} {bv : Value} {g : Lg} (h : LogIn W p q bv g) : ∃ a cap, bv = .slice a g.B.length cap ∧ g.B.length ≤ cap ∧ cap ≤ 9223372036854775807 ∧ ∀ k, k < g.B.length → ∃ b o, a = some ⟨b, o, none⟩ ∧ ∀ W', Below W.heap.size W W' → W'.cell? ⟨b, o + k, none⟩ = some (.int .i64 (g.B.getD k 0)) := by
  obtain ⟨a, cap, hv, hs⟩ := h.list.ls (z := (0 : Int)) iarr_size
  refine ⟨a, cap, hv, hs.le, hs.max, fun k hk => ?_⟩
  obtain ⟨b, o, ha, hc⟩ := hs.at hk
  refine ⟨b, o, ha, fun W' hb => ?_⟩
  have := hc W' hb 0 (.int .i64 (g.B.getD k 0)) rfl
  simpa using this
theorem LogIn.first {W : World} {p q : Nat} {bv : Value} {g : Lg} (h : LogIn W p q bv g) {n : Int} {r : List Int} (hB : g.B = n :: r) : ∃ b o m c, bv = .slice (some ⟨b, o, none⟩) m c ∧ 0 < m ∧ W.cell? ⟨b, o, none⟩ = some (.int .i64 n) := by
  obtain ⟨a, cap, rfl, -, -, hp⟩ := h.place
  obtain ⟨b, o, rfl, hc⟩ := hp 0 (by rw [hB]; simp)
  have h1 := hc W (Below.refl _ _)
  rw [hB] at h1 ⊢
  exact ⟨b, o, _, _, rfl, by simp, h1⟩
/-- A log that no call made: nil, or all zero. -/
def UnL (W : World) (p : Nat) : Prop := W.heap[p]? = some (.cells #[.pointer none, .int .i64 0, .slice none 0 0, .int .i64 0, .int .i64 0, .int .i64 0, .int .i64 0] 87 (0, 0))
theorem UnL.below {W W' : World} {p : Nat} (h : UnL W p) (hb : Below W.heap.size W W') : UnL W' p := (hb.block p (Array.getElem?_eq_some_iff.1 h).1).trans h
theorem lmade_c {w : World} {p q : Nat} {bv : Value} {g : Lg} (h : LogIn w p q bv g) : Calls Tryz.prog 49 #[.pointer (some ⟨p, 0, none⟩)] w (Tells (.bool true) w) := by
  have c0 := h.cs.1
  clear h
  go_enter Tryz.func49, Tryz.ntmps49
  go_wp2
  go_ret
  exact ⟨rfl, Below.refl _ _⟩
/-- What tells of a log. -/
theorem lnext_c {w : World} {p q : Nat} {bv : Value} {g : Lg} (h : LogIn w p q bv g) : Calls Tryz.prog 23 #[.pointer (some ⟨p, 0, none⟩)] w (Tells (.int .i64 g.next) w) := by
  have HM1 := Lib.hid (lmade_c h)
  have HL := Lib.hid h
  clear h
  go_enter Tryz.func23, Tryz.ntmps23
  go_wp2_with (go_at_call 49; (with_reducible refine HM1.out.mono ?_); rintro e1 w1 ⟨rfl, hb1⟩; have HB1 := Lib.hid hb1; obtain ⟨c0, c1, c2, c3, c4, c5, c6⟩ := (HL.out.below hb1).cs; clear hb1)
  go_ret
  exact ⟨rfl, HB1.out⟩
theorem lsure_c {w : World} {p q : Nat} {bv : Value} {g : Lg} (h : LogIn w p q bv g) : Calls Tryz.prog 19 #[.pointer (some ⟨p, 0, none⟩)] w (Tells (.int .i64 g.sure) w) := by
  have HM1 := Lib.hid (lmade_c h)
  have HL := Lib.hid h
  clear h
  go_enter Tryz.func19, Tryz.ntmps19
  go_wp2_with (go_at_call 49; (with_reducible refine HM1.out.mono ?_); rintro e1 w1 ⟨rfl, hb1⟩; have HB1 := Lib.hid hb1; obtain ⟨c0, c1, c2, c3, c4, c5, c6⟩ := (HL.out.below hb1).cs; clear hb1)
  go_ret
  exact ⟨rfl, HB1.out⟩
theorem lfirst_c {w : World} {p q : Nat} {bv : Value} {g : Lg} (h : LogIn w p q bv g) {n : Int} {r : List Int} (hB : g.B = n :: r) : Calls Tryz.prog 26 #[.pointer (some ⟨p, 0, none⟩)] w (Tells (.int .i64 n) w) := by
  have HM1 := Lib.hid (lmade_c h)
  obtain ⟨b, o, m, c, rfl, hm, hc⟩ := h.first hB
  have HF := Lib.hid hc
  have HL := Lib.hid h
  have hmi : (0 : Int) < (m : Int) := by omega
  clear h hc hB hm
  go_enter Tryz.func26, Tryz.ntmps26
  go_wp2_with (go_at_call 49; (with_reducible refine HM1.out.mono ?_); rintro e1 w1 ⟨rfl, hb1⟩; have HB1 := Lib.hid hb1; obtain ⟨c0, c1, c2, c3, c4, c5, c6⟩ := (HL.out.below hb1).cs; have cf := (hb1.cell (World.block_lt_of_cell? w _ HF.out)).trans HF.out; clear hb1)
  go_ret
  exact ⟨rfl, HB1.out⟩
end Go.Proofs.YtioeimkaljmffaaGreatDoor
end

section
namespace Go.Proofs.YtioeimkaljmffaaGreatDoor
open Go.RowKit Go Go.Sort Go.Maps Go.WideMaps
set_option linter.unusedVariables false
set_option maxRecDepth 20000

theorem lon_c {w : World} {p q : Nat} {bv : Value} {g : Lg} {st : Ds} {F : Nat → Prop} (h : LogIn w p q bv g) (hd : Dk w q st F) : Calls Tryz.prog 16 #[.pointer (some ⟨p, 0, none⟩)] w (Tells (.bool (decide (st.fails = g.fails))) w) := by
  have HM1 := Lib.hid (fun (d : Nat) (os : Array Obj) => (lmade_c (h.below (below_regrown w d os))).regrown_of)
  have HF1 := Lib.hid (fun (d : Nat) (os : Array Obj) => (show Calls Tryz.prog 50 #[.pointer (some ⟨q, 0, none⟩)] (grow (redrawn w d) os) (Tells (.int .i64 st.fails) (grow (redrawn w d) os)) from by
    obtain ⟨m, pv, FS, h1, -⟩ := hd.below (below_regrown w d os)
    exact (dfails_c h1).mono fun e w' ⟨he, hw⟩ => ⟨he, hw ▸ Below.refl _ _⟩).regrown_of)
  obtain ⟨c0, c1, c2, c3, c4, c5, c6⟩ := h.cs
  have k0 := cell_regrown c0
  have k1 := cell_regrown c1
  clear c0 c1 c2 c3 c4 c5 c6 h hd
  go_enter Tryz.func16, Tryz.ntmps16
  go_wp2
  refine wp_region_quiet_below (by kernel_rfl) (by kernel_rfl) ?_
  repeat (go_big_quiet_step (first | with_reducible exact HM1.out _ _ | with_reducible exact HF1.out _ _))
  refine wpQuiet_nil ?_
  intro _ hw'
  obtain ⟨⟨dq, osq⟩, hw''⟩ := hw'
  subst hw''
  have HB8 := Lib.hid (below_regrown w dq osq)
  go_wp2
  go_ret
  exact ⟨by first | rfl | simp, HB8.out⟩
end Go.Proofs.YtioeimkaljmffaaGreatDoor
end

section
namespace Go.Proofs.YtioeimkaljmffaaGreatDoor
open Go.RowKit

/-- Three numbers come back, and the world is as it was. -/
def Ret3 (t : Int × Int × Int) (w : World) (e : Ending) (w' : World) : Prop := e = .returned (.tuple #[.int .i64 t.1, .int .i64 t.2.1, .int .i64 t.2.2]) ∧ w = w'
theorem Ret3.mk {x y z : Int} {t : Int × Int × Int} {w : World} (h : t = (x, y, z)) : Ret3 t w (.returned (.tuple #[.int .i64 x, .int .i64 y, .int .i64 z])) w := by
  subst h; exact ⟨rfl, rfl⟩

set_option maxHeartbeats 400000 in
theorem size_c (n : Int) (h0 : -9223372036854775808 ≤ n) (h1 : n ≤ 9223372036854775807) (w : World) :
    Calls Tryz.prog 130 #[.int .i64 n] w fun e w' => e = .returned (.int .i64 (sizeS n)) ∧ w = w' := by
  by_cases c1 : n < 0
  · rw [sizeS_neg (.inl c1)]
    go_enter Tryz.func130, Tryz.ntmps130
    go_wp2
    go_ret
    exact ⟨rfl, rfl⟩
  by_cases c2 : 4611686018427387903 < n
  · rw [sizeS_neg (.inr c2)]
    go_enter Tryz.func130, Tryz.ntmps130
    go_wp2
    go_ret
    exact ⟨rfl, rfl⟩
  by_cases c3 : n < 64
  · rw [sizeS_1 (by omega) c3]
    go_enter Tryz.func130, Tryz.ntmps130
    go_wp2
    go_ret
    exact ⟨rfl, rfl⟩
  by_cases c4 : n < 16384
  · rw [sizeS_2 (by omega) c4]
    go_enter Tryz.func130, Tryz.ntmps130
    go_wp2
    go_ret
    exact ⟨rfl, rfl⟩
  by_cases c5 : n < 1073741824
  · rw [sizeS_4 (by omega) c5]
    go_enter Tryz.func130, Tryz.ntmps130
    go_wp2
    go_ret
    exact ⟨rfl, rfl⟩
  · rw [sizeS_8 (by omega) (by omega)]
    go_enter Tryz.func130, Tryz.ntmps130
    go_wp2
    go_ret
    exact ⟨rfl, rfl⟩

set_option maxHeartbeats 400000 in
theorem rsize_c (n : Int) (h0 : -9223372036854775808 ≤ n) (h1 : n ≤ 9223372036854775807) (w : World) :
    Calls Tryz.prog 102 #[.int .i64 n] w fun e w' => e = .returned (.int .i64 (sizeS n)) ∧ w = w' := by
  by_cases c1 : n < 0
  · rw [sizeS_neg (.inl c1)]
    go_enter Tryz.func102, Tryz.ntmps102
    go_wp2
    go_ret
    exact ⟨rfl, rfl⟩
  by_cases c2 : 4611686018427387903 < n
  · rw [sizeS_neg (.inr c2)]
    go_enter Tryz.func102, Tryz.ntmps102
    go_wp2
    go_ret
    exact ⟨rfl, rfl⟩
  by_cases c3 : n < 64
  · rw [sizeS_1 (by omega) c3]
    go_enter Tryz.func102, Tryz.ntmps102
    go_wp2
    go_ret
    exact ⟨rfl, rfl⟩
  by_cases c4 : n < 16384
  · rw [sizeS_2 (by omega) c4]
    go_enter Tryz.func102, Tryz.ntmps102
    go_wp2
    go_ret
    exact ⟨rfl, rfl⟩
  by_cases c5 : n < 1073741824
  · rw [sizeS_4 (by omega) c5]
    go_enter Tryz.func102, Tryz.ntmps102
    go_wp2
    go_ret
    exact ⟨rfl, rfl⟩
  · rw [sizeS_8 (by omega) (by omega)]
    go_enter Tryz.func102, Tryz.ntmps102
    go_wp2
    go_ret
    exact ⟨rfl, rfl⟩
end Go.Proofs.YtioeimkaljmffaaGreatDoor
end

section
namespace Go.Proofs.YtioeimkaljmffaaGreatDoor
open Go.RowKit
set_option linter.unusedVariables false

/-- The four cells of the table that sizes of numbers lead to. -/
structure TabW (w : World) : Prop where
  c0 : w.cell? ⟨5, 0, none⟩ = some (.int .u8 0)
  c1 : w.cell? ⟨5, 1, none⟩ = some (.int .u8 1)
  c2 : w.cell? ⟨5, 3, none⟩ = some (.int .u8 2)
  c3 : w.cell? ⟨5, 7, none⟩ = some (.int .u8 3)

theorem TabW.below {w w' : World} (h : TabW w) (hb : Below w.heap.size w w') : TabW w' := by
  have hlt : 5 < w.heap.size := World.block_lt_of_cell? w _ h.c0
  exact ⟨by rw [hb.cell hlt]; exact h.c0, by rw [hb.cell hlt]; exact h.c1, by rw [hb.cell hlt]; exact h.c2, by rw [hb.cell hlt]; exact h.c3⟩

def RetU8 (x : Int) (w : World) (e : Ending) (w' : World) : Prop := e = .returned (.int .u8 x) ∧ w = w'
theorem RetU8.mk {a x : Int} {w : World} (h : a = x) : RetU8 x w (.returned (.int .u8 a)) w := by subst h; exact ⟨rfl, rfl⟩

set_option maxHeartbeats 800000 in
theorem mark_c (k : Nat) (hk : k = 1 ∨ k = 2 ∨ k = 4 ∨ k = 8) {w : World} (hT : TabW w) : Calls Tryz.prog 131 #[.int .i64 (k : Int)] w (RetU8 (markS k : Nat) w) := by
  obtain ⟨c0, c1, c2, c3⟩ := hT
  rcases hk with rfl | rfl | rfl | rfl
  · have hx : IntKind.u64.wrap (bits BinOp.and IntKind.u64 1 (IntKind.u64.wrap (-1)) * 285870213051353865) / 288230376151711744 = 0 := by decide
    go_enter Tryz.func131, Tryz.ntmps131
    go_wp2
    go_ret
    exact RetU8.mk (by decide)
  · have hx : IntKind.u64.wrap (bits BinOp.and IntKind.u64 2 (IntKind.u64.wrap (-2)) * 285870213051353865) / 288230376151711744 = 1 := by decide
    go_enter Tryz.func131, Tryz.ntmps131
    go_wp2
    go_ret
    exact RetU8.mk (by decide)
  · have hx : IntKind.u64.wrap (bits BinOp.and IntKind.u64 4 (IntKind.u64.wrap (-4)) * 285870213051353865) / 288230376151711744 = 3 := by decide
    go_enter Tryz.func131, Tryz.ntmps131
    go_wp2
    go_ret
    exact RetU8.mk (by decide)
  · have hx : IntKind.u64.wrap (bits BinOp.and IntKind.u64 8 (IntKind.u64.wrap (-8)) * 285870213051353865) / 288230376151711744 = 7 := by decide
    go_enter Tryz.func131, Tryz.ntmps131
    go_wp2
    go_ret
    exact RetU8.mk (by decide)
end Go.Proofs.YtioeimkaljmffaaGreatDoor
end

section
namespace Go.Proofs.YtioeimkaljmffaaGreatDoor
open Go.RowKit
set_option maxRecDepth 100000

theorem gTab : Tryz.prog.globalNamed "math/bits.deBruijn64tab" = some 5 := by kernel_rfl
theorem gTabType : (Tryz.prog.globals[5]?).map (·.type) = some 214 := by kernel_rfl
theorem cells48 : Tryz.prog.cellsOf 214 = 64 := by kernel_rfl
theorem cells5 : Tryz.prog.cellsOf 5 = 1 := by kernel_rfl

def tab64 : List Int := [0, 1, 56, 2, 57, 49, 28, 3, 61, 58, 42, 50, 38, 29, 17, 4, 62, 47, 59, 36, 45, 43, 51, 22, 53, 39, 33, 30, 24, 18, 12, 5, 63, 55, 48, 27, 60, 41, 37, 16, 46, 35, 44, 21, 52, 32, 23, 11, 54, 26, 40, 15, 34, 20, 31, 10, 25, 14, 19, 9, 13, 8, 7, 6]
def tab32 : List Int := [0, 1, 28, 2, 29, 14, 24, 3, 30, 22, 20, 15, 25, 17, 4, 8, 31, 27, 13, 23, 21, 19, 16, 7, 26, 12, 18, 6, 11, 5, 10, 9]

end Go.Proofs.YtioeimkaljmffaaGreatDoor
end

section
namespace Go.Proofs.YtioeimkaljmffaaGreatDoor
open Go.RowKit
set_option maxRecDepth 100000

theorem gPow : Tryz.prog.globalNamed "internal/strconv.uint64pow10" = some 2 := by kernel_rfl
theorem gPowType : (Tryz.prog.globals[2]?).map (·.type) = some 203 := by kernel_rfl
theorem cells20 : Tryz.prog.cellsOf 203 = 20 := by kernel_rfl
theorem cellsU64 : Tryz.prog.cellsOf 155 = 1 := by kernel_rfl

def powZ : List Int := [1, 10, 100, 1000, 10000, 100000, 1000000, 10000000, 100000000, 1000000000, 10000000000, 100000000000, 1000000000000, 10000000000000, 100000000000000, 1000000000000000, 10000000000000000, 100000000000000000, 1000000000000000000, 10000000000000000000]
theorem powZ_eq : powZ = Lib.pow10Tab := by decide +kernel

/-- What the stamps' walks read of tables. -/
structure TabI (w : World) : Prop where
  b : TabW w
  p : Lib.TabIs Tryz.prog w "internal/strconv.uint64pow10" .u64 Lib.pow10Tab
theorem TabI.grown {w w' : World} (h : TabI w) (hb : Below w.heap.size w w') : TabI w' := by
  refine ⟨h.b.below hb, ?_⟩
  have hp := h.p
  unfold Lib.TabIs World.var? at hp ⊢
  rw [gPow] at hp ⊢
  simp only [Option.bind_some] at hp ⊢
  have hlt : 2 < w.heap.size := by
    cases hx : w.heap[(2 : Nat)]? with
    | none => rw [hx] at hp; cases hp
    | some o => exact (Array.getElem?_eq_some_iff.1 hx).1
  rw [hb.block _ hlt]
  exact hp

end Go.Proofs.YtioeimkaljmffaaGreatDoor
end

section
namespace Go.Proofs
open Go.Shelf
def Tryz.laysM171_ren : Go.Shelf.Ren := ⟨fun | 171 => 64 | 243 => 105 | 246 => 134 | 283 => 162 | 284 => 163 | 285 => 164 | 286 => 165 | 129 => 150 | 317 => 181 | 318 => 182 | 319 => 183 | 320 => 160 | 337 => 179 | 338 => 180 | n => n, fun | 3 => 3 | 9 => 9 | 2 => 2 | 4 => 4 | 171 => 180 | 0 => 0 | 53 => 155 | 37 => 34 | 5 => 5 | 173 => 182 | 212 => 203 | 51 => 127 | 20 => 20 | 213 => 204 | 46 => 43 | 232 => 213 | 233 => 214 | n => n, fun | 17 => 2 | 18 => 4 | 19 => 5 | n => n⟩
theorem Tryz.laysM171 : Go.Proofs.LaysM.n171 Tryz.prog Tryz.laysM171_ren := {
  mixed := by kernel_rfl
  f129 := Tryz.func150.trans (congrArg some (by kernel_rfl))
  f171 := Tryz.func64.trans (congrArg some (by kernel_rfl))
  f243 := Tryz.func105.trans (congrArg some (by kernel_rfl))
  f246 := Tryz.func134.trans (congrArg some (by kernel_rfl))
  f283 := Tryz.func162.trans (congrArg some (by kernel_rfl))
  f284 := Tryz.func163.trans (congrArg some (by kernel_rfl))
  f285 := Tryz.func164.trans (congrArg some (by kernel_rfl))
  f286 := Tryz.func165.trans (congrArg some (by kernel_rfl))
  f317 := Tryz.func181.trans (congrArg some (by kernel_rfl))
  f318 := Tryz.func182.trans (congrArg some (by kernel_rfl))
  f319 := Tryz.func183.trans (congrArg some (by kernel_rfl))
  f320 := Tryz.func160.trans (congrArg some (by kernel_rfl))
  f337 := Tryz.func179.trans (congrArg some (by kernel_rfl))
  f338 := Tryz.func180.trans (congrArg some (by kernel_rfl))
  t0 := Tryz.underlying0
  a0 := Tryz.isAgg0
  z0 := Tryz.sizeOf0
  v0 := Tryz.zeroValue0
  t2 := Tryz.underlying2
  a2 := Tryz.isAgg2
  z2 := Tryz.sizeOf2
  v2 := Tryz.zeroValue2
  t3 := Tryz.underlying3
  a3 := Tryz.isAgg3
  z3 := Tryz.sizeOf3
  v3 := Tryz.zeroValue3
  t4 := Tryz.underlying4
  a4 := Tryz.isAgg4
  z4 := Tryz.sizeOf4
  v4 := Tryz.zeroValue4
  t5 := Tryz.underlying5
  a5 := Tryz.isAgg5
  z5 := Tryz.sizeOf5
  v5 := Tryz.zeroValue5
  t9 := Tryz.underlying9
  a9 := Tryz.isAgg9
  z9 := Tryz.sizeOf9
  v9 := Tryz.zeroValue9
  t20 := Tryz.underlying20
  a20 := Tryz.isAgg20
  z20 := Tryz.sizeOf20
  v20 := Tryz.zeroValue20
  t37 := Tryz.underlying34
  a37 := Tryz.isAgg34
  z37 := Tryz.sizeOf34
  v37 := Tryz.zeroValue34
  t46 := Tryz.underlying43
  a46 := Tryz.isAgg43
  z46 := Tryz.sizeOf43
  v46 := Tryz.zeroValue43
  t51 := Tryz.underlying127
  a51 := Tryz.isAgg127
  z51 := Tryz.sizeOf127
  v51 := Tryz.zeroValue127
  t53 := Tryz.underlying155
  a53 := Tryz.isAgg155
  z53 := Tryz.sizeOf155
  v53 := Tryz.zeroValue155
  t171 := Tryz.underlying180
  a171 := Tryz.isAgg180
  z171 := Tryz.sizeOf180
  v171 := Tryz.zeroValue180
  t173 := Tryz.underlying182
  a173 := Tryz.isAgg182
  z173 := Tryz.sizeOf182
  v173 := Tryz.zeroValue182
  t212 := Tryz.underlying203
  a212 := Tryz.isAgg203
  z212 := Tryz.sizeOf203
  v212 := Tryz.zeroValue203
  t213 := Tryz.underlying204
  a213 := Tryz.isAgg204
  z213 := Tryz.sizeOf204
  t232 := Tryz.underlying213
  a232 := Tryz.isAgg213
  z232 := Tryz.sizeOf213
  v232 := Tryz.zeroValue213
  t233 := Tryz.underlying214
  a233 := Tryz.isAgg214
  z233 := Tryz.sizeOf214
  v233 := Tryz.zeroValue214
  g17 := by kernel_rfl
  g18 := by kernel_rfl
  g19 := by kernel_rfl
  i0 := by kernel_rfl
  i2 := by kernel_rfl
  i3 := by kernel_rfl
  i4 := by kernel_rfl
  i5 := by kernel_rfl
  i9 := by kernel_rfl
  i20 := by kernel_rfl
  i37 := by kernel_rfl
  i46 := by kernel_rfl
  i51 := by kernel_rfl
  i53 := by kernel_rfl
  i171 := by kernel_rfl
  i173 := by kernel_rfl
  i212 := by kernel_rfl
  i232 := by kernel_rfl
  i233 := by kernel_rfl
  m17 := by kernel_rfl
  m18 := by kernel_rfl
  m19 := by kernel_rfl }
open Go.RowKit Go.Sort Go.Lib in
theorem Tryz.strconv_Itoa (n : Int) (h0 : -9223372036854775808 ≤ n) (h1 : n ≤ 9223372036854775807) (w : World) (htab : Lib.TabIs Tryz.prog w "internal/strconv.uint64pow10" .u64 Lib.pow10Tab) :
    Calls Tryz.prog 64 #[.int .i64 n] w fun e w' => e = .returned (.string ⟨(Lib.itoa n).toArray⟩) ∧ ∃ k os, w' = grow (w.drewN k) os := Any.strconv_Itoa Tryz.laysM171 n h0 h1 w htab
open Go.RowKit Go.Sort Go.Lib in
def Tryz.laysC172_ren : Go.Shelf.Ren := ⟨fun | 172 => 74 | 244 => 116 | 245 => 117 | 247 => 151 | 279 => 152 | 280 => 153 | 281 => 154 | 282 => 155 | 287 => 174 | 316 => 175 | 171 => 64 | 205 => 176 | 321 => 185 | 322 => 186 | 243 => 105 | 246 => 134 | 283 => 162 | 284 => 163 | 285 => 164 | 286 => 165 | 129 => 150 | 317 => 181 | 318 => 182 | 319 => 183 | 320 => 160 | 337 => 179 | 338 => 180 | n => n, fun | 9 => 9 | 3 => 3 | 75 => 109 | 76 => 110 | 4 => 4 | 5 => 5 | 167 => 169 | 37 => 34 | 0 => 0 | 85 => 170 | 2 => 2 | 168 => 172 | 53 => 155 | 175 => 193 | 46 => 43 | 210 => 197 | 127 => 158 | 145 => 211 | 143 => 209 | 21 => 21 | 171 => 180 | 173 => 182 | 212 => 203 | 51 => 127 | 20 => 20 | 213 => 204 | 232 => 213 | 233 => 214 | 80 => 126 | n => n, fun | 15 => 0 | 16 => 1 | 17 => 2 | 18 => 4 | 19 => 5 | n => n⟩
theorem Tryz.laysC172 : Go.Proofs.LaysC.n172 Tryz.prog Tryz.laysC172_ren := {
  mixed := by kernel_rfl
  f129 := Tryz.func150.trans (congrArg some (by kernel_rfl))
  f171 := Tryz.func64.trans (congrArg some (by kernel_rfl))
  f172 := Tryz.func74.trans (congrArg some (by kernel_rfl))
  f205 := Tryz.func176.trans (congrArg some (by kernel_rfl))
  f243 := Tryz.func105.trans (congrArg some (by kernel_rfl))
  f244 := Tryz.func116.trans (congrArg some (by kernel_rfl))
  f245 := Tryz.func117.trans (congrArg some (by kernel_rfl))
  f246 := Tryz.func134.trans (congrArg some (by kernel_rfl))
  f247 := Tryz.func151.trans (congrArg some (by kernel_rfl))
  f279 := Tryz.func152.trans (congrArg some (by kernel_rfl))
  f280 := Tryz.func153.trans (congrArg some (by kernel_rfl))
  f281 := Tryz.func154.trans (congrArg some (by kernel_rfl))
  f282 := Tryz.func155.trans (congrArg some (by kernel_rfl))
  f283 := Tryz.func162.trans (congrArg some (by kernel_rfl))
  f284 := Tryz.func163.trans (congrArg some (by kernel_rfl))
  f285 := Tryz.func164.trans (congrArg some (by kernel_rfl))
  f286 := Tryz.func165.trans (congrArg some (by kernel_rfl))
  f287 := Tryz.func174.trans (congrArg some (by kernel_rfl))
  f316 := Tryz.func175.trans (congrArg some (by kernel_rfl))
  f317 := Tryz.func181.trans (congrArg some (by kernel_rfl))
  f318 := Tryz.func182.trans (congrArg some (by kernel_rfl))
  f319 := Tryz.func183.trans (congrArg some (by kernel_rfl))
  f320 := Tryz.func160.trans (congrArg some (by kernel_rfl))
  f321 := Tryz.func185.trans (congrArg some (by kernel_rfl))
  f322 := Tryz.func186.trans (congrArg some (by kernel_rfl))
  f337 := Tryz.func179.trans (congrArg some (by kernel_rfl))
  f338 := Tryz.func180.trans (congrArg some (by kernel_rfl))
  t0 := Tryz.underlying0
  a0 := Tryz.isAgg0
  z0 := Tryz.sizeOf0
  v0 := Tryz.zeroValue0
  t2 := Tryz.underlying2
  a2 := Tryz.isAgg2
  z2 := Tryz.sizeOf2
  v2 := Tryz.zeroValue2
  t3 := Tryz.underlying3
  a3 := Tryz.isAgg3
  z3 := Tryz.sizeOf3
  v3 := Tryz.zeroValue3
  t4 := Tryz.underlying4
  a4 := Tryz.isAgg4
  z4 := Tryz.sizeOf4
  v4 := Tryz.zeroValue4
  t5 := Tryz.underlying5
  a5 := Tryz.isAgg5
  z5 := Tryz.sizeOf5
  v5 := Tryz.zeroValue5
  t9 := Tryz.underlying9
  a9 := Tryz.isAgg9
  z9 := Tryz.sizeOf9
  v9 := Tryz.zeroValue9
  t20 := Tryz.underlying20
  a20 := Tryz.isAgg20
  z20 := Tryz.sizeOf20
  v20 := Tryz.zeroValue20
  t21 := Tryz.underlying21
  a21 := Tryz.isAgg21
  z21 := Tryz.sizeOf21
  v21 := Tryz.zeroValue21
  t37 := Tryz.underlying34
  a37 := Tryz.isAgg34
  z37 := Tryz.sizeOf34
  v37 := Tryz.zeroValue34
  t46 := Tryz.underlying43
  a46 := Tryz.isAgg43
  z46 := Tryz.sizeOf43
  v46 := Tryz.zeroValue43
  t51 := Tryz.underlying127
  a51 := Tryz.isAgg127
  z51 := Tryz.sizeOf127
  v51 := Tryz.zeroValue127
  t53 := Tryz.underlying155
  a53 := Tryz.isAgg155
  z53 := Tryz.sizeOf155
  v53 := Tryz.zeroValue155
  t75 := Tryz.underlying109
  a75 := Tryz.isAgg109
  z75 := Tryz.sizeOf109
  v75 := Tryz.zeroValue109
  t76 := Tryz.underlying110
  a76 := Tryz.isAgg110
  z76 := Tryz.sizeOf110
  v76 := Tryz.zeroValue110
  t85 := Tryz.underlying170
  a85 := Tryz.isAgg170
  z85 := Tryz.sizeOf170
  v85 := Tryz.zeroValue170
  t127 := Tryz.underlying158
  a127 := Tryz.isAgg158
  z127 := Tryz.sizeOf158
  v127 := Tryz.zeroValue158
  t143 := Tryz.underlying209
  a143 := Tryz.isAgg209
  z143 := Tryz.sizeOf209
  v143 := Tryz.zeroValue209
  t145 := Tryz.underlying211
  a145 := Tryz.isAgg211
  z145 := Tryz.sizeOf211
  v145 := Tryz.zeroValue211
  t167 := Tryz.underlying169
  a167 := Tryz.isAgg169
  z167 := Tryz.sizeOf169
  v167 := Tryz.zeroValue169
  t168 := Tryz.underlying172
  a168 := Tryz.isAgg172
  z168 := Tryz.sizeOf172
  v168 := Tryz.zeroValue172
  t171 := Tryz.underlying180
  a171 := Tryz.isAgg180
  z171 := Tryz.sizeOf180
  v171 := Tryz.zeroValue180
  t173 := Tryz.underlying182
  a173 := Tryz.isAgg182
  z173 := Tryz.sizeOf182
  v173 := Tryz.zeroValue182
  t175 := Tryz.underlying193
  a175 := Tryz.isAgg193
  z175 := Tryz.sizeOf193
  v175 := Tryz.zeroValue193
  t210 := Tryz.underlying197
  a210 := Tryz.isAgg197
  z210 := Tryz.sizeOf197
  v210 := Tryz.zeroValue197
  t212 := Tryz.underlying203
  a212 := Tryz.isAgg203
  z212 := Tryz.sizeOf203
  v212 := Tryz.zeroValue203
  t213 := Tryz.underlying204
  a213 := Tryz.isAgg204
  z213 := Tryz.sizeOf204
  t232 := Tryz.underlying213
  a232 := Tryz.isAgg213
  z232 := Tryz.sizeOf213
  v232 := Tryz.zeroValue213
  t233 := Tryz.underlying214
  a233 := Tryz.isAgg214
  z233 := Tryz.sizeOf214
  v233 := Tryz.zeroValue214
  g15 := by kernel_rfl
  g16 := by kernel_rfl
  g17 := by kernel_rfl
  g18 := by kernel_rfl
  g19 := by kernel_rfl
  t80 := Tryz.underlying126
  a80 := Tryz.isAgg126
  z80 := Tryz.sizeOf126
  v80 := Tryz.zeroValue126
  i0 := by kernel_rfl
  i2 := by kernel_rfl
  i3 := by kernel_rfl
  i4 := by kernel_rfl
  i5 := by kernel_rfl
  i9 := by kernel_rfl
  i20 := by kernel_rfl
  i21 := by kernel_rfl
  i37 := by kernel_rfl
  i46 := by kernel_rfl
  i51 := by kernel_rfl
  i53 := by kernel_rfl
  i75 := by kernel_rfl
  i76 := by kernel_rfl
  i80 := by kernel_rfl
  i85 := by kernel_rfl
  i127 := by kernel_rfl
  i143 := by kernel_rfl
  i145 := by kernel_rfl
  i167 := by kernel_rfl
  i168 := by kernel_rfl
  i171 := by kernel_rfl
  i173 := by kernel_rfl
  i175 := by kernel_rfl
  i210 := by kernel_rfl
  i212 := by kernel_rfl
  i232 := by kernel_rfl
  i233 := by kernel_rfl
  m15 := by kernel_rfl
  m16 := by kernel_rfl
  m17 := by kernel_rfl
  m18 := by kernel_rfl
  m19 := by kernel_rfl
  c0 := by kernel_rfl
  c2 := by kernel_rfl
  c3 := by kernel_rfl
  c4 := by kernel_rfl
  c5 := by kernel_rfl
  c9 := by kernel_rfl
  c20 := by kernel_rfl
  c21 := by kernel_rfl
  c37 := by kernel_rfl
  c46 := by kernel_rfl
  c51 := by kernel_rfl
  c53 := by kernel_rfl
  c75 := by kernel_rfl
  c76 := by kernel_rfl
  c80 := by kernel_rfl
  c85 := by kernel_rfl
  c127 := by kernel_rfl
  c143 := by kernel_rfl
  c145 := by kernel_rfl
  c167 := by kernel_rfl
  c168 := by kernel_rfl
  c171 := by kernel_rfl
  c173 := by kernel_rfl
  c175 := by kernel_rfl
  c210 := by kernel_rfl
  c212 := by kernel_rfl
  c213 := by kernel_rfl
  c232 := by kernel_rfl
  c233 := by kernel_rfl }
open Go.RowKit in
theorem Tryz.strconv_Atoi_ok (s : ByteArray) (hmax : s.size ≤ 9223372036854775806) (v : Int) (h : Lib.atoiAll s.data.toList = .ok v) (w : World) :
    Calls Tryz.prog 74 #[.string s] w fun e w' => e = .returned (.tuple #[.int .i64 v, .nilIface]) ∧ (w' = w ∨ ∃ t, w' = Lib.bytesWorld w 5 t) := Any.strconv_Atoi_ok Tryz.laysC172 s hmax v h w
open Go.RowKit in
theorem Tryz.strconv_Atoi_syntax (s : ByteArray) (hlim : s.size ≤ 281474976710656) (h : Lib.atoiAll s.data.toList = .«syntax») (ev : Value) (w : World) (hv : w.cell? ⟨0, 0, none⟩ = some ev) (hev : ev = .nilIface ∨ ∃ te pe, ev = .iface te pe) :
    Calls Tryz.prog 74 #[.string s] w fun e w' => ∃ N, e = .returned (.tuple #[.int .i64 (0), .iface 172 (.pointer (some ⟨N, 0, none⟩))]) ∧ w.heap.size ≤ N ∧ w'.heap[N]? = some (.cells #[.string ⟨#[65, 116, 111, 105]⟩, .string s, ev] 197 (0, 0)) ∧ Below w.heap.size w w' := Any.strconv_Atoi_syntax Tryz.laysC172 s hlim h ev w hv hev
open Go.RowKit in
theorem Tryz.strconv_Atoi_range (s : ByteArray) (hlim : s.size ≤ 281474976710656) (h : Lib.atoiAll s.data.toList = .range) (ev : Value) (w : World) (hv : w.cell? ⟨1, 0, none⟩ = some ev) (hev : ev = .nilIface ∨ ∃ te pe, ev = .iface te pe) :
    Calls Tryz.prog 74 #[.string s] w fun e w' => ∃ N, e = .returned (.tuple #[.int .i64 (Lib.atoiSat s.data.toList), .iface 172 (.pointer (some ⟨N, 0, none⟩))]) ∧ w.heap.size ≤ N ∧ w'.heap[N]? = some (.cells #[.string ⟨#[65, 116, 111, 105]⟩, .string s, ev] 197 (0, 0)) ∧ Below w.heap.size w w' := Any.strconv_Atoi_range Tryz.laysC172 s hlim h ev w hv hev
def Tryz.lays101_ren : Go.Shelf.Ren := ⟨fun | 101 => 75 | 208 => 118 | 206 => 137 | n => n, fun | 9 => 9 | 4 => 4 | 3 => 3 | n => n, fun | n => n⟩
theorem Tryz.lays101 : Go.Proofs.Lays.n101 Tryz.prog Tryz.lays101_ren := {
  mixed := by kernel_rfl
  f101 := Tryz.func75.trans (congrArg some (by kernel_rfl))
  f206 := Tryz.func137.trans (congrArg some (by kernel_rfl))
  f208 := Tryz.func118.trans (congrArg some (by kernel_rfl))
  t3 := Tryz.underlying3
  a3 := Tryz.isAgg3
  z3 := Tryz.sizeOf3
  v3 := Tryz.zeroValue3
  t4 := Tryz.underlying4
  a4 := Tryz.isAgg4
  z4 := Tryz.sizeOf4
  v4 := Tryz.zeroValue4
  t9 := Tryz.underlying9
  a9 := Tryz.isAgg9
  z9 := Tryz.sizeOf9
  v9 := Tryz.zeroValue9 }
open Go.RowKit Go.Lib in
theorem Tryz.strings_TrimPrefix (s p : ByteArray) (w : World) :
    Calls Tryz.prog 75 #[.string s, .string p] w fun e w' => e = .returned (.string ⟨(Lib.trimPrefix s.data.toList p.data.toList).toArray⟩) ∧ w' = w := Any.strings_TrimPrefix Tryz.lays101 s p w
def Tryz.lays105_ren : Go.Shelf.Ren := ⟨fun | 105 => 65 | 212 => 106 | 99 => 107 | 165 => 108 | 166 => 109 | 170 => 110 | 169 => 111 | 263 => 135 | 264 => 136 | 206 => 137 | 240 => 138 | 241 => 139 | 276 => 166 | 277 => 167 | n => n, fun | 9 => 9 | 3 => 3 | 4 => 4 | 20 => 20 | 0 => 0 | 46 => 43 | 109 => 132 | 5 => 5 | 72 => 137 | 76 => 110 | 51 => 127 | 146 => 153 | 53 => 155 | 148 => 156 | 70 => 135 | 37 => 34 | 75 => 109 | 127 => 158 | 164 => 184 | 80 => 126 | n => n, fun | n => n⟩
theorem Tryz.lays105 : Go.Proofs.Lays.n105 Tryz.prog Tryz.lays105_ren := {
  mixed := by kernel_rfl
  f99 := Tryz.func107.trans (congrArg some (by kernel_rfl))
  f105 := Tryz.func65.trans (congrArg some (by kernel_rfl))
  f165 := Tryz.func108.trans (congrArg some (by kernel_rfl))
  f166 := Tryz.func109.trans (congrArg some (by kernel_rfl))
  f169 := Tryz.func111.trans (congrArg some (by kernel_rfl))
  f170 := Tryz.func110.trans (congrArg some (by kernel_rfl))
  f206 := Tryz.func137.trans (congrArg some (by kernel_rfl))
  f212 := Tryz.func106.trans (congrArg some (by kernel_rfl))
  f240 := Tryz.func138.trans (congrArg some (by kernel_rfl))
  f241 := Tryz.func139.trans (congrArg some (by kernel_rfl))
  f263 := Tryz.func135.trans (congrArg some (by kernel_rfl))
  f264 := Tryz.func136.trans (congrArg some (by kernel_rfl))
  f276 := Tryz.func166.trans (congrArg some (by kernel_rfl))
  f277 := Tryz.func167.trans (congrArg some (by kernel_rfl))
  t0 := Tryz.underlying0
  a0 := Tryz.isAgg0
  z0 := Tryz.sizeOf0
  v0 := Tryz.zeroValue0
  t3 := Tryz.underlying3
  a3 := Tryz.isAgg3
  z3 := Tryz.sizeOf3
  v3 := Tryz.zeroValue3
  t4 := Tryz.underlying4
  a4 := Tryz.isAgg4
  z4 := Tryz.sizeOf4
  v4 := Tryz.zeroValue4
  t5 := Tryz.underlying5
  a5 := Tryz.isAgg5
  z5 := Tryz.sizeOf5
  v5 := Tryz.zeroValue5
  t9 := Tryz.underlying9
  a9 := Tryz.isAgg9
  z9 := Tryz.sizeOf9
  v9 := Tryz.zeroValue9
  t20 := Tryz.underlying20
  a20 := Tryz.isAgg20
  z20 := Tryz.sizeOf20
  v20 := Tryz.zeroValue20
  t37 := Tryz.underlying34
  a37 := Tryz.isAgg34
  z37 := Tryz.sizeOf34
  v37 := Tryz.zeroValue34
  t46 := Tryz.underlying43
  a46 := Tryz.isAgg43
  z46 := Tryz.sizeOf43
  v46 := Tryz.zeroValue43
  t51 := Tryz.underlying127
  a51 := Tryz.isAgg127
  z51 := Tryz.sizeOf127
  v51 := Tryz.zeroValue127
  t53 := Tryz.underlying155
  a53 := Tryz.isAgg155
  z53 := Tryz.sizeOf155
  v53 := Tryz.zeroValue155
  t70 := Tryz.underlying135
  a70 := Tryz.isAgg135
  z70 := Tryz.sizeOf135
  v70 := Tryz.zeroValue135
  t72 := Tryz.underlying137
  a72 := Tryz.isAgg137
  z72 := Tryz.sizeOf137
  v72 := Tryz.zeroValue137
  t75 := Tryz.underlying109
  a75 := Tryz.isAgg109
  z75 := Tryz.sizeOf109
  v75 := Tryz.zeroValue109
  t76 := Tryz.underlying110
  a76 := Tryz.isAgg110
  z76 := Tryz.sizeOf110
  v76 := Tryz.zeroValue110
  t109 := Tryz.underlying132
  a109 := Tryz.isAgg132
  z109 := Tryz.sizeOf132
  v109 := Tryz.zeroValue132
  t127 := Tryz.underlying158
  a127 := Tryz.isAgg158
  z127 := Tryz.sizeOf158
  v127 := Tryz.zeroValue158
  t146 := Tryz.underlying153
  a146 := Tryz.isAgg153
  z146 := Tryz.sizeOf153
  v146 := Tryz.zeroValue153
  t148 := Tryz.underlying156
  a148 := Tryz.isAgg156
  z148 := Tryz.sizeOf156
  v148 := Tryz.zeroValue156
  t164 := Tryz.underlying184
  a164 := Tryz.isAgg184
  z164 := Tryz.sizeOf184
  v164 := Tryz.zeroValue184 }
theorem Tryz.Builder_Extra_105 : Builder.Extra Tryz.prog Tryz.lays105_ren := {
  sizeBuilder := by kernel_rfl
  liesBuilder := by kernel_rfl
  t5 := Tryz.underlying5
  a5 := Tryz.isAgg5
  z5 := Tryz.sizeOf5
  v5 := Tryz.zeroValue5
  infoByte := by kernel_rfl
  cellsByte := by kernel_rfl
  sizeByte := by kernel_rfl
  neB5 := by decide }
open Go.RowKit Go.Lib in
theorem Tryz.strings_Repeat (s : ByteArray) (c : Nat) (w : World) (hc : c ≤ 9223372036854775807) (hlen : s.size * c ≤ 140737488355328) :
    Calls Tryz.prog 65 #[.string s, .int .i64 c] w fun e w' => e = .returned (.string ⟨(Lib.repeatL s.data.toList c).toArray⟩) ∧ Below w.heap.size w w' := Any.strings_Repeat Tryz.lays105 Tryz.Builder_Extra_105 s c w hc hlen
end Go.Proofs
end

section
namespace Go.Proofs.YtioeimkaljmffaaGreatDoor
open Go.RowKit Go Go.Sort
set_option linter.unusedVariables false

theorem wdecFrom_snoc (l : List UInt8) (b : UInt8) : ∀ acc, Lib.decFrom acc (l ++ [b]) = (Lib.decFrom acc l).bind (fun n => (Lib.digitVal b).map (fun d => n * 10 + d)) := by
  induction l with
  | nil => intro acc; simp [Lib.decFrom]; cases Lib.digitVal b <;> rfl
  | cons a t ih =>
    intro acc
    simp only [List.cons_append, Lib.decFrom]
    cases Lib.digitVal a with
    | none => rfl
    | some d => exact ih _
theorem wdigitVal_of (k : Nat) (h : k < 10) : Lib.digitVal (UInt8.ofNat (48 + k)) = some k := by
  have e : (UInt8.ofNat (48 + k)).toNat = 48 + k := by simp; omega
  unfold Lib.digitVal
  rw [e, if_pos ⟨by omega, by omega⟩]
  congr 1; omega
theorem wdigit_eq {b : UInt8} {x : Nat} (h : Lib.digitVal b = some x) : x < 10 ∧ UInt8.ofNat (48 + x) = b ∧ 48 ≤ b.toNat ∧ b.toNat ≤ 57 := by
  unfold Lib.digitVal at h
  split at h
  · rename_i hb
    have hx : b.toNat - 48 = x := by simpa using h
    refine ⟨by omega, ?_, by omega, by omega⟩
    rw [show 48 + x = b.toNat by omega]
    simp
  · cases h
/-- The last k digits of a number. -/
def padD : Nat → Nat → List UInt8
  | 0, _ => []
  | k + 1, n => padD k (n / 10) ++ [UInt8.ofNat (48 + n % 10)]
theorem padD_len : ∀ (k n : Nat), (padD k n).length = k
  | 0, _ => rfl
  | k + 1, n => by simp [padD, padD_len k]
theorem padD_zero : ∀ k, padD k 0 = List.replicate k 48
  | 0 => rfl
  | k + 1 => by
    show padD k (0 / 10) ++ _ = _
    rw [show 0 / 10 = 0 from rfl, padD_zero k, List.replicate_succ']
    rfl
theorem dec_padD : ∀ (k n : Nat), n < 10 ^ k → Lib.decFrom 0 (padD k n) = some n
  | 0, n, h => by
    have : n = 0 := by simpa using h
    subst this; rfl
  | k + 1, n, h => by
    show Lib.decFrom 0 (padD k (n / 10) ++ _) = _
    rw [wdecFrom_snoc, dec_padD k (n / 10) (by rw [Nat.pow_succ] at h; omega), wdigitVal_of _ (by omega)]
    simp
    omega
theorem padD_dec : ∀ (k : Nat) (d : List UInt8) (m : Nat), d.length = k → Lib.decFrom 0 d = some m → padD k m = d ∧ m < 10 ^ k
  | 0, d, m, hd, h => by
    have : d = [] := List.length_eq_zero_iff.1 hd
    subst this
    have : m = 0 := by simpa [Lib.decFrom] using h.symm
    subst this
    exact ⟨rfl, by simp⟩
  | k + 1, d, m, hd, h => by
    rcases List.eq_nil_or_concat d with rfl | ⟨d', b, rfl⟩
    · simp at hd
    · have hl : d'.length = k := by simpa using hd
      rw [List.concat_eq_append] at h ⊢
      rw [wdecFrom_snoc] at h
      cases h1 : Lib.decFrom 0 d' with
      | none => rw [h1] at h; cases h
      | some m' =>
        rw [h1] at h
        cases h2 : Lib.digitVal b with
        | none => rw [h2] at h; cases h
        | some x =>
          rw [h2] at h
          have hm : m' * 10 + x = m := by simpa using h
          obtain ⟨hx, hb, -, -⟩ := wdigit_eq h2
          obtain ⟨e1, e2⟩ := padD_dec k d' m' hl h1
          constructor
          · show padD k (m / 10) ++ [_] = _
            rw [show m / 10 = m' by omega, show m % 10 = x by omega, e1, hb]
          · rw [Nat.pow_succ]; omega
theorem padD_digits : ∀ (k n : Nat), 1 ≤ k → n < 10 ^ k → (Lib.decDigits n).length ≤ k ∧ List.replicate (k - (Lib.decDigits n).length) 48 ++ Lib.decDigits n = padD k n
  | 0, _, h, _ => by omega
  | k + 1, n, _, h => by
    rw [Lib.decDigits]
    by_cases hn : n < 10
    · rw [dif_pos hn]
      refine ⟨by simp, ?_⟩
      show _ = padD k (n / 10) ++ _
      rw [show n / 10 = 0 by omega, padD_zero, show n % 10 = n by omega]
      rfl
    · rw [dif_neg hn]
      have hk : 1 ≤ k := by
        rcases Nat.eq_zero_or_pos k with rfl | hk
        · simp at h; omega
        · exact hk
      obtain ⟨h1, h2⟩ := padD_digits k (n / 10) hk (by rw [Nat.pow_succ] at h; omega)
      refine ⟨by simp; exact h1, ?_⟩
      show _ = padD k (n / 10) ++ _
      rw [← h2, List.length_append, List.length_singleton, Nat.add_sub_add_right, List.append_assoc]

/-- The name of a number behind a letter. -/
def nameW (c : UInt8) (n : Int) : List UInt8 := if n < 1 ∨ 999999999999 < n then [] else c :: padD 12 n.toNat
/-- The reference's reading. -/
def readW (c : UInt8) (l : List UInt8) : Int := if l.length = 13 ∧ l.head? = some c then (match Lib.decFrom 0 (l.drop 1) with | some n => (n : Int) | none => 0) else 0
/-- A name without its letter. -/
def cutW (c : UInt8) (l : List UInt8) : List UInt8 := if l.head? = some c then l.drop 1 else l
/-- The program's reading. -/
def numW (c : UInt8) (l : List UInt8) : Int := match Lib.atoiAll (cutW c l) with
  | .ok v => if nameW c v = l then v else 0
  | _ => 0
theorem nameW_in {c : UInt8} {n : Int} (h1 : 1 ≤ n) (h2 : n ≤ 999999999999) : nameW c n = c :: (List.replicate (12 - (Lib.itoa n).length) 48 ++ Lib.itoa n) ∧ (Lib.itoa n).length ≤ 12 := by
  have e : Lib.itoa n = Lib.decDigits n.toNat := by unfold Lib.itoa; rw [if_neg (by omega)]
  obtain ⟨h3, h4⟩ := padD_digits 12 n.toNat (by omega) (by rw [show (10 : Nat) ^ 12 = 1000000000000 from by decide]; omega)
  rw [e, h4]
  exact ⟨by unfold nameW; rw [if_neg (by omega)], h3⟩
theorem atoi_padD {n : Nat} (h : n < 10 ^ 12) : Lib.atoiAll (padD 12 n) = .ok (n : Int) := by
  rw [Lib.atoiAll_short _ (by rw [padD_len]; omega)]
  have hd := dec_padD 12 n h
  cases hp : padD 12 n with
  | nil => have := padD_len 12 n; rw [hp] at this; simp at this
  | cons b r =>
    rw [hp] at hd
    obtain ⟨x, hx⟩ : ∃ x, Lib.digitVal b = some x := by
      cases h1 : Lib.digitVal b with
      | none => rw [Lib.decFrom, h1] at hd; cases hd
      | some x => exact ⟨x, rfl⟩
    obtain ⟨-, -, hb1, hb2⟩ := wdigit_eq hx
    have e1 : (b == 45) = false := by rw [beq_eq_false_iff_ne]; rintro rfl; simp at hb1
    have e2 : (b == 43) = false := by rw [beq_eq_false_iff_ne]; rintro rfl; simp at hb1
    simp [Lib.atoi, e1, e2, Lib.decNat, hd, Lib.NumEnd.ofOption]
theorem numW_readW (c : UInt8) (l : List UInt8) : numW c l = readW c l := by
  have P12 : (10 : Nat) ^ 12 = 1000000000000 := by decide
  by_cases hl : l.length = 13 ∧ l.head? = some c
  · obtain ⟨h13, hc⟩ := hl
    obtain ⟨d, rfl⟩ : ∃ d, l = c :: d := by
      cases l with
      | nil => simp at h13
      | cons a d => exact ⟨d, by rw [show a = c by simpa using hc]⟩
    have hd : d.length = 12 := by simpa using h13
    have hcut : cutW c (c :: d) = d := by unfold cutW; rw [if_pos (by simp)]; rfl
    have hread : readW c (c :: d) = (match Lib.decFrom 0 d with | some n => (n : Int) | none => 0) := by unfold readW; rw [if_pos ⟨h13, hc⟩]; rfl
    rw [hread]
    unfold numW
    rw [hcut]
    cases hm : Lib.decFrom 0 d with
    | some m =>
      obtain ⟨e1, e2⟩ := padD_dec 12 d m hd hm
      have ha : Lib.atoiAll d = .ok (m : Int) := by rw [← e1]; exact atoi_padD e2
      rw [ha]
      show (if nameW c (m : Int) = c :: d then (m : Int) else 0) = (m : Int)
      by_cases h0 : m = 0
      · subst h0; split <;> rfl
      · rw [if_pos]
        unfold nameW
        rw [if_neg (by omega), show ((m : Int)).toNat = m from rfl, e1]
    | none =>
      show (match Lib.atoiAll d with | .ok v => if nameW c v = c :: d then v else 0 | _ => 0) = 0
      cases hv : Lib.atoiAll d with
      | ok v =>
        show (if nameW c v = c :: d then v else 0) = 0
        rw [if_neg]
        intro he
        unfold nameW at he
        split at he
        · cases he
        · rename_i hr
          have he' : padD 12 v.toNat = d := by simpa using he
          rw [← he', dec_padD 12 _ (by omega)] at hm
          cases hm
      | _ => rfl
  · have hread : readW c l = 0 := by unfold readW; rw [if_neg hl]
    rw [hread]
    unfold numW
    cases hv : Lib.atoiAll (cutW c l) with
    | ok v =>
      show (if nameW c v = l then v else 0) = 0
      by_cases he : nameW c v = l
      · rw [if_pos he]
        unfold nameW at he
        split at he
        · subst he
          exfalso
          have hc0 : cutW c [] = [] := by unfold cutW; split <;> rfl
          have : Lib.atoiAll (cutW c []) = .syntax := by rw [hc0]; decide
          rw [this] at hv
          cases hv
        · exfalso
          apply hl
          rw [← he]
          exact ⟨by simp [padD_len], rfl⟩
      · rw [if_neg he]
    | _ => rfl
theorem readW_nameW {c : UInt8} {n : Int} (h1 : 1 ≤ n) (h2 : n ≤ 999999999999) : readW c (nameW c n) = n := by
  have P12 : (10 : Nat) ^ 12 = 1000000000000 := by decide
  have e : nameW c n = c :: padD 12 n.toNat := by unfold nameW; rw [if_neg (by omega)]
  rw [e]
  unfold readW
  rw [if_pos ⟨by simp [padD_len], rfl⟩]
  show (match Lib.decFrom 0 (padD 12 n.toNat) with | some n => (n : Int) | none => 0) = n
  rw [dec_padD 12 _ (by omega)]
  show ((n.toNat : Nat) : Int) = n
  omega
/-- The bytes of a name: the letter and digits. -/
theorem nameW_mem {c : UInt8} : ∀ (k n : Nat), ∀ b ∈ padD k n, 48 ≤ b.toNat ∧ b.toNat ≤ 57
  | 0, _, b, h => by cases h
  | k + 1, n, b, h => by
    rcases List.mem_append.1 h with h | h
    · exact nameW_mem (c := c) k _ b h
    · have : b = UInt8.ofNat (48 + n % 10) := by simpa using h
      subst this
      simp
      omega
end Go.Proofs.YtioeimkaljmffaaGreatDoor
end

section
namespace Go.Proofs.YtioeimkaljmffaaGreatDoor
open Go.RowKit Go Go.Sort
set_option linter.unusedVariables false
set_option maxRecDepth 20000

/-- What the walks of names read of variables. -/
structure TabE (w : World) : Prop where
  i : TabI w
  s : ∃ ev, w.cell? ⟨0, 0, none⟩ = some ev ∧ (ev = .nilIface ∨ ∃ te pe, ev = .iface te pe)
  r : ∃ ev, w.cell? ⟨1, 0, none⟩ = some ev ∧ (ev = .nilIface ∨ ∃ te pe, ev = .iface te pe)
theorem TabE.grown {w w' : World} (h : TabE w) (hb : Below w.heap.size w w') : TabE w' := by
  obtain ⟨hi, ⟨e1, h1, g1⟩, ⟨e2, h2, g2⟩⟩ := h
  exact ⟨hi.grown hb, ⟨e1, by rw [hb.cell (World.block_lt_of_cell? w _ h1)]; exact h1, g1⟩, ⟨e2, by rw [hb.cell (World.block_lt_of_cell? w _ h2)]; exact h2, g2⟩⟩
theorem wgrow_below (w : World) (k : Nat) (os : Array Obj) : Below w.heap.size w (grow (w.drewN k) os) :=
  ⟨rfl, rfl, rfl, by simp [grow, World.drewN], fun j hj => by simp [grow, World.drewN, Array.getElem?_append, hj]⟩
theorem witoa_c (n : Int) (h0 : -9223372036854775808 ≤ n) (h1 : n ≤ 9223372036854775807) {w : World} (hT : TabI w) : Calls Tryz.prog 64 #[.int .i64 n] w (Tells (.string ⟨(Lib.itoa n).toArray⟩) w) := by
  refine (Tryz.strconv_Itoa n h0 h1 w hT.p).mono ?_
  rintro e w' ⟨rfl, k, os, rfl⟩
  exact ⟨rfl, wgrow_below w k os⟩
/-- What Atoi tells: a number and no error, or an error. -/
theorem watoi_c (l : List UInt8) (hl : l.length ≤ 2000) {w : World} (hT : TabE w) : Calls Tryz.prog 74 #[.string ⟨l.toArray⟩] w (fun e w' => (∃ u v, e = .returned (.tuple #[.int .i64 u, v]) ∧ ((v = .nilIface ∧ Lib.atoiAll l = .ok u) ∨ ((∃ te pe, v = .iface te pe) ∧ ∀ z, Lib.atoiAll l ≠ .ok z))) ∧ Below w.heap.size w w') := by
  have hs : (⟨l.toArray⟩ : ByteArray).size = l.length := by show l.toArray.size = _; simp
  have hd : (⟨l.toArray⟩ : ByteArray).data.toList = l := by simp
  rcases h : Lib.atoiAll l with v | _ | _
  · refine (Tryz.strconv_Atoi_ok ⟨l.toArray⟩ (by rw [hs]; omega) v (by rw [hd]; exact h) w).mono ?_
    rintro e w' ⟨rfl, hw⟩
    refine ⟨⟨_, _, rfl, Or.inl ⟨rfl, rfl⟩⟩, ?_⟩
    rcases hw with rfl | ⟨t, rfl⟩
    · exact Below.refl _ _
    · exact Lib.bytesWorld_below _ _ _
  · obtain ⟨ev, hc, he⟩ := hT.s
    refine (Tryz.strconv_Atoi_syntax ⟨l.toArray⟩ (by rw [hs]; omega) (by rw [hd]; exact h) ev w hc he).mono ?_
    rintro e w' ⟨N, rfl, -, -, hb⟩
    exact ⟨⟨_, _, rfl, Or.inr ⟨⟨_, _, rfl⟩, fun z hz => by cases hz⟩⟩, hb⟩
  · obtain ⟨ev, hc, he⟩ := hT.r
    refine (Tryz.strconv_Atoi_range ⟨l.toArray⟩ (by rw [hs]; omega) (by rw [hd]; exact h) ev w hc he).mono ?_
    rintro e w' ⟨N, rfl, -, -, hb⟩
    exact ⟨⟨_, _, rfl, Or.inr ⟨⟨_, _, rfl⟩, fun z hz => by cases hz⟩⟩, hb⟩
theorem repeatL_one48 (k : Nat) : Lib.repeatL [48] k = List.replicate k (48 : UInt8) := by
  induction k with
  | zero => rfl
  | succ k ih => simp [Lib.repeatL, ih, List.replicate_succ]
theorem wrepeat_c (k : Nat) (hk : k ≤ 12) (W : World) : Calls Tryz.prog 65 #[.string ⟨#[48]⟩, .int .i64 (k : Int)] W (Tells (.string (text (List.replicate k 48))) W) := by
  refine (Tryz.strings_Repeat ⟨#[48]⟩ k W (by omega) (by show 1 * k ≤ _; omega)).mono ?_
  rintro e w' ⟨rfl, hb⟩
  exact ⟨by rw [← repeatL_one48]; rfl, hb⟩
theorem wtext_size (l : List UInt8) : (text l).size = l.length := by simp [text, ByteArray.size]
theorem wtext_app (a b : List UInt8) : text a ++ text b = text (a ++ b) := by
  apply ByteArray.ext
  simp [text]

set_option maxHeartbeats 1600000 in
theorem wname_c (n : Int) (h0 : -9223372036854775808 ≤ n) (h1 : n ≤ 9223372036854775807) {w : World} (hT : TabI w) : Calls Tryz.prog 29 #[.int .i64 n] w (Tells (.string (text (nameW 119 n))) w) := by
  by_cases hr : n < 1 ∨ 999999999999 < n
  · have hv : nameW 119 n = [] := by unfold nameW; rw [if_pos hr]
    rw [hv]
    clear hv
    by_cases hn1 : n < 1
    · clear hr
      go_enter Tryz.func29, Tryz.ntmps29
      go_wp2_with (fail)
      go_ret
      exact ⟨rfl, Below.refl _ _⟩
    · have hn2 : 999999999999 < n := by omega
      clear hr
      go_enter Tryz.func29, Tryz.ntmps29
      go_wp2_with (fail)
      go_ret
      exact ⟨rfl, Below.refl _ _⟩
  · have hn1 : ¬ n < 1 := by omega
    have hn2 : ¬ 999999999999 < n := by omega
    obtain ⟨hv, hlen⟩ := nameW_in (c := 119) (n := n) (by omega) (by omega)
    have HI := Lib.hid (witoa_c n h0 h1 hT)
    obtain ⟨t, ht⟩ : ∃ t, Lib.itoa n = t := ⟨_, rfl⟩
    rw [ht] at HI hv hlen
    rw [hv]
    obtain ⟨tl, htl⟩ : ∃ z, t.length = z := ⟨_, rfl⟩
    rw [htl] at hlen ⊢
    obtain ⟨k, hk⟩ : ∃ k, 12 - tl = k := ⟨_, rfl⟩
    have hki : (12 : Int) - (tl : Int) = (k : Int) := by omega
    have hk12 : k ≤ 12 := by omega
    have hsz : (⟨t.toArray⟩ : ByteArray).size = tl := by rw [← htl]; exact wtext_size t
    have HR := Lib.hid (fun W => wrepeat_c k hk12 W)
    obtain ⟨rp, hrp⟩ : ∃ z, List.replicate k (48 : UInt8) = z := ⟨_, rfl⟩
    have hrl : rp.length = k := by rw [← hrp]; simp
    rw [hrp] at HR
    rw [hk, hrp]
    have hs1 : ¬ 9223372036854775807 < (text [119]).size + (text rp).size := by rw [wtext_size, wtext_size, hrl]; simp; omega
    have hs2 : ¬ 9223372036854775807 < (text [119] ++ text rp).size + (⟨t.toArray⟩ : ByteArray).size := by rw [wtext_app, wtext_size, hsz, List.length_append, hrl]; simp; omega
    rw [show text [119] = ⟨#[119]⟩ from rfl] at hs1 hs2
    have HE9 := Lib.hid (show (⟨#[119]⟩ : ByteArray) ++ text rp ++ (⟨t.toArray⟩ : ByteArray) = text (119 :: (rp ++ t)) from by
      show text [119] ++ text rp ++ text t = _
      rw [wtext_app, wtext_app]
      rfl)
    clear hr hv ht htl hrp hk hrl
    go_enter Tryz.func29, Tryz.ntmps29
    go_wp2_with (first
      | (go_at_call 64; (with_reducible refine HI.out.mono ?_); rintro e1 w1 ⟨rfl, hb1⟩; have HB1 := Lib.hid hb1; clear hb1)
      | (go_at_call 65; (with_reducible refine (HR.out _).mono ?_); rintro e2 w2 ⟨rfl, hb2⟩; have HB2 := Lib.hid hb2; clear hb2))
    go_ret
    exact ⟨by rw [← HE9.out]; rfl, HB1.out.trans (HB2.out.mono HB1.out.size)⟩
set_option maxHeartbeats 1600000 in
theorem wnumber_c (l : List UInt8) (hl : l.length ≤ 1000) {w : World} (hT : TabE w) : Calls Tryz.prog 34 #[.string (text l)] w (Tells (.int .i64 (readW 119 l)) w) := by
  have e := numW_readW 119 l
  unfold numW at e
  have hsz : l.length ≤ 2000 := by omega
  have hcut : (Lib.trimPrefix l [119]) = cutW 119 l := by
    unfold Lib.trimPrefix cutW
    cases l with
    | nil => rfl
    | cons a r =>
      by_cases ha : a = 119
      · subst ha; simp [Lib.hasPrefix]
      · simp [Lib.hasPrefix, ha]
        try (intro h; exact absurd h.symm ha)
  have hcl : (cutW 119 l).length ≤ 2000 := by
    unfold cutW; split
    · simp; omega
    · omega
  have HA := Lib.hid (watoi_c (cutW 119 l) hcl hT)
  have HTR := Lib.hid (show Calls Tryz.prog 75 #[.string (text l), .string ⟨#[119]⟩] w (fun e w' => e = .returned (.string ⟨(cutW 119 l).toArray⟩) ∧ w = w') from by
    refine (Tryz.strings_TrimPrefix (text l) ⟨#[119]⟩ w).mono ?_
    rintro e w' ⟨rfl, rfl⟩
    exact ⟨by rw [← hcut]; simp [text], rfl⟩)
  have HT := Lib.hid hT
  have HE := Lib.hid e
  clear hT e hcut hsz hcl
  go_enter Tryz.func34, Tryz.ntmps34
  go_upto_region 2 with (first
    | (go_at_call 75; (with_reducible refine HTR.out.mono ?_); rintro e1 w1 ⟨rfl, rfl⟩)
    | (go_at_call 74; (with_reducible refine HA.out.mono ?_); rintro e2 w2 ⟨⟨u, v, rfl, huv⟩, hb2⟩; have HB2 := Lib.hid hb2; have HUV := Lib.hid huv; clear hb2 huv))
  rcases HUV.out with ⟨rfl, hok⟩ | ⟨⟨te, pe, rfl⟩, hno⟩
  · have hbd := Lib.atoiAll_bounds hok
    have HN := Lib.hid (wname_c u hbd.1 hbd.2 (HT.out.i.grown HB2.out))
    have he : (if nameW 119 u = l then u else 0) = readW 119 l := by have := HE.out; rw [hok] at this; exact this
    clear hok hbd HUV
    by_cases hq : nameW 119 u = l
    · rw [if_pos hq] at he
      rw [hq] at HN
      clear hq
      subst he
      go_wp2_with (go_at_call 29; (with_reducible refine HN.out.mono ?_); rintro e3 w3 ⟨rfl, hb3⟩; have HB3 := Lib.hid hb3; clear hb3)
      go_ret
      exact ⟨rfl, HB2.out.trans (HB3.out.mono HB2.out.size)⟩
    · rw [if_neg hq] at he
      have hnb : ((text (nameW 119 u)).toList == (text l).toList) = false := by
        rw [ByteArray.toList_eq, ByteArray.toList_eq, beq_eq_false_iff_ne]
        simpa [text] using hq
      have HQ := Lib.hid he
      clear hq he
      go_wp2_with (go_at_call 29; (with_reducible refine HN.out.mono ?_); rintro e3 w3 ⟨rfl, hb3⟩; have HB3 := Lib.hid hb3; clear hb3)
      go_ret
      exact ⟨by rw [← HQ.out]; rfl, HB2.out.trans (HB3.out.mono HB2.out.size)⟩
  · have he : 0 = readW 119 l := by
      have h9 := HE.out
      split at h9
      · rename_i z hz; exact absurd hz (hno z)
      · exact h9
    have HQ := Lib.hid he
    clear he hno HUV
    go_wp2_with (fail)
    go_ret
    exact ⟨by rw [← HQ.out]; rfl, HB2.out⟩
end Go.Proofs.YtioeimkaljmffaaGreatDoor
end

section
namespace Go.Proofs.YtioeimkaljmffaaGreatDoor
open Go.RowKit
set_option linter.unusedVariables false

/-- WHAT THE WALK IS TOLD OF A SLICE OF INTEGERS THAT CAME IN: it is nil; or it leads to a row of 'cap' cells, the numbers 'zs' (the first 'len' are its elements, the rest its spare room), each fitting its kind. -/
def IsRow (k : IntKind) (w : World) (a : Option Addr) (len cap : Nat) (zs : List Int) : Prop :=
  (a = none ∧ len = 0 ∧ cap = 0 ∧ zs = []) ∨
  ∃ x, a = some x ∧ len ≤ cap ∧ cap ≤ maxLen ∧ zs.length = cap ∧ (∀ i, i < zs.length → w.cell? (x.add i) = some (.int k (zs.getD i 0))) ∧ ∀ n ∈ zs, (Lit.int k n).wf = true

theorem u8_of_wf {n : Int} (h : (Lit.int .u8 n).wf = true) : 0 ≤ n ∧ n ≤ 255 := by
  simpa [Lit.wf, IntKind.min, IntKind.max, IntKind.signed, IntKind.bits] using h

theorem IsRow.bys {w : World} {a : Option Addr} {n cap : Nat} {zs : List Int} (h : IsRow .u8 w a n cap zs) : ∃ l, Bys w a n cap l := by
  rcases h with ⟨rfl, rfl, rfl, rfl⟩ | ⟨x, rfl, hl, hm, hz, hcell, hwz⟩
  · exact ⟨[], rfl, Nat.le_refl _, by omega, .inl rfl⟩
  · refine ⟨(zs.take n).map (fun z => UInt8.ofNat z.toNat), by simp; omega, hl, by unfold maxLen at hm; omega, ?_⟩
    by_cases hc : cap = 0
    · exact .inl hc
    · right
      obtain ⟨b, off, spot⟩ := x
      have h0 := hcell 0 (by omega)
      have hspot : spot = none := by simpa [Addr.add] using World.cell?_spot h0
      subst hspot
      refine ⟨b, off, rfl, fun i hi => ?_⟩
      have hi' : i < zs.length := by omega
      have := hcell i hi'
      have hw := u8_of_wf (hwz (zs.getD i 0) (by rw [List.getD_eq_getElem?_getD, List.getElem?_eq_getElem hi']; exact List.getElem_mem hi'))
      have e : by8 ((zs.take n).map (fun z => UInt8.ofNat z.toNat)) i = zs.getD i 0 := by
        unfold by8
        have hq : zs.getD i 0 = zs[i] := by simp [List.getD, hi']
        rw [hq] at hw ⊢
        simp [List.getD, hi, hi']
        omega
      rw [e]
      have ea : (⟨b, off, none⟩ : Addr).add i = ⟨b, off + i, none⟩ := by
        by_cases h0 : i = 0
        · subst h0; rfl
        · simp [Addr.add, h0]
      rw [← ea]; exact this

end Go.Proofs.YtioeimkaljmffaaGreatDoor
end

section
namespace Go.Proofs.YtioeimkaljmffaaGreatDoor
open Go.RowKit Go Go.WideShapes Go.ChangeShapes
set_option linter.unusedVariables false

theorem bys_of_open {H : Type} {enc : TypeId × Value → H} {W : World} {a : Option Addr} {len cap : Nat} {d : DataW H} {p : List MemPlace}
    (h : DataW.Trod enc Tryz.prog W 0 (fun _ => true) true 34 (.slice a len cap) d p) : ∃ l, Bys W a len cap l := by
  obtain ⟨fuel, hf⟩ := h
  have hr : ∃ zs, IsRow .u8 W a len cap zs := by
    rcases open_ints Tryz.underlying34 Tryz.underlying5 (by kernel_rfl) hf with ⟨hcs, _⟩ | ⟨x, l, c, zs, hcs, _, hl, hm, hz, _, hcell, hwz⟩
    · simp [Value.cells] at hcs
      obtain ⟨rfl, rfl, rfl⟩ := hcs
      exact ⟨[], .inl ⟨rfl, rfl, rfl, rfl⟩⟩
    · simp [Value.cells] at hcs
      obtain ⟨rfl, rfl, rfl⟩ := hcs
      exact ⟨zs, .inr ⟨_, rfl, hl, hm, by simpa using hz, hcell, hwz⟩⟩
  obtain ⟨zs, hr⟩ := hr
  exact hr.bys
end Go.Proofs.YtioeimkaljmffaaGreatDoor
end

section
namespace Go.Proofs.YtioeimkaljmffaaGreatDoor
open Go.RowKit Go Go.Sort Go.Maps Go.WideMaps
set_option linter.unusedVariables false
set_option maxRecDepth 20000

theorem lholds_c {w : World} {p q : Nat} {bv : Value} {g : Lg} (h : LogIn w p q bv g) (hne : 0 < g.B.length) : Calls Tryz.prog 53 #[.pointer (some ⟨p, 0, none⟩)] w (Tells (.bool (decide (g.B.getD (g.B.length - 1) 0 < g.next))) w) := by
  obtain ⟨a, cap, rfl, hle, hmax, hp⟩ := h.place
  obtain ⟨b, o, rfl, hc⟩ := hp (g.B.length - 1) (by omega)
  have ci := hc w (Below.refl _ _)
  obtain ⟨c0, c1, c2, c3, c4, c5, c6⟩ := h.cs
  obtain ⟨z, hz⟩ : ∃ z, g.B.getD (g.B.length - 1) 0 = z := ⟨_, rfl⟩
  rw [hz] at ci ⊢
  obtain ⟨j, hj⟩ : ∃ j, g.B.length - 1 = j := ⟨_, rfl⟩
  obtain ⟨m, hm⟩ : ∃ m, g.B.length = m := ⟨_, rfl⟩
  rw [hj] at ci
  rw [hm] at hj hne hle c2
  have hmj : (m : Int) - 1 = (j : Int) := by omega
  have hjm : (j : Int) < (m : Int) := by omega
  have hj0 : (0 : Int) ≤ (j : Int) := by omega
  have hjx : (j : Int) ≤ 9223372036854775807 := by omega
  have k2 := cell_regrown c2
  have k4 := cell_regrown c4
  have ki := cell_regrown ci
  clear c0 c1 c2 c3 c4 c5 c6 h hp hc ci hz hj hm hle hmax hne
  go_enter Tryz.func53, Tryz.ntmps53
  go_wp2
  refine wp_region_quiet_below (by kernel_rfl) (by kernel_rfl) ?_
  repeat (go_big_quiet_step (fail))
  refine wpQuiet_nil ?_
  intro _ hw'
  obtain ⟨⟨dq, osq⟩, hw''⟩ := hw'
  subst hw''
  have HB8 := Lib.hid (below_regrown w dq osq)
  go_wp2
  go_ret
  exact ⟨by first | rfl | simp, HB8.out⟩
theorem llast_c {w : World} {p q : Nat} {bv : Value} {g : Lg} (h : LogIn w p q bv g) (hne : 0 < g.B.length) (hT : TabI w) (h0 : -9223372036854775808 ≤ g.B.getD (g.B.length - 1) 0) (h1 : g.B.getD (g.B.length - 1) 0 ≤ 9223372036854775807) :
    Calls Tryz.prog 95 #[.pointer (some ⟨p, 0, none⟩)] w (Tells (.string (text (nameW 119 (g.B.getD (g.B.length - 1) 0)))) w) := by
  obtain ⟨a, cap, rfl, hle, hmax, hp⟩ := h.place
  obtain ⟨b, o, rfl, hc⟩ := hp (g.B.length - 1) (by omega)
  have ci := hc w (Below.refl _ _)
  obtain ⟨c0, c1, c2, c3, c4, c5, c6⟩ := h.cs
  obtain ⟨z, hz⟩ : ∃ z, g.B.getD (g.B.length - 1) 0 = z := ⟨_, rfl⟩
  rw [hz] at ci h0 h1 ⊢
  obtain ⟨j, hj⟩ : ∃ j, g.B.length - 1 = j := ⟨_, rfl⟩
  obtain ⟨m, hm⟩ : ∃ m, g.B.length = m := ⟨_, rfl⟩
  rw [hj] at ci
  rw [hm] at hj hne hle c2
  have hmj : (m : Int) - 1 = (j : Int) := by omega
  have hjm : (j : Int) < (m : Int) := by omega
  have hj0 : (0 : Int) ≤ (j : Int) := by omega
  have hjx : (j : Int) ≤ 9223372036854775807 := by omega
  have HN1 := Lib.hid (fun (d : Nat) (os : Array Obj) => (wname_c z h0 h1 (hT.grown (below_regrown w d os))).regrown_of)
  have k2 := cell_regrown c2
  have ki := cell_regrown ci
  clear c0 c1 c2 c3 c4 c5 c6 h hp hc ci hz hj hm hle hmax hne h0 h1 hT
  go_enter Tryz.func95, Tryz.ntmps95
  go_wp2
  refine wp_region_quiet_below (by kernel_rfl) (by kernel_rfl) ?_
  repeat (go_big_quiet_step (with_reducible exact HN1.out _ _))
  refine wpQuiet_nil ?_
  intro _ hw'
  obtain ⟨⟨dq, osq⟩, hw''⟩ := hw'
  subst hw''
  have HB8 := Lib.hid (below_regrown w dq osq)
  go_wp2
  go_ret
  exact ⟨rfl, HB8.out⟩
end Go.Proofs.YtioeimkaljmffaaGreatDoor
end

section
namespace Go.Proofs.YtioeimkaljmffaaGreatDoor
open Go.RowKit Go Go.Sort Go.Maps Go.WideMaps
set_option linter.unusedVariables false
set_option maxRecDepth 20000

def Lk (W : World) (p q : Nat) (g : Lg) (G : Nat → Prop) : Prop := ∃ bv, LogIn W p q bv g ∧ G = lgfoot p bv
theorem Lk.keep {W W' : World} {p q : Nat} {g : Lg} {G : Nat → Prop} (h : Lk W p q g G) (hk : ∀ k, G k → W'.heap[k]? = W.heap[k]?) : Lk W' p q g G := by
  obtain ⟨bv, h1, rfl⟩ := h; exact ⟨bv, h1.keep hk, rfl⟩
theorem Lk.lt {W : World} {p q : Nat} {g : Lg} {G : Nat → Prop} (h : Lk W p q g G) {k : Nat} (hk : G k) : k < W.heap.size := by
  obtain ⟨bv, h1, rfl⟩ := h; exact h1.lt hk
theorem Lk.below {W W' : World} {p q : Nat} {g : Lg} {G : Nat → Prop} (h : Lk W p q g G) (hb : Below W.heap.size W W') : Lk W' p q g G := h.keep fun k hk => hb.block k (h.lt hk)
theorem wdk_keep {W W' : World} {q : Nat} {st : Ds} {F : Nat → Prop} (h : Dk W q st F) (hk : ∀ k, F k → W'.heap[k]? = W.heap[k]?) : Dk W' q st F := by
  obtain ⟨m, pv, FS, h1, rfl⟩ := h; exact ⟨m, pv, FS, h1.keep hk, rfl⟩
theorem wdk_lt {W : World} {q : Nat} {st : Ds} {F : Nat → Prop} (h : Dk W q st F) {k : Nat} (hk : F k) : k < W.heap.size := by
  obtain ⟨m, pv, FS, h1, rfl⟩ := h; exact h1.lt hk
/-- The disk and a log on it, apart, since w1. -/
structure Lw (w1 : World) (F0 G0 : Nat → Prop) (q p : Nat) (st : Ds) (g : Lg) (W : World) : Prop where
  ex : ∃ F G, Dk W q st F ∧ Lk W p q g G ∧ (∀ k, F k → ¬ G k) ∧ (∀ k, F k → F0 k ∨ w1.heap.size ≤ k) ∧ (∀ k, G k → G0 k ∨ w1.heap.size ≤ k)
  tr : Trn (fun k => F0 k ∨ G0 k) w1 W
theorem Lw.start {W : World} {F G : Nat → Prop} {q p : Nat} {st : Ds} {g : Lg} (hd : Dk W q st F) (hr : Lk W p q g G) (hn : ∀ k, F k → ¬ G k) : Lw W F G q p st g W :=
  ⟨⟨F, G, hd, hr, hn, fun k hk => .inl hk, fun k hk => .inl hk⟩, Trn.refl⟩
/-- What a call of the disk leaves. -/
theorem Lw.disk {w1 W W' : World} {F0 G0 F : Nat → Prop} {q p : Nat} {st' : Ds} {g : Lg} {G : Nat → Prop} {v : Value} {e : Ending} (hr : Lk W p q g G) (hn : ∀ k, F k → ¬ G k) (hF : ∀ k, F k → F0 k ∨ w1.heap.size ≤ k) (hG : ∀ k, G k → G0 k ∨ w1.heap.size ≤ k) (ht : Trn (fun k => F0 k ∨ G0 k) w1 W) (h : DPost q F v st' W e W') :
    e = .returned v ∧ Lw w1 F0 G0 q p st' g W' := by
  obtain ⟨he, F', hd, ht', hf⟩ := h
  refine ⟨he, ⟨F', G, hd, hr.keep fun k hk => ht'.block k (hr.lt hk) (fun h => hn k h hk), fun k hk hg => ?_, fun k hk => ?_, hG⟩, ht.trans ht' fun k hk => (hF k hk).imp_left .inl⟩
  · rcases hf k hk with h1 | h1
    · exact hn k h1 hg
    · have := hr.lt hg; omega
  · rcases hf k hk with h1 | h1
    · exact hF k h1
    · exact .inr (Nat.le_trans ht.size h1)
/-- What turns the log alone leaves. -/
theorem Lw.log {w1 W W' : World} {F0 G0 F : Nat → Prop} {q p : Nat} {st : Ds} {g' : Lg} {G G' : Nat → Prop} (hd : Dk W q st F) (hn : ∀ k, F k → ¬ G k) (hF : ∀ k, F k → F0 k ∨ w1.heap.size ≤ k) (hG : ∀ k, G k → G0 k ∨ w1.heap.size ≤ k) (ht : Trn (fun k => F0 k ∨ G0 k) w1 W) (hr : Lk W' p q g' G') (ht' : Trn G W W') (hf : ∀ k, G' k → G k ∨ W.heap.size ≤ k) :
    Lw w1 F0 G0 q p st g' W' := by
  refine ⟨⟨F, G', wdk_keep hd fun k hk => ht'.block k (wdk_lt hd hk) (fun h => hn k hk h), hr, fun k hk hg => ?_, hF, fun k hk => ?_⟩, ht.trans ht' fun k hk => (hG k hk).imp_left .inr⟩
  · rcases hf k hg with h1 | h1
    · exact hn k hk h1
    · have := wdk_lt hd hk; omega
  · rcases hf k hk with h1 | h1
    · exact hG k h1
    · exact .inr (Nat.le_trans ht.size h1)
section
variable {w1 W : World} {F0 G0 : Nat → Prop} {q p : Nat} {st : Ds} {g : Lg}
theorem Lw.below {W' : World} (h : Lw w1 F0 G0 q p st g W) (hb : Below W.heap.size W W') : Lw w1 F0 G0 q p st g W' := by
  obtain ⟨⟨F, G, hd, hr, h1, h2, h3⟩, ht⟩ := h
  exact ⟨⟨F, G, hd.below hb, hr.below hb, h1, h2, h3⟩, ht.then (Trn.of hb)⟩
theorem Lw.cs (h : Lw w1 F0 G0 q p st g W) : ∃ bv, LogIn W p q bv g := by
  obtain ⟨⟨F, G, hd, ⟨bv, hl, -⟩, -⟩, ht⟩ := h; exact ⟨bv, hl⟩
/-- The disk's calls. -/
theorem lw_make (h : Lw w1 F0 G0 q p st g W) (nm : List UInt8) (hn : nm.length ≤ 9223372036854775807) : Calls Tryz.prog 30 #[.pointer (some ⟨q, 0, none⟩), .string (text nm)] W (fun e W' => e = .returned (.int .i64 (st.make nm).1) ∧ Lw w1 F0 G0 q p (st.make nm).2 g W') := by
  obtain ⟨⟨F, G, hd, hr, h1, h2, h3⟩, ht⟩ := h
  exact (dmake_c hd nm hn).mono fun e W' hp => Lw.disk hr h1 h2 h3 ht hp
theorem lw_sync (h : Lw w1 F0 G0 q p st g W) (nm : List UInt8) (hn : nm.length ≤ 9223372036854775807) : Calls Tryz.prog 98 #[.pointer (some ⟨q, 0, none⟩), .string (text nm)] W (fun e W' => e = .returned (.int .i64 (st.sync nm).1) ∧ Lw w1 F0 G0 q p (st.sync nm).2 g W') := by
  obtain ⟨⟨F, G, hd, hr, h1, h2, h3⟩, ht⟩ := h
  exact (dsync_c hd nm hn).mono fun e W' hp => Lw.disk hr h1 h2 h3 ht hp
theorem lw_drop (h : Lw w1 F0 G0 q p st g W) (nm : List UInt8) (hn : nm.length ≤ 9223372036854775807) : Calls Tryz.prog 59 #[.pointer (some ⟨q, 0, none⟩), .string (text nm)] W (fun e W' => e = .returned (.int .i64 (st.drop nm).1) ∧ Lw w1 F0 G0 q p (st.drop nm).2 g W') := by
  obtain ⟨⟨F, G, hd, hr, h1, h2, h3⟩, ht⟩ := h
  exact (ddrop_c hd nm hn).mono fun e W' hp => Lw.disk hr h1 h2 h3 ht hp
end
end Go.Proofs.YtioeimkaljmffaaGreatDoor
end

section
namespace Go.Proofs.YtioeimkaljmffaaGreatDoor
open Go.RowKit Go Go.Sort Go.Maps Go.WideMaps
set_option linter.unusedVariables false
set_option maxRecDepth 20000

def Lg.lastN (g : Lg) : Int := g.B.getD (g.B.length - 1) 0
/-- What is made sure. -/
def syncL (st : Ds) (g : Lg) : Int × Ds × Lg := if (st.sync (nameW 119 g.lastN)).1 = 0 then (0, (st.sync (nameW 119 g.lastN)).2, { g with sure := g.next - 1 }) else ((st.sync (nameW 119 g.lastN)).1, (st.sync (nameW 119 g.lastN)).2, g)
theorem nameW_len (c : UInt8) (n : Int) : (nameW c n).length ≤ 13 := by
  unfold nameW
  split
  · simp
  · simp [padD_len]
/-- The box alone is another. -/
theorem LogIn.turn {W W' : World} {p q : Nat} {bv : Value} {g g' : Lg} (h : LogIn W p q bv g) (hk : ∀ k, k ≠ p → k < W.heap.size → W'.heap[k]? = W.heap[k]?)
    (hh : W'.heap[p]? = some (.cells #[.pointer (some ⟨q, 0, none⟩), .int .i64 g'.fails, bv, .int .i64 g'.size, .int .i64 g'.next, .int .i64 g'.sure, .int .i64 g'.most] 87 (0, 0))) (hB : g'.B = g.B) : LogIn W' p q bv g' := by
  have hne1 : ∀ k, bv.ownBlock = some k → k ≠ p := by
    rintro k hk rfl
    rcases h.list.2 with ⟨rfl, -⟩ | ⟨b, cap, cur, rfl, -, hg, -⟩
    · cases hk
    · injection hk with hk; subst hk
      have := tneD hg h.head
      exact absurd this (by decide)
  exact ⟨hh, by rw [hB]; exact h.list.of_block (fun k hv => hk k (hne1 k hv) (h.list.lt k hv).2)⟩
theorem Lw.turn {w1 W W' : World} {F0 G0 : Nat → Prop} {q p : Nat} {st : Ds} {g g' : Lg} (h : Lw w1 F0 G0 q p st g W) (hk : ∀ k, k ≠ p → k < W.heap.size → W'.heap[k]? = W.heap[k]?) (ht : Trn (fun k => k = p) W W')
    (hh : ∀ bv, W.heap[p]? = some (.cells #[.pointer (some ⟨q, 0, none⟩), .int .i64 g.fails, bv, .int .i64 g.size, .int .i64 g.next, .int .i64 g.sure, .int .i64 g.most] 87 (0, 0)) → W'.heap[p]? = some (.cells #[.pointer (some ⟨q, 0, none⟩), .int .i64 g'.fails, bv, .int .i64 g'.size, .int .i64 g'.next, .int .i64 g'.sure, .int .i64 g'.most] 87 (0, 0))) (hB : g'.B = g.B) : Lw w1 F0 G0 q p st g' W' := by
  obtain ⟨⟨F, G, hd, ⟨bv, hl, rfl⟩, h1, h2, h3⟩, htr⟩ := h
  exact Lw.log hd h1 h2 h3 htr ⟨bv, hl.turn hk (hh bv hl.head) hB, rfl⟩ (ht.mono fun k hk => .inl hk) (fun k hk => .inl hk)
set_option maxHeartbeats 6400000 in
theorem lsync_p {w1 W : World} {F0 G0 : Nat → Prop} {q p : Nat} {st : Ds} {g : Lg} (h : Lw w1 F0 G0 q p st g W) (hne : 0 < g.B.length) (hT : TabI W) (h0 : -9223372036854775808 ≤ g.lastN) (h1 : g.lastN ≤ 9223372036854775807) (h2 : 0 ≤ g.next) (h3 : g.next ≤ 2000000000000) :
    Calls Tryz.prog 56 #[.pointer (some ⟨p, 0, none⟩)] W (fun e W' => e = .returned (.int .i64 (syncL st g).1) ∧ Lw w1 F0 G0 q p (syncL st g).2.1 (syncL st g).2.2 W') := by
  obtain ⟨nm, hnm⟩ : ∃ nm, nameW 119 g.lastN = nm := ⟨_, rfl⟩
  have HN := Lib.hid (show nm.length ≤ 9223372036854775807 from by rw [← hnm]; have := nameW_len 119 g.lastN; omega)
  have HLA := Lib.hid (fun W' (hb : Below W.heap.size W W') => by
    obtain ⟨bv, hl⟩ := (h.below hb).cs
    have := llast_c hl hne (hT.grown hb) h0 h1
    rw [show g.B.getD (g.B.length - 1) 0 = g.lastN from rfl, hnm] at this
    exact this)
  have HL := Lib.hid h
  have HNX := Lib.hid (And.intro h2 h3)
  have HS := Lib.hid (show syncL st g = if (st.sync nm).1 = 0 then (0, (st.sync nm).2, { g with sure := g.next - 1 }) else ((st.sync nm).1, (st.sync nm).2, g) from by unfold syncL; rw [hnm])
  obtain ⟨r1, hr1⟩ : ∃ z, (st.sync nm).1 = z := ⟨_, rfl⟩
  obtain ⟨s1, hs1⟩ : ∃ z, (st.sync nm).2 = z := ⟨_, rfl⟩
  rw [hr1, hs1] at HS
  have HSY := Lib.hid (fun W' (hb : Below W.heap.size W W') => by
    have := lw_sync (h.below hb) nm HN.out
    rw [hr1, hs1] at this
    exact this)
  obtain ⟨R, hR⟩ : ∃ z, syncL st g = z := ⟨_, rfl⟩
  rw [hR] at HS ⊢
  clear h hne hT h0 h1 h2 h3 hnm hr1 hs1 hR
  go_enter Tryz.func56, Tryz.ntmps56
  go_wp2
  refine wp_region_flow_tail 6 [none, none, none, none, some 0, some 1, some 2, some 3, some 4, some 5, none, none, none, none, none, none, none, none, none, none, none, none] (fun i => [undef, undef, undef, undef, undef, undef].getD i undef) [(fun v _ => v = .pointer (some ⟨p, 0, none⟩)), (fun v _ => v = .pointer (some ⟨p, 0, none⟩)), (fun v _ => v = .pointer (some ⟨p, 0, none⟩)), (fun v _ => v = .pointer (some ⟨q, 0, none⟩)), (fun v _ => v = .pointer (some ⟨p, 0, none⟩)), (fun v _ => v = .string (text nm))] (fun _ => False) (by kernel_rfl) (by kernel_rfl) (by kernel_rfl) rfl rfl rfl ?_ ?_ ?_
  · intro g hg v X Y hX hY hv
    simp only [List.mem_cons, List.not_mem_nil, or_false] at hg
    rcases hg with rfl | rfl | rfl | rfl | rfl | rfl
    all_goals first
      | exact hv
      | exact hv.kept hY
  · simp only [flowOpsF, List.take_succ_cons, List.take_zero, and_true]
    refine ⟨?_, ?_, ?_, ?_, ?_, ?_⟩
    · intro xs W9 hW hn9
      simp only [flowAct, List.zipWith_cons_cons, List.zipWith_nil_left]
      go_wp2_with (fail)
      exact ⟨rfl, _, rfl, Below.refl _ _, rfl, fun h => h.elim⟩
    · intro xs W9 hW hn9
      simp [flowNeeds, Region.binds] at hn9
      simp only [flowAct, List.zipWith_cons_cons, List.zipWith_nil_left]
      try simp only [hn9]
      go_wp2_with (fail)
      exact ⟨rfl, _, rfl, Below.refl _ _, rfl, fun h => h.elim⟩
    · intro xs W9 hW hn9
      simp [flowNeeds, Region.binds] at hn9
      simp only [flowAct, List.zipWith_cons_cons, List.zipWith_nil_left]
      try simp only [hn9]
      go_wp2_with (fail)
      exact ⟨rfl, _, rfl, Below.refl _ _, rfl, fun h => h.elim⟩
    · intro xs W9 hW hn9
      simp [flowNeeds, Region.binds] at hn9
      obtain ⟨bv, hl9⟩ := (HL.out.below hW).cs
      obtain ⟨c0, c1, c2, c3, c4, c5, c6⟩ := hl9.cs
      clear hl9
      simp only [flowAct, List.zipWith_cons_cons, List.zipWith_nil_left]
      try simp only [hn9]
      go_wp2_with (fail)
      exact ⟨rfl, _, rfl, Below.refl _ _, rfl, fun h => h.elim⟩
    · intro xs W9 hW hn9
      simp only [flowAct, List.zipWith_cons_cons, List.zipWith_nil_left]
      go_wp2_with (fail)
      exact ⟨rfl, _, rfl, Below.refl _ _, rfl, fun h => h.elim⟩
    · intro xs W9 hW hn9
      simp [flowNeeds, Region.binds] at hn9
      simp only [flowAct, List.zipWith_cons_cons, List.zipWith_nil_left]
      try simp only [hn9]
      go_wp2_with (go_at_call 95; (with_reducible refine (HLA.out _ hW).mono ?_); rintro e9 w9 ⟨rfl, hb9⟩)
      exact ⟨rfl, _, rfl, hb9, rfl, fun h => h.elim⟩
  · intro xs W9 hW hall hfr
    clear hfr
    simp only [flowAll, and_true, Nat.zero_add, Nat.reduceAdd] at hall
    obtain ⟨-, -, -, a3, -, a5⟩ := hall
    simp only [flowAct, List.zipWith_cons_cons, List.zipWith_nil_left, List.drop_succ_cons, List.drop_zero]
    simp only [a3, a5]
    clear a3 a5
    have HW := Lib.hid hW
    clear hW
    by_cases hr0 : r1 = 0
    · subst hr0
      have HS0 := Lib.hid (show R = (0, s1, { g with sure := g.next - 1 }) from by rw [HS.out, if_pos rfl])
      go_wp2_with (go_at_call 98; (with_reducible refine (HSY.out _ HW.out).mono ?_); rintro e2 w2 ⟨rfl, hl2⟩; have HL2 := Lib.hid hl2; obtain ⟨bv, hl9⟩ := hl2.cs; obtain ⟨c0, c1, c2, c3, c4, c5, c6⟩ := hl9.cs; have f5 := hl9.fz 5; obtain ⟨hn0, hn1⟩ := HNX.out; clear hl9 hl2)
      go_ret
      rw [HS0.out]
      exact ⟨rfl, HL2.out.turn (fun k hk _ => heap_setCell_other _ _ _ _ hk) (Trn.refl.set (.inl rfl)) (fun bv hh => by rw [heap_setCell_same _ p 5 _ 87 _ hh]; rfl) rfl⟩
    · have HS0 := Lib.hid (show R = (r1, s1, g) from by rw [HS.out, if_neg hr0])
      have hrb : (r1 == 0) = false := by rw [beq_eq_false_iff_ne]; exact hr0
      go_wp2_with (go_at_call 98; (with_reducible refine (HSY.out _ HW.out).mono ?_); rintro e2 w2 ⟨rfl, hl2⟩; have HL2 := Lib.hid hl2; clear hl2)
      go_ret
      rw [HS0.out]
      exact ⟨rfl, HL2.out⟩
end Go.Proofs.YtioeimkaljmffaaGreatDoor
end

section
namespace Go.Proofs.YtioeimkaljmffaaGreatDoor
open Go.RowKit Go Go.Sort Go.Maps Go.WideMaps
set_option linter.unusedVariables false
set_option maxRecDepth 20000

/-- What an append leaves. -/
def putL (st : Ds) (g : Lg) (l : List UInt8) : Int × Ds × Lg := if (st.append (nameW 119 g.lastN) l).1 = 0 then (0, (st.append (nameW 119 g.lastN) l).2, { g with size := g.size + (l.length : Int), next := g.next + 1 }) else ((st.append (nameW 119 g.lastN) l).1, (st.append (nameW 119 g.lastN) l).2, g)
theorem lw_append {w1 W : World} {F0 G0 : Nat → Prop} {q p : Nat} {st : Ds} {g : Lg} (h : Lw w1 F0 G0 q p st g W) (nm : List UInt8) (hn : nm.length ≤ 9223372036854775807) {ab : Option Addr} {bl cb : Nat} {l : List UInt8} (hbl : Bys w1 ab bl cb l) (hbl2 : l.length ≤ 1000000) (hbn : 0 < bl → ∀ b off, ab = some ⟨b, off, none⟩ → b < w1.heap.size ∧ ¬ F0 b ∧ ¬ G0 b) :
    Calls Tryz.prog 31 #[.pointer (some ⟨q, 0, none⟩), .string (text nm), .slice ab bl cb] W (fun e W' => e = .returned (.int .i64 (st.append nm l).1) ∧ Lw w1 F0 G0 q p (st.append nm l).2 g W') := by
  obtain ⟨⟨F, G, hd, hr, h1, h2, h3⟩, ht⟩ := h
  refine (dappend_c hd nm hn (hbl.trn (fun h0 b off e => fun hk => hk.elim (hbn h0 b off e).2.1 (hbn h0 b off e).2.2) ht) hbl2 (fun h0 b off e hf => ?_)).mono fun e W' hp => Lw.disk hr h1 h2 h3 ht hp
  obtain ⟨a1, a2, a3⟩ := hbn h0 b off e
  rcases h2 b hf with h | h
  · exact a2 h
  · omega
set_option maxHeartbeats 6400000 in
theorem lput_p {w1 W : World} {F0 G0 : Nat → Prop} {q p : Nat} {st : Ds} {g : Lg} (h : Lw w1 F0 G0 q p st g W) (hne : 0 < g.B.length) (hT : TabI W) (h0 : -9223372036854775808 ≤ g.lastN) (h1 : g.lastN ≤ 9223372036854775807) (h2 : 0 ≤ g.next) (h3 : g.next ≤ 2000000000000) (h4 : 0 ≤ g.size) (h5 : g.size ≤ 1000000000000)
    {ab : Option Addr} {bl cb : Nat} {l : List UInt8} (hbl : Bys w1 ab bl cb l) (hbl2 : l.length ≤ 1000000) (hbn : 0 < bl → ∀ b off, ab = some ⟨b, off, none⟩ → b < w1.heap.size ∧ ¬ F0 b ∧ ¬ G0 b) :
    Calls Tryz.prog 55 #[.pointer (some ⟨p, 0, none⟩), .slice ab bl cb] W (fun e W' => e = .returned (.int .i64 (putL st g l).1) ∧ Lw w1 F0 G0 q p (putL st g l).2.1 (putL st g l).2.2 W') := by
  obtain ⟨nm, hnm⟩ : ∃ nm, nameW 119 g.lastN = nm := ⟨_, rfl⟩
  have HN := Lib.hid (show nm.length ≤ 9223372036854775807 from by rw [← hnm]; have := nameW_len 119 g.lastN; omega)
  have HLA := Lib.hid (fun W' (hb : Below W.heap.size W W') => by
    obtain ⟨bv, hl⟩ := (h.below hb).cs
    have := llast_c hl hne (hT.grown hb) h0 h1
    rw [show g.B.getD (g.B.length - 1) 0 = g.lastN from rfl, hnm] at this
    exact this)
  have HL := Lib.hid h
  have HNX := Lib.hid (And.intro (And.intro h2 h3) (And.intro h4 (And.intro h5 (show (bl : Int) ≤ 1000000 from by have := hbl.len; omega))))
  have HS := Lib.hid (show putL st g l = if (st.append nm l).1 = 0 then (0, (st.append nm l).2, { g with size := g.size + (bl : Int), next := g.next + 1 }) else ((st.append nm l).1, (st.append nm l).2, g) from by unfold putL; rw [hnm, hbl.len])
  obtain ⟨r1, hr1⟩ : ∃ z, (st.append nm l).1 = z := ⟨_, rfl⟩
  obtain ⟨s1, hs1⟩ : ∃ z, (st.append nm l).2 = z := ⟨_, rfl⟩
  rw [hr1, hs1] at HS
  have HSY := Lib.hid (fun W' (hb : Below W.heap.size W W') => by
    have := lw_append (h.below hb) nm HN.out hbl hbl2 hbn
    rw [hr1, hs1] at this
    exact this)
  obtain ⟨R, hR⟩ : ∃ z, putL st g l = z := ⟨_, rfl⟩
  rw [hR] at HS ⊢
  clear h hne hT h0 h1 h2 h3 h4 h5 hnm hr1 hs1 hR hbl hbl2 hbn
  go_enter Tryz.func55, Tryz.ntmps55
  go_wp2
  refine wp_region_flow_tail 7 [none, none, none, none, none, none, some 0, some 1, some 2, some 3, some 4, some 5, some 6, none, none, none, none, none, none, none, none, none, none, none, none, none, none, none, none, none, none, none, none] (fun i => [undef, undef, undef, undef, undef, undef, undef].getD i undef) [(fun v _ => v = .pointer (some ⟨p, 0, none⟩)), (fun v _ => v = .pointer (some ⟨p, 0, none⟩)), (fun v _ => v = .pointer (some ⟨p, 0, none⟩)), (fun v _ => v = .pointer (some ⟨q, 0, none⟩)), (fun v _ => v = .pointer (some ⟨p, 0, none⟩)), (fun v _ => v = .string (text nm)), (fun v _ => v = .slice ab bl cb)] (fun _ => False) (by kernel_rfl) (by kernel_rfl) (by kernel_rfl) rfl rfl rfl ?_ ?_ ?_
  · intro g hg v X Y hX hY hv
    simp only [List.mem_cons, List.not_mem_nil, or_false] at hg
    rcases hg with rfl | rfl | rfl | rfl | rfl | rfl | rfl
    all_goals first
      | exact hv
      | exact hv.kept hY
  · simp only [flowOpsF, List.take_succ_cons, List.take_zero, and_true]
    refine ⟨?_, ?_, ?_, ?_, ?_, ?_, ?_⟩
    · intro xs W9 hW hn9
      simp only [flowAct, List.zipWith_cons_cons, List.zipWith_nil_left]
      go_wp2_with (fail)
      exact ⟨rfl, _, rfl, Below.refl _ _, rfl, fun h => h.elim⟩
    · intro xs W9 hW hn9
      simp [flowNeeds, Region.binds] at hn9
      simp only [flowAct, List.zipWith_cons_cons, List.zipWith_nil_left]
      try simp only [hn9]
      go_wp2_with (fail)
      exact ⟨rfl, _, rfl, Below.refl _ _, rfl, fun h => h.elim⟩
    · intro xs W9 hW hn9
      simp [flowNeeds, Region.binds] at hn9
      simp only [flowAct, List.zipWith_cons_cons, List.zipWith_nil_left]
      try simp only [hn9]
      go_wp2_with (fail)
      exact ⟨rfl, _, rfl, Below.refl _ _, rfl, fun h => h.elim⟩
    · intro xs W9 hW hn9
      simp [flowNeeds, Region.binds] at hn9
      obtain ⟨bv, hl9⟩ := (HL.out.below hW).cs
      obtain ⟨c0, c1, c2, c3, c4, c5, c6⟩ := hl9.cs
      clear hl9
      simp only [flowAct, List.zipWith_cons_cons, List.zipWith_nil_left]
      try simp only [hn9]
      go_wp2_with (fail)
      exact ⟨rfl, _, rfl, Below.refl _ _, rfl, fun h => h.elim⟩
    · intro xs W9 hW hn9
      simp only [flowAct, List.zipWith_cons_cons, List.zipWith_nil_left]
      go_wp2_with (fail)
      exact ⟨rfl, _, rfl, Below.refl _ _, rfl, fun h => h.elim⟩
    · intro xs W9 hW hn9
      simp [flowNeeds, Region.binds] at hn9
      simp only [flowAct, List.zipWith_cons_cons, List.zipWith_nil_left]
      try simp only [hn9]
      go_wp2_with (go_at_call 95; (with_reducible refine (HLA.out _ hW).mono ?_); rintro e9 w9 ⟨rfl, hb9⟩)
      exact ⟨rfl, _, rfl, hb9, rfl, fun h => h.elim⟩
    · intro xs W9 hW hn9
      simp only [flowAct, List.zipWith_cons_cons, List.zipWith_nil_left]
      go_wp2_with (fail)
      exact ⟨rfl, _, rfl, Below.refl _ _, rfl, fun h => h.elim⟩
  · intro xs W9 hW hall hfr
    clear hfr
    simp only [flowAll, and_true, Nat.zero_add, Nat.reduceAdd] at hall
    obtain ⟨-, -, -, a3, -, a5, a6⟩ := hall
    simp only [flowAct, List.zipWith_cons_cons, List.zipWith_nil_left, List.drop_succ_cons, List.drop_zero]
    simp only [a3, a5, a6]
    clear a3 a5 a6
    have HW := Lib.hid hW
    clear hW
    by_cases hr0 : r1 = 0
    · subst hr0
      have HS0 := Lib.hid (show R = (0, s1, { g with size := g.size + (bl : Int), next := g.next + 1 }) from by rw [HS.out, if_pos rfl])
      go_wp2_with (go_at_call 31; (with_reducible refine (HSY.out _ HW.out).mono ?_); rintro e2 w2 ⟨rfl, hl2⟩; have HL2 := Lib.hid hl2; obtain ⟨bv, hl9⟩ := hl2.cs; obtain ⟨c0, c1, c2, c3, c4, c5, c6⟩ := hl9.cs; have f3 := hl9.fz 3; have f4 := hl9.fz 4; obtain ⟨⟨hn0, hn1⟩, hn2, hn3, hn4⟩ := HNX.out; clear hl9 hl2)
      go_ret
      rw [HS0.out]
      exact ⟨rfl, HL2.out.turn (fun k hk _ => (heap_setCell_other _ _ _ _ hk).trans (heap_setCell_other _ _ _ _ hk)) (((Trn.refl (F := fun k => k = p)).set (p := ⟨p, 3, none⟩) (.inl rfl)).set (p := ⟨p, 4, none⟩) (.inl rfl)) (fun bv hh => by rw [heap_setCell_same _ p 4 _ 87 _ (by rw [heap_setCell_same _ p 3 _ 87 _ hh])]; rfl) rfl⟩
    · have HS0 := Lib.hid (show R = (r1, s1, g) from by rw [HS.out, if_neg hr0])
      have hrb : (r1 == 0) = false := by rw [beq_eq_false_iff_ne]; exact hr0
      go_wp2_with (go_at_call 31; (with_reducible refine (HSY.out _ HW.out).mono ?_); rintro e2 w2 ⟨rfl, hl2⟩; have HL2 := Lib.hid hl2; clear hl2)
      go_ret
      rw [HS0.out]
      exact ⟨rfl, HL2.out⟩
end Go.Proofs.YtioeimkaljmffaaGreatDoor
end

section
namespace Go.Proofs.YtioeimkaljmffaaGreatDoor
open Go Go.RowKit
set_option linter.unusedVariables false

/-- The same memory. -/
structure SameW (w W : World) : Prop where
  os : W.os = w.os
  tape : W.tape = w.tape
  output : W.output = w.output
  heap : W.heap = w.heap
theorem SameW.below {w W : World} (h : SameW w W) : Below w.heap.size w W := ⟨h.os, h.tape, h.output, by rw [h.heap]; exact Nat.le_refl _, fun k _ => by rw [h.heap]⟩
theorem SameW.drawn (w : World) (n : Nat) : SameW w { w with drawn := n } := ⟨rfl, rfl, rfl, rfl⟩
def RvN (vals : List (Option Value)) (i : Nat) (v : Value) : Prop := ∀ x, vals.getD i none = some x → v = x
section
variable {S : List Nat} {n : Nat} {V : Nat → Value → Prop} {R : Nat → World → Prop} {L : Nat → Bool} {xs : Nat → Value} {W : World}
theorem InvQ.laterN (h : InvQ S n V R L xs W) {j j' p p' : Nat} (hj : S[j]? = some p) (hj' : S[j']? = some p') (hjj : j ≤ j') (hL : L p = false) : L p' = false := by
  obtain ⟨k, hk, hs, -⟩ := h.stage
  cases hp : L p' with
  | false => rfl
  | true =>
    have h1 := (hs j' p' hj').1 hp
    have h2 := (hs j p hj).2 (by omega)
    rw [hL] at h2
    cases h2
/-- As long as the operation at place j of S has not run, the world is one of the stages up to j. -/
theorem InvQ.upto (h : InvQ S n V R L xs W) {j p : Nat} (hj : S[j]? = some p) (hL : L p = false) : ∃ k, k ≤ j ∧ R k W := by
  obtain ⟨k, hk, hs, hr⟩ := h.stage
  refine ⟨k, ?_, hr⟩
  cases Nat.lt_or_ge j k with
  | inl h1 => have := (hs j p hj).2 h1; rw [hL] at this; cases this
  | inr h1 => exact h1
end
end Go.Proofs.YtioeimkaljmffaaGreatDoor
end

section
namespace Go.Proofs.YtioeimkaljmffaaGreatDoor
open Go.RowKit Go Go.Sort Go.Maps Go.WideMaps
set_option linter.unusedVariables false
set_option maxRecDepth 20000

theorem infoW3 : (Tryz.prog.info? 3).map (fun i => (i.zero, i.size, i.bytes)) = some (some (.int .i64 0), 1, 8) := by kernel_rfl
theorem ints_one (l : List Int) : ∀ u ∈ lCells iarr l, u.oneCell' = true := by
  intro u hu
  obtain ⟨c, -, hc⟩ := List.mem_flatMap.1 hu
  simp only [iarr, List.mem_cons, List.not_mem_nil, or_false] at hc
  subst hc
  rfl
/-- append of one number, told where the list stands then. -/
theorem wpList_append_int {w : World} {ops : Array Oper} {rest : List Oper} {o : Oper} {ac : Act} {Q : Exit → Act → World → Prop} (hgd : o.guard = none) (os ox : Operand)
    (ho : o.op = .call { callee := .builtin .append, args := #[os, ox], argTypes := #[54, 54] })
    {base : Nat} {u : Value} {l : List Int} (hs : ac.eval os = u) (hown : OwnL 1 3 iarr w base u l) (x : Int) {b : Nat} (hx : ac.eval ox = .slice (some ⟨b, 0, none⟩) 1 1) (hb : w.heap[b]? = some (.cells #[.int .i64 x] 3 (0, 0))) (h63 : l.length + 1 ≤ 2000000) (hbase : base ≤ w.heap.size)
    (h : ∀ v' w', OwnL 1 3 iarr w' base v' (l ++ [x]) → w.grownBy w' u.ownBlock → (v'.ownBlock = u.ownBlock ∨ v'.ownBlock = some w.heap.size) → wpList Tryz.prog ops Q rest (ac.put o.dst v') w') :
    wpList Tryz.prog ops Q (o :: rest) ac w := by
  obtain ⟨i0, hi, hz0, hz1, hz2⟩ := info_parts infoW3
  obtain ⟨v', w', hr, h2, h3, -, h5⟩ := run_append_own_at (P := Tryz.prog) (w := w) base 54 o.type 3 i0 _ 1 8 Tryz.underlying54 hi hz0 hz1 hz2 rfl (by decide) u l.length (lCells iarr l) hown
    ⟨b, 0, none⟩ 1 1 (lCells iarr [x]) (by rw [lCells_length iarr_size]; rfl) (fun j v hj => by
      rw [addr_add, Nat.zero_add, cell_of_row w b j _ 3 (0, 0) hb, ← hj]
      simp [lCells, iarr]) (ints_one [x]) (by unfold maxLen; omega) (by omega) hbase
  refine wpList_plain hgd fun K hK => ?_
  unfold Oper.wp execOp
  simp only [ho, resolve, invoke, builtin, Sem.run_bind, Sem.run_pure, Result.andThen_ok, List.map_toArray, List.map_cons, List.map_nil, hs, hx, hr]
  exact hK _ _ (h v' w' (by unfold OwnL; rw [List.length_append, lCells_append]; exact h2) h3 h5)
/-- A list of numbers and one more, in a world behind w. -/
structure MoreW (w : World) (v : Value) (l' : List Int) (W : World) (v' : Value) : Prop where
  own : OwnL 1 3 iarr W 0 v' l'
  tr : Trn (fun k => v.ownBlock = some k) w W
  at9 : ∀ k, v'.ownBlock = some k → v.ownBlock = some k ∨ w.heap.size ≤ k
def BegR (w : World) (p : Nat) (v : Value) (l' : List Int) (x : Int) : Nat → World → Prop
  | 0, W => SameW w W
  | 1, W => ∃ W3, SameW w W3 ∧ W = W3.alloc (.cells #[.int .i64 x] 3)
  | 2, W => ∃ v', MoreW w v l' W v'
  | _, W => ∃ W3 v', MoreW w v l' W3 v' ∧ W = W3.setCell ⟨p, 2, none⟩ v'
theorem BegR.early {w W : World} {p : Nat} {v : Value} {l' : List Int} {x : Int} (h : ∃ k, k ≤ 2 ∧ BegR w p v l' x k W) : Trn (fun k => v.ownBlock = some k) w W := by
  obtain ⟨k, hk, hr⟩ := h
  rcases (by omega : k = 0 ∨ k = 1 ∨ k = 2) with rfl | rfl | rfl
  · exact Trn.of (SameW.below hr)
  · obtain ⟨W3, hs, rfl⟩ := hr
    exact Trn.of (hs.below.trans ((alloc_below W3 _).mono (by rw [hs.heap]; exact Nat.le_refl _)))
  · obtain ⟨v', hm⟩ := hr
    exact hm.tr
theorem LogIn.off {W : World} {p q : Nat} {bv : Value} {g : Lg} (h : LogIn W p q bv g) {k : Nat} (hk : bv.ownBlock = some k) : k ≠ p := by
  rintro rfl
  rcases h.list.2 with ⟨rfl, -⟩ | ⟨b, cap, cur, rfl, -, hg, -⟩
  · cases hk
  · injection hk with hk
    subst hk
    exact absurd (tneD hg h.head) (by decide)
/-- Its list is another. -/
theorem LogIn.relist {W W3 : World} {p q : Nat} {bv v' : Value} {g : Lg} {l' : List Int} (h : LogIn W p q bv g) (hg : W3.heap[p]? = W.heap[p]?) (hl : OwnL 1 3 iarr W3 0 v' l') : LogIn (W3.setCell ⟨p, 2, none⟩ v') p q v' { g with B := l' } := by
  have hh := hg.trans h.head
  refine ⟨by rw [heap_setCell_same W3 p 2 _ _ _ hh]; rfl, hl.of_block (fun k hv => ?_)⟩
  have hne : k ≠ p := by
    rintro rfl
    rcases hl.2 with ⟨rfl, -⟩ | ⟨b, cap, cur, rfl, -, hg9, -⟩
    · cases hv
    · injection hv with hv
      subst hv
      exact absurd (tneD hg9 hh) (by decide)
  exact heap_setCell_other W3 ⟨p, 2, none⟩ k v' hne
/-- A segment begun behind the others. -/
def beginL (st : Ds) (g : Lg) : Int × Ds × Lg := if (st.make (nameW 119 g.next)).1 = 0 then (0, (st.make (nameW 119 g.next)).2, { g with B := g.B ++ [g.next], size := 0 }) else ((st.make (nameW 119 g.next)).1, (st.make (nameW 119 g.next)).2, g)
set_option maxRecDepth 100000 in
set_option maxHeartbeats 12800000 in
theorem lbegin_p {w1 W : World} {F0 G0 : Nat → Prop} {q p : Nat} {st : Ds} {g : Lg} (h : Lw w1 F0 G0 q p st g W) (hT : TabI W) (h2 : 0 ≤ g.next) (h3 : g.next ≤ 2000000000000) (hlen : g.B.length ≤ 100000) :
    Calls Tryz.prog 93 #[.pointer (some ⟨p, 0, none⟩)] W (fun e W' => e = .returned (.int .i64 (beginL st g).1) ∧ Lw w1 F0 G0 q p (beginL st g).2.1 (beginL st g).2.2 W') := by
  obtain ⟨nm, hnm⟩ : ∃ nm, nameW 119 g.next = nm := ⟨_, rfl⟩
  have HN := Lib.hid (show nm.length ≤ 9223372036854775807 from by rw [← hnm]; have := nameW_len 119 g.next; omega)
  have HLA := Lib.hid (fun W' (hb : Below W.heap.size W W') => by
    have := wname_c g.next (by omega) (by omega) (hT.grown hb)
    rw [hnm] at this
    exact this)
  have HL := Lib.hid h
  have HLEN := Lib.hid hlen
  have HS := Lib.hid (show beginL st g = if (st.make nm).1 = 0 then (0, (st.make nm).2, { g with B := g.B ++ [g.next], size := 0 }) else ((st.make nm).1, (st.make nm).2, g) from by unfold beginL; rw [hnm])
  obtain ⟨r1, hr1⟩ : ∃ z, (st.make nm).1 = z := ⟨_, rfl⟩
  obtain ⟨s1, hs1⟩ : ∃ z, (st.make nm).2 = z := ⟨_, rfl⟩
  rw [hr1, hs1] at HS
  have HSY := Lib.hid (fun W' (hb : Below W.heap.size W W') => by
    have := lw_make (h.below hb) nm HN.out
    rw [hr1, hs1] at this
    exact this)
  obtain ⟨R, hR⟩ : ∃ z, beginL st g = z := ⟨_, rfl⟩
  rw [hR] at HS ⊢
  clear h hT h2 h3 hnm hr1 hs1 hR hlen
  go_enter Tryz.func93, Tryz.ntmps93
  go_wp2
  refine wp_region_flow_tail 9 [none, none, none, none, some 0, some 1, some 2, some 3, some 4, some 5, some 6, some 7, some 8, none, none, none, none, none, none, none, none, none, none, none, none, none, none, none, none, none, none, none, none] (fun i => [undef, undef, undef, undef, undef, undef, undef, undef, undef].getD i undef) [(fun v _ => v = .pointer (some ⟨p, 0, none⟩)), (fun v _ => v = .pointer (some ⟨p, 0, none⟩)), (fun v _ => v = .pointer (some ⟨p, 0, none⟩)), (fun v _ => v = .pointer (some ⟨q, 0, none⟩)), (fun v _ => v = .pointer (some ⟨p, 0, none⟩)), (fun v _ => v = .pointer (some ⟨p, 0, none⟩)), (fun v _ => v = .pointer (some ⟨p, 4, none⟩)), (fun v _ => v = .int .i64 g.next), (fun v _ => v = .string (text nm))] (fun _ => False) (by kernel_rfl) (by kernel_rfl) (by kernel_rfl) rfl rfl rfl ?_ ?_ ?_
  · intro g hg v X Y hX hY hv
    simp only [List.mem_cons, List.not_mem_nil, or_false] at hg
    rcases hg with rfl | rfl | rfl | rfl | rfl | rfl | rfl | rfl | rfl
    all_goals first
      | exact hv
      | exact hv.kept hY
  · simp only [flowOpsF, List.take_succ_cons, List.take_zero, and_true]
    refine ⟨?_, ?_, ?_, ?_, ?_, ?_, ?_, ?_, ?_⟩
    · intro xs W9 hW hn9
      simp only [flowAct, List.zipWith_cons_cons, List.zipWith_nil_left]
      go_wp2_with (fail)
      exact ⟨rfl, _, rfl, Below.refl _ _, rfl, fun h => h.elim⟩
    · intro xs W9 hW hn9
      simp [flowNeeds, Region.binds] at hn9
      simp only [flowAct, List.zipWith_cons_cons, List.zipWith_nil_left]
      try simp only [hn9]
      go_wp2_with (fail)
      exact ⟨rfl, _, rfl, Below.refl _ _, rfl, fun h => h.elim⟩
    · intro xs W9 hW hn9
      simp [flowNeeds, Region.binds] at hn9
      simp only [flowAct, List.zipWith_cons_cons, List.zipWith_nil_left]
      try simp only [hn9]
      go_wp2_with (fail)
      exact ⟨rfl, _, rfl, Below.refl _ _, rfl, fun h => h.elim⟩
    · intro xs W9 hW hn9
      simp [flowNeeds, Region.binds] at hn9
      obtain ⟨bv, hl9⟩ := (HL.out.below hW).cs
      obtain ⟨c0, c1, c2, c3, c4, c5, c6⟩ := hl9.cs
      clear hl9
      simp only [flowAct, List.zipWith_cons_cons, List.zipWith_nil_left]
      try simp only [hn9]
      go_wp2_with (fail)
      exact ⟨rfl, _, rfl, Below.refl _ _, rfl, fun h => h.elim⟩
    · intro xs W9 hW hn9
      simp only [flowAct, List.zipWith_cons_cons, List.zipWith_nil_left]
      go_wp2_with (fail)
      exact ⟨rfl, _, rfl, Below.refl _ _, rfl, fun h => h.elim⟩
    · intro xs W9 hW hn9
      simp [flowNeeds, Region.binds] at hn9
      simp only [flowAct, List.zipWith_cons_cons, List.zipWith_nil_left]
      try simp only [hn9]
      go_wp2_with (fail)
      exact ⟨rfl, _, rfl, Below.refl _ _, rfl, fun h => h.elim⟩
    · intro xs W9 hW hn9
      simp [flowNeeds, Region.binds] at hn9
      simp only [flowAct, List.zipWith_cons_cons, List.zipWith_nil_left]
      try simp only [hn9]
      go_wp2_with (fail)
      exact ⟨rfl, _, rfl, Below.refl _ _, rfl, fun h => h.elim⟩
    · intro xs W9 hW hn9
      simp [flowNeeds, Region.binds] at hn9
      obtain ⟨bv, hl9⟩ := (HL.out.below hW).cs
      obtain ⟨c0, c1, c2, c3, c4, c5, c6⟩ := hl9.cs
      clear hl9
      simp only [flowAct, List.zipWith_cons_cons, List.zipWith_nil_left]
      try simp only [hn9]
      go_wp2_with (fail)
      exact ⟨rfl, _, rfl, Below.refl _ _, rfl, fun h => h.elim⟩
    · intro xs W9 hW hn9
      simp [flowNeeds, Region.binds] at hn9
      simp only [flowAct, List.zipWith_cons_cons, List.zipWith_nil_left]
      try simp only [hn9]
      go_wp2_with (go_at_call 29; (with_reducible refine (HLA.out _ hW).mono ?_); rintro e9 w9 ⟨rfl, hb9⟩)
      exact ⟨rfl, _, rfl, hb9, rfl, fun h => h.elim⟩
  · intro xs W9 hW hall hfr
    clear hfr
    simp only [flowAll, and_true, Nat.zero_add, Nat.reduceAdd] at hall
    obtain ⟨-, -, -, a3, -, -, -, -, a8⟩ := hall
    simp only [flowAct, List.zipWith_cons_cons, List.zipWith_nil_left, List.drop_succ_cons, List.drop_zero]
    simp only [a3, a8]
    clear a3 a8
    have HW := Lib.hid hW
    clear hW
    by_cases hr0 : r1 = 0
    · subst hr0
      have HS0 := Lib.hid (show R = (0, s1, { g with B := g.B ++ [g.next], size := 0 }) from by rw [HS.out, if_pos rfl])
      go_upto_region 4 with (go_at_call 30; (with_reducible refine (HSY.out _ HW.out).mono ?_); rintro e2 w8 ⟨rfl, hl2⟩; have HL8 := Lib.hid hl2; clear hl2)
      obtain ⟨bv, hn8⟩ := HL8.out.cs
      have HN8 := Lib.hid hn8
      obtain ⟨ba, bc, hbvv, -⟩ := hn8.list.ls (z := (0 : Int)) iarr_size
      have HBV := Lib.hid hbvv
      obtain ⟨bm, hbm⟩ : ∃ z, g.B.length = z := ⟨_, rfl⟩
      rw [hbm] at hbvv
      obtain ⟨B9, hB9⟩ : ∃ z, w8.heap.size = z := ⟨_, rfl⟩
      have HSB := Lib.hid hB9
      subst hbvv
      have HC := Lib.hid (fun (W : World) (hW : Trn (fun k => (Value.slice ba bm bc).ownBlock = some k) w8 W) => show W.cell? ⟨p, 2, none⟩ = some (.slice ba bm bc) ∧ W.cell? ⟨p, 4, none⟩ = some (.int .i64 g.next) ∧ W.frozen? ⟨p, 2, none⟩ = false from by
        have hh := hW.heap HN8.out.head (fun hk => HN8.out.off hk rfl)
        exact ⟨by rw [cell_of_row W p 2 _ _ (0, 0) hh]; rfl, by rw [cell_of_row W p 4 _ _ (0, 0) hh]; rfl, frozen_of_row W p 2 _ _ hh⟩)
      clear hn8 hbm hB9
      refine wp_region_inv [none, none, none, none, none, none, none, none, none, none, none, none, none, none, none, none, none, some 0, some 1, some 2, some 3, some 4, some 5, some 6, some 7, some 8, some 9, some 10, some 11, some 12, none, none, none] (fun i => [undef, undef, undef, undef, undef, undef, undef, undef, undef, undef, undef, undef, undef, undef].getD i undef) (fun L xs W => InvQ [9, 10, 13] 14 (RvN [some (.pointer (some ⟨p, 0, none⟩)), some (.pointer (some ⟨p, 0, none⟩)), some (.pointer (some ⟨p, 0, none⟩)), some (.pointer (some ⟨p, 2, none⟩)), some (.slice ba bm bc), some (.pointer (some ⟨p, 0, none⟩)), some (.pointer (some ⟨p, 0, none⟩)), some (.pointer (some ⟨p, 4, none⟩)), some (.int .i64 g.next), some (.slice (some ⟨B9, 0, none⟩) 1 1), none, some (.pointer (some ⟨p, 0, none⟩)), some (.pointer (some ⟨p, 2, none⟩)), none]) (BegR w8 p (.slice ba bm bc) (g.B ++ [g.next]) g.next) L xs W ∧ ((L 10 = true → L 13 = false → (MoreW w8 (.slice ba bm bc) (g.B ++ [g.next])) W (xs 10)) ∧ (L 10 = true → L 4 = true) ∧ (L 9 = true → L 8 = true))) (by kernel_rfl) (by kernel_rfl) rfl rfl (fun L hL => ⟨InvQ.start hL (by decide) (by decide) (SameW.drawn _ _), ⟨(fun h _ => by rw [hL 10 (by decide)] at h; cases h), (fun h => by rw [hL 10 (by decide)] at h; cases h), (fun h => by rw [hL 9 (by decide)] at h; cases h)⟩⟩) ?_ ?_
      · simp only [invOps, and_true]
        refine ⟨?_, ?_, ?_, ?_, ?_, ?_, ?_, ?_, ?_, ?_, ?_, ?_, ?_, ?_⟩
        · intro L xs W ⟨hI, hE⟩ hL hn
          obtain ⟨hE0, hE1, hE2⟩ := hE
          simp only [flowAct, List.zipWith_cons_cons, List.zipWith_nil_left]
          go_wp2_with (fail)
          exact ⟨rfl, _, rfl, hI.pure 0 (by decide) (fun _ h => h) (fun x hx => by first | (injection hx with hx) | cases hx), ⟨hE0, hE1, hE2⟩⟩
        · intro L xs W ⟨hI, hE⟩ hL hn
          obtain ⟨hE0, hE1, hE2⟩ := hE
          simp only [flowAct, List.zipWith_cons_cons, List.zipWith_nil_left]
          go_wp2_with (fail)
          exact ⟨rfl, _, rfl, hI.pure 1 (by decide) (fun _ h => h) (fun x hx => by first | (injection hx with hx) | cases hx), ⟨hE0, hE1, hE2⟩⟩
        · intro L xs W ⟨hI, hE⟩ hL hn
          simp [invNeeds, Region.binds] at hn
          have e1 : xs 1 = .pointer (some ⟨p, 0, none⟩) := hI.val 1 (by decide) (by simp only [hn]) _ rfl
          obtain ⟨hE0, hE1, hE2⟩ := hE
          simp only [flowAct, List.zipWith_cons_cons, List.zipWith_nil_left]
          simp only [e1]
          go_wp2_with (fail)
          exact ⟨rfl, _, rfl, hI.pure 2 (by decide) (fun _ h => h) (fun x hx => by first | (injection hx with hx) | cases hx), ⟨hE0, hE1, hE2⟩⟩
        · intro L xs W ⟨hI, hE⟩ hL hn
          simp [invNeeds, Region.binds] at hn
          have e2 : xs 2 = .pointer (some ⟨p, 0, none⟩) := hI.val 2 (by decide) (by simp only [hn]) _ rfl
          obtain ⟨hE0, hE1, hE2⟩ := hE
          simp only [flowAct, List.zipWith_cons_cons, List.zipWith_nil_left]
          simp only [e2]
          go_wp2_with (fail)
          exact ⟨rfl, _, rfl, hI.pure 3 (by decide) (fun _ h => h) (fun x hx => by first | (injection hx with hx) | cases hx), ⟨hE0, hE1, hE2⟩⟩
        · intro L xs W ⟨hI, hE⟩ hL hn
          simp [invNeeds, Region.binds] at hn
          have e3 : xs 3 = .pointer (some ⟨p, 2, none⟩) := hI.val 3 (by decide) (by simp only [hn]) _ rfl
          obtain ⟨hE0, hE1, hE2⟩ := hE
          have Lb1 : L 10 = false := by
            cases h : L 10 with
            | false => rfl
            | true => have := hE1 h; rw [hL] at this; cases this
          have L10 := Lb1
          obtain ⟨k, hk1, hk2⟩ := hI.upto (j := 1) rfl L10
          have z1 := (HC.out W (BegR.early ⟨k, by omega, hk2⟩)).1
          clear hk2
          simp only [flowAct, List.zipWith_cons_cons, List.zipWith_nil_left]
          simp only [e3]
          go_wp2_with (fail)
          exact ⟨rfl, _, rfl, hI.pure 4 (by decide) (fun _ h => h) (fun x hx => by first | (injection hx with hx) | cases hx), ⟨hE0, (fun _ => by simp), hE2⟩⟩
        · intro L xs W ⟨hI, hE⟩ hL hn
          obtain ⟨hE0, hE1, hE2⟩ := hE
          simp only [flowAct, List.zipWith_cons_cons, List.zipWith_nil_left]
          go_wp2_with (fail)
          exact ⟨rfl, _, rfl, hI.pure 5 (by decide) (fun _ h => h) (fun x hx => by first | (injection hx with hx) | cases hx), ⟨hE0, hE1, hE2⟩⟩
        · intro L xs W ⟨hI, hE⟩ hL hn
          simp [invNeeds, Region.binds] at hn
          have e5 : xs 5 = .pointer (some ⟨p, 0, none⟩) := hI.val 5 (by decide) (by simp only [hn]) _ rfl
          obtain ⟨hE0, hE1, hE2⟩ := hE
          simp only [flowAct, List.zipWith_cons_cons, List.zipWith_nil_left]
          simp only [e5]
          go_wp2_with (fail)
          exact ⟨rfl, _, rfl, hI.pure 6 (by decide) (fun _ h => h) (fun x hx => by first | (injection hx with hx) | cases hx), ⟨hE0, hE1, hE2⟩⟩
        · intro L xs W ⟨hI, hE⟩ hL hn
          simp [invNeeds, Region.binds] at hn
          have e6 : xs 6 = .pointer (some ⟨p, 0, none⟩) := hI.val 6 (by decide) (by simp only [hn]) _ rfl
          obtain ⟨hE0, hE1, hE2⟩ := hE
          simp only [flowAct, List.zipWith_cons_cons, List.zipWith_nil_left]
          simp only [e6]
          go_wp2_with (fail)
          exact ⟨rfl, _, rfl, hI.pure 7 (by decide) (fun _ h => h) (fun x hx => by first | (injection hx with hx) | cases hx), ⟨hE0, hE1, hE2⟩⟩
        · intro L xs W ⟨hI, hE⟩ hL hn
          simp [invNeeds, Region.binds] at hn
          have e7 : xs 7 = .pointer (some ⟨p, 4, none⟩) := hI.val 7 (by decide) (by simp only [hn]) _ rfl
          obtain ⟨hE0, hE1, hE2⟩ := hE
          have Lb2 : L 9 = false := by
            cases h : L 9 with
            | false => rfl
            | true => have := hE2 h; rw [hL] at this; cases this
          have L9 := Lb2
          obtain ⟨k, hk1, hk2⟩ := hI.upto (j := 0) rfl L9
          have z1 := (HC.out W (BegR.early ⟨k, by omega, hk2⟩)).2.1
          clear hk2
          simp only [flowAct, List.zipWith_cons_cons, List.zipWith_nil_left]
          simp only [e7]
          go_wp2_with (fail)
          exact ⟨rfl, _, rfl, hI.pure 8 (by decide) (fun _ h => h) (fun x hx => by first | (injection hx with hx) | cases hx), ⟨hE0, hE1, (fun _ => by simp)⟩⟩
        · intro L xs W ⟨hI, hE⟩ hL hn
          simp [invNeeds, Region.binds] at hn
          have e8 : xs 8 = .int .i64 g.next := hI.val 8 (by decide) (by simp only [hn]) _ rfl
          have hr := hI.at 0 rfl hL (fun p hp => absurd hp.1 (by omega))
          obtain ⟨hE0, hE1, hE2⟩ := hE
          have La0 := hI.laterN (j := 0) (j' := 1) rfl rfl (by decide) hL
          have Li2 : L 8 = true := by simp only [hn]
          have hsz : W.heap.size = B9 := by rw [SameW.heap hr, HSB.out]
          have HR := Lib.hid hr
          clear hr
          simp only [flowAct, List.zipWith_cons_cons, List.zipWith_nil_left]
          simp only [e8]
          go_wp2_with (fail)
          exact ⟨rfl, _, rfl, hI.step 0 rfl hL (fun p hp => absurd hp.1 (by omega)) (by decide) (⟨W, HR.out, rfl⟩) (fun x hx => by first | (injection hx with hx) | cases hx), ⟨(fun h _ => by simp [La0] at h), hE1, (fun _ => by simpa using Li2)⟩⟩
        · intro L xs W ⟨hI, hE⟩ hL hn
          simp [invNeeds, Region.binds] at hn
          have e4 : xs 4 = .slice ba bm bc := hI.val 4 (by decide) (by simp only [hn]) _ rfl
          have e9 : xs 9 = .slice (some ⟨B9, 0, none⟩) 1 1 := hI.val 9 (by decide) (by simp only [hn]) _ rfl
          have hr := hI.at 1 rfl hL (fun p hp => by obtain ⟨-, h⟩ := hp; injection h with h; subst h; simp only [hn])
          obtain ⟨hE0, hE1, hE2⟩ := hE
          have Li1 : L 4 = true := by simp only [hn]
          obtain ⟨W3, hs3, rfl⟩ := hr
          have hsz : W3.heap.size = B9 := by rw [hs3.heap, HSB.out]
          have HOW := Lib.hid (show OwnL 1 3 iarr (W3.alloc (.cells #[.int .i64 g.next] 3)) 0 (.slice ba bm bc) g.B from ((HN8.out.below hs3.below).below (alloc_below W3 _)).list)
          have HPK := Lib.hid (show (W3.alloc (.cells #[.int .i64 g.next] 3)).heap[B9]? = some (.cells #[.int .i64 g.next] 3 (0, 0)) from by rw [← hsz]; exact heap_alloc_new W3 _)
          have HAL := Lib.hid (show Trn (fun k => (Value.slice ba bm bc).ownBlock = some k) w8 (W3.alloc (.cells #[.int .i64 g.next] 3)) ∧ (W3.alloc (.cells #[.int .i64 g.next] 3)).heap.size = B9 + 1 from ⟨Trn.of (hs3.below.trans ((alloc_below W3 _).mono (by rw [hs3.heap]; exact Nat.le_refl _))), by simp [hsz]⟩)
          clear hs3 hsz
          generalize W3.alloc (.cells #[.int .i64 g.next] 3) = W4 at *
          simp only [flowAct, List.zipWith_cons_cons, List.zipWith_nil_left]
          simp only [e4, e9]
          go_wp2_with (refine wpList_append_int rfl _ _ rfl (base := 0) (u := .slice ba bm bc) (l := g.B) rfl HOW.out g.next (b := B9) rfl HPK.out (by have := HLEN.out; omega) (Nat.zero_le _) ?_; intro v9 w9 ho9 hg9 ha9)
          have hm9 : MoreW w8 (.slice ba bm bc) (g.B ++ [g.next]) w9 v9 := ⟨ho9, HAL.out.1.then (Trn.grown hg9 (fun k hk => hk)), fun k hk => by
            rcases ha9 with h | h
            · exact .inl (by rw [← h]; exact hk)
            · rw [h, HAL.out.2] at hk
              injection hk with hk
              exact .inr (by have := HSB.out; omega)⟩
          exact ⟨rfl, _, rfl, hI.step 1 rfl hL (fun p hp => by obtain ⟨-, h⟩ := hp; injection h with h; subst h; simp only [hn]) (by decide) (⟨v9, hm9⟩) (fun x hx => by first | (injection hx with hx) | cases hx), ⟨(fun _ _ => hm9), (fun _ => by simpa using Li1), hE2⟩⟩
        · intro L xs W ⟨hI, hE⟩ hL hn
          simp [invNeeds, Region.binds] at hn
          have e0 : xs 0 = .pointer (some ⟨p, 0, none⟩) := hI.val 0 (by decide) (by simp only [hn]) _ rfl
          obtain ⟨hE0, hE1, hE2⟩ := hE
          simp only [flowAct, List.zipWith_cons_cons, List.zipWith_nil_left]
          simp only [e0]
          go_wp2_with (fail)
          exact ⟨rfl, _, rfl, hI.pure 11 (by decide) (fun _ h => h) (fun x hx => by first | (injection hx with hx) | cases hx), ⟨hE0, hE1, hE2⟩⟩
        · intro L xs W ⟨hI, hE⟩ hL hn
          simp [invNeeds, Region.binds] at hn
          have e11 : xs 11 = .pointer (some ⟨p, 0, none⟩) := hI.val 11 (by decide) (by simp only [hn]) _ rfl
          obtain ⟨hE0, hE1, hE2⟩ := hE
          simp only [flowAct, List.zipWith_cons_cons, List.zipWith_nil_left]
          simp only [e11]
          go_wp2_with (fail)
          exact ⟨rfl, _, rfl, hI.pure 12 (by decide) (fun _ h => h) (fun x hx => by first | (injection hx with hx) | cases hx), ⟨hE0, hE1, hE2⟩⟩
        · intro L xs W ⟨hI, hE⟩ hL hn
          simp [invNeeds, Region.binds] at hn
          have e12 : xs 12 = .pointer (some ⟨p, 2, none⟩) := hI.val 12 (by decide) (by simp only [hn]) _ rfl
          have hr := hI.at 2 rfl hL (fun p hp => by obtain ⟨-, h⟩ := hp; injection h with h; subst h; simp only [hn])
          obtain ⟨hE0, hE1, hE2⟩ := hE
          have L10 : L 10 = true := by simp only [hn]
          have hm7 := hE0 L10 hL
          obtain ⟨va, vc, e10, -⟩ := OwnL.ls (z := (0 : Int)) iarr_size hm7.own
          obtain ⟨z1, -, z2⟩ := HC.out W hm7.tr
          obtain ⟨vm, hvm⟩ : ∃ z, (g.B ++ [g.next]).length = z := ⟨_, rfl⟩
          rw [hvm] at e10
          rw [e10] at hm7
          have HM7 := Lib.hid hm7
          clear hr hm7 hvm
          simp only [flowAct, List.zipWith_cons_cons, List.zipWith_nil_left]
          simp only [e12, e10]
          go_wp2_with (fail)
          exact ⟨rfl, undef, rfl, hI.step 2 rfl hL (fun p hp => by obtain ⟨-, h⟩ := hp; injection h with h; subst h; simp only [hn]) (by decide) (⟨W, _, HM7.out, rfl⟩) (fun x hx => by first | (injection hx with hx) | cases hx), ⟨(fun _ h => by simp at h), hE1, hE2⟩⟩
      · intro L xs W ⟨hI, hE⟩ hL
        have hdone := (hI.done hL (by decide) (by decide)).1
        obtain ⟨W3, v9, hm9, rfl⟩ : ∃ W3 v', MoreW w8 (.slice ba bm bc) (g.B ++ [g.next]) W3 v' ∧ W = W3.setCell ⟨p, 2, none⟩ v' := hdone
        have hnew := HN8.out.relist (hm9.tr.block p (HN8.out.lt (.inl rfl)) (fun hk => HN8.out.off hk rfl)) hm9.own
        have htr : Trn (lgfoot p (.slice ba bm bc)) w8 (W3.setCell ⟨p, 2, none⟩ v9) := (hm9.tr.mono (fun k hk => .inr hk)).set (.inl (.inl rfl))
        obtain ⟨⟨F, G, hd, ⟨bv', hl', rfl⟩, h1, h2, h3⟩, ht⟩ := HL8.out
        have hbv : bv' = .slice ba bm bc := by
          have e1 := hl'.cs.2.2.1
          rw [HN8.out.cs.2.2.1] at e1
          injection e1 with e1
          exact e1.symm
        subst hbv
        have hlw := Lw.log hd h1 h2 h3 ht ⟨v9, hnew, rfl⟩ htr (fun k hk => hk.elim (fun h => .inl (.inl h)) (fun h => (hm9.at9 k h).imp .inr id))
        have HLW := Lib.hid hlw
        have hcs := hnew.cs
        have f3 := hnew.fz 3
        clear hnew htr hm9 hI hE hL hd hl' h1 h2 h3 ht hlw
        simp only [flowAct, List.zipWith_cons_cons, List.zipWith_nil_left]
        generalize W3.setCell ⟨p, 2, none⟩ v9 = W5 at *
        obtain ⟨c0, c1, c2, c3, c4, c5, c6⟩ := hcs
        go_wp2
        go_ret
        rw [HS0.out]
        exact ⟨rfl, HLW.out.turn (fun k hk _ => heap_setCell_other _ _ _ _ hk) (Trn.refl.set (.inl rfl)) (fun bv hh => by rw [heap_setCell_same _ p 3 _ 87 _ hh]; rfl) rfl⟩
    · have HS0 := Lib.hid (show R = (r1, s1, g) from by rw [HS.out, if_neg hr0])
      have hrb : (r1 == 0) = false := by rw [beq_eq_false_iff_ne]; exact hr0
      go_wp2_with (go_at_call 30; (with_reducible refine (HSY.out _ HW.out).mono ?_); rintro e2 w2 ⟨rfl, hl2⟩; have HL2 := Lib.hid hl2; clear hl2)
      go_ret
      rw [HS0.out]
      exact ⟨rfl, HL2.out⟩
/-- The last segment made sure, and one begun behind it. -/
def turnL (st : Ds) (g : Lg) : Int × Ds × Lg := if (syncL st g).1 = 0 then beginL (syncL st g).2.1 (syncL st g).2.2 else syncL st g
theorem syncL_next (st : Ds) (g : Lg) : (syncL st g).2.2.next = g.next ∧ (syncL st g).2.2.B = g.B := by
  unfold syncL
  split <;> exact ⟨rfl, rfl⟩
set_option maxHeartbeats 3200000 in
theorem lturn_p {w1 W : World} {F0 G0 : Nat → Prop} {q p : Nat} {st : Ds} {g : Lg} (h : Lw w1 F0 G0 q p st g W) (hne : 0 < g.B.length) (hT : ∀ W', Trn (fun k => F0 k ∨ G0 k) w1 W' → TabI W') (h0 : -9223372036854775808 ≤ g.lastN) (h1 : g.lastN ≤ 9223372036854775807) (h2 : 0 ≤ g.next) (h3 : g.next ≤ 2000000000000) (hlen : g.B.length ≤ 100000) :
    Calls Tryz.prog 54 #[.pointer (some ⟨p, 0, none⟩)] W (fun e W' => e = .returned (.int .i64 (turnL st g).1) ∧ Lw w1 F0 G0 q p (turnL st g).2.1 (turnL st g).2.2 W') := by
  have HSY := Lib.hid (lsync_p h hne (hT W h.tr) h0 h1 h2 h3)
  obtain ⟨e1, e2⟩ := syncL_next st g
  have HBG := Lib.hid (fun (W' : World) (hw : Lw w1 F0 G0 q p (syncL st g).2.1 (syncL st g).2.2 W') => lbegin_p hw (hT W' hw.tr) (by rw [e1]; exact h2) (by rw [e1]; exact h3) (by rw [e2]; exact hlen))
  have HS := Lib.hid (show turnL st g = if (syncL st g).1 = 0 then beginL (syncL st g).2.1 (syncL st g).2.2 else syncL st g from rfl)
  obtain ⟨⟨r1, s1, g1⟩, hr⟩ : ∃ z, syncL st g = z := ⟨_, rfl⟩
  obtain ⟨⟨r2, s2, g2⟩, hr2⟩ : ∃ z, beginL s1 g1 = z := ⟨_, rfl⟩
  rw [hr] at HSY HBG HS
  simp only at HSY HBG HS
  rw [hr2] at HBG HS
  simp only at HBG
  obtain ⟨R, hR⟩ : ∃ z, turnL st g = z := ⟨_, rfl⟩
  rw [hR] at HS ⊢
  clear h hne hT h0 h1 h2 h3 hlen e1 e2 hr hr2 hR
  by_cases hr0 : r1 = 0
  · subst hr0
    have HS0 := Lib.hid (show R = (r2, s2, g2) from by rw [HS.out, if_pos rfl])
    go_enter Tryz.func54, Tryz.ntmps54
    go_wp2_with (first
      | (go_at_call 56; (with_reducible refine HSY.out.mono ?_); rintro e3 w3 ⟨rfl, hl3⟩; have HL3 := Lib.hid hl3; clear hl3)
      | (go_at_call 93; (with_reducible refine (HBG.out _ HL3.out).mono ?_); rintro e4 w4 ⟨rfl, hl4⟩; have HL4 := Lib.hid hl4; clear hl4))
    go_ret
    rw [HS0.out]
    exact ⟨rfl, HL4.out⟩
  · have HS0 := Lib.hid (show R = (r1, s1, g1) from by rw [HS.out, if_neg hr0])
    have hrb : (r1 == 0) = false := by rw [beq_eq_false_iff_ne]; exact hr0
    go_enter Tryz.func54, Tryz.ntmps54
    go_wp2_with (go_at_call 56; (with_reducible refine HSY.out.mono ?_); rintro e3 w3 ⟨rfl, hl3⟩; have HL3 := Lib.hid hl3; clear hl3)
    go_ret
    rw [HS0.out]
    exact ⟨rfl, HL3.out⟩
end Go.Proofs.YtioeimkaljmffaaGreatDoor
end

section
namespace Go.Proofs.YtioeimkaljmffaaGreatDoor
open Go.RowKit
set_option linter.unusedVariables false

abbrev W32 := BitVec 32

theorem xlc (a b c : W32) : a ^^^ (b ^^^ c) = b ^^^ (a ^^^ c) := by rw [← BitVec.xor_assoc, BitVec.xor_comm a, BitVec.xor_assoc]
/-- The polynomial. -/
def polyS : W32 := 79764919#32

/-- What a bit of 0 makes of a remainder. -/
def upS (r : W32) : W32 := (r <<< 1) ^^^ (if r.msb then polyS else 0#32)

theorem upS_xor (a b : W32) : upS (a ^^^ b) = upS a ^^^ upS b := by
  unfold upS
  rw [BitVec.msb_xor, BitVec.shiftLeft_xor_distrib]
  generalize a <<< 1 = x
  generalize b <<< 1 = y
  cases a.msb <;> cases b.msb <;> simp [BitVec.xor_assoc, BitVec.xor_comm, xlc]

/-- n bits of 0. -/
def ups : Nat → W32 → W32
  | 0, r => r
  | n + 1, r => ups n (upS r)

theorem ups_add (m n : Nat) (a : W32) : ups (m + n) a = ups n (ups m a) := by
  induction m generalizing a with
  | zero => rw [Nat.zero_add]; rfl
  | succ m ih => rw [Nat.succ_add, ups, ih]; rfl
theorem ups_succ (n : Nat) (a : W32) : ups (n + 1) a = upS (ups n a) := by rw [ups_add n 1]; rfl
/-- A byte as a word. -/
def wd (c : UInt8) : W32 := BitVec.ofNat 32 c.toNat

/-- A remainder to which a byte came. -/
def comeS (r : W32) (c : UInt8) : W32 := ups 8 (r ^^^ (wd c <<< 24))

/-- A remainder to which bytes came. -/
def crcS (r : W32) (l : List UInt8) : W32 := l.foldl comeS r

/-- The sum of what has the sum s, and l behind it. -/
def moreS (s : W32) (l : List UInt8) : W32 := ~~~ (crcS (~~~ s) l)
def sumS (l : List UInt8) : W32 := moreS 0#32 l

theorem crcS_append (r : W32) (l m : List UInt8) : crcS r (l ++ m) = crcS (crcS r l) m := List.foldl_append ..

theorem not_xor32 (a : W32) : ~~~ a = a ^^^ BitVec.allOnes 32 := by rw [BitVec.xor_allOnes]

/-! ### Products -/
/-! ### Bursts -/
/-- Four bytes of a word, the highest first. -/
def four (x : W32) : List UInt8 := [UInt8.ofNat (x.toNat / 16777216 % 256), UInt8.ofNat (x.toNat / 65536 % 256), UInt8.ofNat (x.toNat / 256 % 256), UInt8.ofNat (x.toNat % 256)]

end Go.Proofs.YtioeimkaljmffaaGreatDoor
end

section
namespace Go.Proofs.YtioeimkaljmffaaGreatDoor
open Go.RowKit
set_option linter.unusedVariables false

/-- A word as the walk's number. -/
def I (x : W32) : Int := (x.toNat : Int)
theorem I_bd (x : W32) : 0 ≤ I x ∧ I x ≤ 4294967295 := by unfold I; have := x.isLt; omega
theorem I_inj {x y : W32} (h : I x = I y) : x = y := by unfold I at h; exact BitVec.eq_of_toNat_eq (by omega)
theorem I_xor (x y : W32) : bits .xor .u32 (I x) (I y) = I (x ^^^ y) := by
  unfold I; rw [u32_xor_nat _ _ (by have := x.isLt; omega) (by have := y.isLt; omega), BitVec.toNat_xor]
theorem I_and (x y : W32) : bits .and .u32 (I x) (I y) = I (x &&& y) := by
  unfold I; rw [u32_and_nat _ _ (by have := x.isLt; omega) (by have := y.isLt; omega), BitVec.toNat_and]
theorem I_or (x y : W32) : bits .or .u32 (I x) (I y) = I (x ||| y) := by
  unfold I; rw [u32_or_nat _ _ (by have := x.isLt; omega) (by have := y.isLt; omega), BitVec.toNat_or]
theorem I_not (x : W32) : bits .xor .u32 4294967295 (I x) = I (~~~ x) := by
  have : (4294967295 : Int) = I (BitVec.allOnes 32) := by decide
  rw [this, I_xor, BitVec.xor_comm, ← not_xor32]
theorem I_not' (x : W32) : bits .xor .u32 IntKind.u32.max (I x) = I (~~~ x) := by
  rw [show IntKind.u32.max = 4294967295 by decide]; exact I_not x
theorem I_shl1 (x : W32) : I x * (2 : Int) % (4294967296 : Int) = I (x <<< 1) := by
  unfold I; rw [BitVec.toNat_shiftLeft]; simp [Nat.shiftLeft_eq]
theorem I_top (x : W32) : I x / 2147483648 = if x.msb then 1 else 0 := by
  unfold I; rw [BitVec.msb_eq_decide]
  have := x.isLt
  split <;> simp_all <;> omega
theorem I_poly : (79764919 : Int) = I polyS := by decide

theorem up_val (x : W32) : bits .xor .u32 (I x * 2 % 4294967296) (bits .and .u32 79764919 (-(I x / 2147483648) % 4294967296)) = I (upS x) := by
  rw [I_shl1, I_top, I_poly]
  unfold upS
  cases x.msb with
  | true =>
    rw [show (-(if true = true then 1 else 0 : Int) % 4294967296) = I (BitVec.allOnes 32) by decide, I_and, I_xor, BitVec.and_allOnes, if_pos rfl]
  | false =>
    rw [show (-(if false = true then 1 else 0 : Int) % 4294967296) = I 0#32 by decide, I_and, I_xor]; simp

/-- A bit that comes, as the document has it. -/
def bitS (r : W32) (b : Bool) : W32 := (r <<< 1) ^^^ (if r.msb != b then polyS else 0#32)
theorem bit_yes (x : W32) (b : Bool) (h : (x.msb != b) = true) : bits .xor .u32 (I x * 2 % 4294967296) 79764919 = I (bitS x b) := by
  unfold bitS; rw [h, I_shl1, I_poly, I_xor]; simp
theorem bit_no (x : W32) (b : Bool) (h : (x.msb != b) = false) : I x * 2 % 4294967296 = I (bitS x b) := by
  unfold bitS; rw [h, I_shl1]; simp
theorem top_ne (x : W32) (b : Bool) : (I x / 2147483648 != (if b then 1 else 0)) = (x.msb != b) := by
  rw [I_top]; cases x.msb <;> cases b <;> decide

theorem bitS_up (r : W32) (b : Bool) : bitS r b = upS r ^^^ (if b then polyS else 0#32) := by
  unfold bitS upS
  cases r.msb <;> cases b <;> simp [BitVec.xor_assoc]

/-- The bit of weight 2 to the k of a byte. -/
def bitAt (c : UInt8) (k : Nat) : Bool := c.toNat.testBit k
/-- The first j bits of a byte come, the highest first. -/
def bitsS (r : W32) (c : UInt8) : Nat → W32
  | 0 => r
  | j + 1 => bitS (bitsS r c j) (bitAt c (7 - j))

theorem wd_shl_msb (c : UInt8) (j : Nat) (hj : j < 8) : (wd c <<< (24 + j)).msb = bitAt c (7 - j) := by
  rw [BitVec.msb_eq_getLsbD_last]
  unfold wd bitAt
  simp only [BitVec.getLsbD_shiftLeft, BitVec.getLsbD_ofNat]
  rw [show 32 - 1 - (24 + j) = 7 - j by omega]
  simp [show 7 - j < 32 by omega, show ¬ 31 < 24 + j by omega]

theorem bitsS_ups (r : W32) (c : UInt8) (j : Nat) (hj : j ≤ 8) : ups j (r ^^^ wd c <<< 24) = bitsS r c j ^^^ wd c <<< (24 + j) := by
  induction j with
  | zero => rfl
  | succ j ih =>
    rw [ups_succ, ih (by omega), upS_xor, bitsS, bitS_up]
    have e : upS (wd c <<< (24 + j)) = wd c <<< (24 + (j + 1)) ^^^ (if bitAt c (7 - j) then polyS else 0#32) := by
      unfold upS
      rw [wd_shl_msb c j (by omega), ← BitVec.shiftLeft_add]
      rfl
    rw [e]
    generalize upS (bitsS r c j) = a
    generalize wd c <<< (24 + (j + 1)) = b
    generalize (if bitAt c (7 - j) then polyS else 0#32) = d
    rw [BitVec.xor_assoc, BitVec.xor_comm d]
theorem bitsS_come (r : W32) (c : UInt8) : bitsS r c 8 = comeS r c := by
  have h := bitsS_ups r c 8 (by omega)
  unfold comeS
  rw [h]
  have : wd c <<< (24 + 8) = 0#32 := by simp
  rw [this]; simp

/-- Byte i of l. -/
def byt (l : List UInt8) (i : Nat) : UInt8 := l.getD i 0
theorem by8_byt (l : List UInt8) (i : Nat) : by8 l i = ((byt l i).toNat : Int) := rfl

theorem come_val (r : W32) (c : UInt8) (cv : Int) (h : cv = (c.toNat : Int)) : bits .xor .u32 (I r) (cv * 16777216) = I (r ^^^ wd c <<< 24) := by
  have : cv * (16777216 : Int) = I (wd c <<< 24) := by
    subst h
    unfold I wd
    have := c.toNat_lt
    rw [BitVec.toNat_shiftLeft, BitVec.toNat_ofNat, Nat.shiftLeft_eq]; omega
  rw [this, I_xor]

theorem bit_val (c : UInt8) (cv : Int) (h : cv = (c.toNat : Int)) (k : Nat) : bits .and .u32 (cv / 2 ^ k) 1 = if bitAt c k then 1 else 0 := by
  subst h
  unfold bitAt
  rw [Nat.testBit_eq_decide_div_mod_eq]
  have hlt := c.toNat_lt
  have hle : c.toNat / 2 ^ k ≤ c.toNat := Nat.div_le_self _ _
  have e := u32_and_nat (c.toNat / 2 ^ k) 1 (by omega) (by omega)
  rw [show ((c.toNat / 2 ^ k : Nat) : Int) = (c.toNat : Int) / 2 ^ k by simp] at e
  rw [show ((1 : Nat) : Int) = 1 by rfl] at e
  rw [e, Nat.and_one_is_mod]
  split <;> simp_all <;> omega

/-- The first k bytes of l have come. -/
def crcK (r : W32) (l : List UInt8) (k : Nat) : W32 := crcS r (l.take k)
theorem crcK_zero (r : W32) (l : List UInt8) : crcK r l 0 = r := by simp [crcK, crcS]
theorem crcK_all (r : W32) (l : List UInt8) : crcK r l l.length = crcS r l := by simp [crcK]
theorem crcK_succ (r : W32) (l : List UInt8) (k : Nat) (h : k < l.length) : crcK r l (k + 1) = comeS (crcK r l k) (byt l k) := by
  unfold crcK; rw [take_snoc8 l k h, crcS_append]; rfl
end Go.Proofs.YtioeimkaljmffaaGreatDoor
end

section
namespace Go.Proofs.YtioeimkaljmffaaGreatDoor
open Go.RowKit
set_option linter.unusedVariables false

/-- A word comes back, and the world is as it was. -/
def RetW (x : W32) (w : World) (e : Ending) (w' : World) : Prop := e = .returned (.int .u32 (I x)) ∧ w = w'
theorem RetW.mk {a : Int} {x : W32} {w : World} (h : a = I x) : RetW x w (.returned (.int .u32 a)) w := by subst h; exact ⟨rfl, rfl⟩

set_option maxHeartbeats 400000 in
theorem up_c (x : W32) (w : World) : Calls Tryz.prog 189 #[.int .u32 (I x)] w (RetW (upS x) w) := by
  have h := I_bd x
  go_enter Tryz.func189, Tryz.ntmps189
  go_wp2
  go_ret
  exact RetW.mk (up_val x)

set_option maxHeartbeats 400000 in
theorem bit_c (x : W32) (b : Bool) (bv : Int) (hb : bv = if b then 1 else 0) (w : World) : Calls Tryz.prog 161 #[.int .u32 (I x), .int .u32 bv] w (RetW (bitS x b) w) := by
  have h := I_bd x
  have hn : (I x / 2147483648 != bv) = (x.msb != b) := by rw [hb]; exact top_ne x b
  clear hb
  cases hx : (x.msb != b) with
  | true =>
    rw [hx] at hn
    have HX := Lib.hid hx
    clear hx
    go_enter Tryz.func161, Tryz.ntmps161
    go_wp2
    go_ret
    exact RetW.mk (bit_yes x b HX.out)
  | false =>
    rw [hx] at hn
    have HX := Lib.hid hx
    clear hx
    go_enter Tryz.func161, Tryz.ntmps161
    go_wp2
    go_ret
    exact RetW.mk (bit_no x b HX.out)

set_option maxHeartbeats 400000 in
theorem come_c (r : W32) (c : UInt8) (cv : Int) (hcv : cv = (c.toNat : Int)) (w : World) : Calls Tryz.prog 178 #[.int .u32 (I r), .int .u8 cv] w (RetW (comeS r c) w) := by
  have h := I_bd r
  have hc : 0 ≤ cv ∧ cv ≤ 255 := by have := c.toNat_lt; omega
  have hv := come_val r c cv hcv
  clear hcv
  go_enter Tryz.func178, Tryz.ntmps178
  go_wp2
  go_loop [0, 10] (fun v i => ∃ k : Nat, k ≤ 8 ∧ i = .int .i64 k ∧ v = .int .u32 (I (ups k (r ^^^ wd c <<< 24)))) (fun _ i => 8 - (intOf i).toNat)
  case atStart => exact ⟨0, by omega, rfl, rfl⟩
  case round =>
    obtain ⟨k, hk, rfl, rfl⟩ := hrel
    by_cases hlt : k < 8
    · go_wp2_with (go_at_call 189; refine (up_c _ _).mono ?_; rintro e w' ⟨rfl, rfl⟩)
      go_round
      case rel => exact ⟨k + 1, by omega, by go_num, by rw [ups_succ]⟩
      case measure => simp [intOf]; omega
    · obtain rfl : k = 8 := by omega
      go_wp2
      go_ret
      exact RetW.mk rfl

set_option maxHeartbeats 800000 in
theorem more_c (s : W32) {w : World} {a : Option Addr} {n cap : Nat} {l : List UInt8} (hb : Bys w a n cap l) : Calls Tryz.prog 159 #[.int .u32 (I s), .slice a n cap] w (RetW (moreS s l) w) := by
  obtain ⟨hlen, hle, hmax, hadr⟩ := hb
  have h := I_bd s
  have hno := I_not' s
  have hsg : IntKind.u32.signed = false := rfl
  have hlim : n ≤ 9223372036854775807 := by omega
  have HN := Lib.hid hlen
  clear hlen
  go_enter Tryz.func159, Tryz.ntmps159
  go_wp2
  go_loop [5, 12] (fun v i => ∃ k : Nat, k ≤ n ∧ i = .int .i64 k ∧ v = .int .u32 (I (crcK (~~~ s) l k))) (fun _ i => n - (intOf i).toNat)
  case atStart => exact ⟨0, by omega, rfl, by rw [crcK_zero]⟩
  case round =>
    obtain ⟨k, hk, rfl, rfl⟩ := hrel
    by_cases hlt : k < n
    · rcases hadr with h0 | ⟨b, off, rfl, hc⟩
      · omega
      have hcell := hc k hlt
      have h8 := by8_bd l k
      have HS := Lib.hid (crcK_succ (~~~ s) l k (by rw [HN.out]; exact hlt))
      clear hc
      go_wp2_with (go_at_call 178; refine (come_c _ (byt l k) _ (by8_byt l k) _).mono ?_; rintro e w' ⟨rfl, rfl⟩)
      go_round
      case rel => exact ⟨k + 1, by omega, by go_num, by rw [HS.out]⟩
      case measure => simp [intOf]; omega
    · obtain rfl : k = n := by omega
      clear hadr
      have hn2 := Lib.hid (I_not' (crcK (~~~ s) l k))
      go_wp2
      go_ret
      exact RetW.mk (by rw [hn2.out]; unfold moreS; rw [← crcK_all, HN.out])

set_option maxHeartbeats 400000 in
theorem sum_c {w : World} {a : Option Addr} {n cap : Nat} {l : List UInt8} (hb : Bys w a n cap l) : Calls Tryz.prog 129 #[.slice a n cap] w (RetW (sumS l) w) := by
  have h0 : (0 : Int) = I 0#32 := by decide
  have hm := more_c 0#32 hb
  rw [← h0] at hm
  have HM := Lib.hid hm
  clear hm h0
  go_enter Tryz.func129, Tryz.ntmps129
  go_wp2_with (go_at_call 159; refine (HM.out).mono ?_; rintro e w' ⟨rfl, rfl⟩)
  go_ret
  exact RetW.mk rfl

set_option maxHeartbeats 1600000 in
theorem comes_c (r : W32) {w : World} {a : Option Addr} {n cap : Nat} {l : List UInt8} (hb : Bys w a n cap l) : Calls Tryz.prog 133 #[.int .u32 (I r), .slice a n cap] w (RetW (crcS r l) w) := by
  obtain ⟨hlen, hle, hmax, hadr⟩ := hb
  have hlim : n ≤ 9223372036854775807 := by omega
  have HN := Lib.hid hlen
  clear hlen
  go_enter Tryz.func133, Tryz.ntmps133
  go_wp2
  go_loop [0, 5] (fun v i => ∃ k : Nat, k ≤ n ∧ i = .int .i64 k ∧ v = .int .u32 (I (crcK r l k))) (fun _ i => n - (intOf i).toNat)
  case atStart => exact ⟨0, by omega, rfl, by rw [crcK_zero]⟩
  case round =>
    obtain ⟨k, hk, rfl, rfl⟩ := hrel
    by_cases hlt : k < n
    · rcases hadr with h0 | ⟨b, off, rfl, hc⟩
      · omega
      have hcell := hc k hlt
      have h8 := by8_bd l k
      have HS := Lib.hid (crcK_succ r l k (by rw [HN.out]; exact hlt))
      clear hc
      go_wp2
      go_loop [0, 6] (fun v i => ∃ j : Nat, j ≤ 8 ∧ i = .int .i64 (7 - (j : Int)) ∧ v = .int .u32 (I (bitsS (crcK r l k) (byt l k) j))) (fun _ i => (intOf i + 1).toNat)
      case atStart => exact ⟨0, by omega, rfl, rfl⟩
      case round =>
        obtain ⟨j, hj, rfl, rfl⟩ := hrel
        by_cases hlt2 : j < 8
        · have HV := Lib.hid (bit_val (byt l k) (by8 l k) (by8_byt l k) (7 - j))
          go_wp2_with (go_at_call 161; refine (bit_c _ (bitAt (byt l k) (7 - j)) _ HV.out _).mono ?_; rintro e w' ⟨rfl, rfl⟩)
          go_round
          case rel => exact ⟨j + 1, by omega, by congr 1; omega, rfl⟩
          case measure => simp [intOf]; omega
        · obtain rfl : j = 8 := by omega
          go_wp2
          go_round
          case rel => exact ⟨k + 1, by omega, by go_num, by rw [HS.out, bitsS_come]⟩
          case measure => simp [intOf]; omega
    · obtain rfl : k = n := by omega
      clear hadr
      go_wp2
      go_ret
      exact RetW.mk (by rw [← crcK_all, HN.out])
end Go.Proofs.YtioeimkaljmffaaGreatDoor
end

section
namespace Go.Proofs.YtioeimkaljmffaaGreatDoor
open Go.RowKit
set_option linter.unusedVariables false

set_option maxHeartbeats 400000 in
theorem rsum_c {w : World} {a : Option Addr} {n cap : Nat} {l : List UInt8} (hb : Bys w a n cap l) : Calls Tryz.prog 101 #[.slice a n cap] w (RetW (sumS l) w) := by
  have h0 : (4294967295 : Int) = I (~~~ 0#32) := by decide
  have hm := comes_c (~~~ 0#32) hb
  rw [← h0] at hm
  have HM := Lib.hid hm
  have hsg : IntKind.u32.signed = false := rfl
  clear hm h0
  go_enter Tryz.func101, Tryz.ntmps101
  go_wp2_with (go_at_call 133; refine (HM.out).mono ?_; rintro e w' ⟨rfl, rfl⟩)
  go_ret
  exact RetW.mk (by rw [I_not']; rfl)

end Go.Proofs.YtioeimkaljmffaaGreatDoor
end

section
namespace Go.Proofs.YtioeimkaljmffaaGreatDoor
open Go.RowKit

/-- What a function tells that makes bytes: a slice of its own. -/
def BytesPost (l : List UInt8) (w : World) (e : Ending) (w' : World) : Prop := ∃ v, e = .returned v ∧ OwnB w' w.heap.size 5 v l ∧ Below w.heap.size w w'

theorem Tryz.info5 : (Tryz.prog.info? 5).map (fun i => (i.zero, i.size, i.bytes)) = some (some (.int .u8 0), 1, 1) := by kernel_rfl
end Go.Proofs.YtioeimkaljmffaaGreatDoor
end

section
namespace Go.Proofs.YtioeimkaljmffaaGreatDoor
set_option maxRecDepth 20000
open Go.RowKit
set_option linter.unusedVariables false

/-- Where laySum's loop stands: k of the four bytes are laid. -/
def layK (l1 l4 : List UInt8) (x : W32) (k : Nat) : List UInt8 := l1 ++ ((four x).take k ++ l4.drop k)

theorem layK_zero (l1 l4 : List UInt8) (x : W32) : layK l1 l4 x 0 = l1 ++ l4 := by simp [layK]
theorem layK_four (l1 l4 : List UInt8) (x : W32) (h : l4.length = 4) : layK l1 l4 x 4 = l1 ++ four x := by
  unfold layK; rw [List.drop_of_length_le (by omega), List.take_of_length_le (by simp [four])]; simp

theorem layK_succ (l1 l4 : List UInt8) (x : W32) (k : Nat) (hk : k < 4) (h : l4.length = 4) :
    (u8v (layK l1 l4 x k)).set (l1.length + k) (.int .u8 (by8 (four x) k)) = u8v (layK l1 l4 x (k + 1)) := by
  match l4, h with
  | [a, b, c, d], _ =>
    unfold layK u8v
    simp only [List.map_append]
    rw [List.set_append, List.length_map, if_neg (by omega), show l1.length + k - l1.length = k by omega]
    congr 1
    rcases (by omega : k = 0 ∨ k = 1 ∨ k = 2 ∨ k = 3) with rfl | rfl | rfl | rfl <;> rfl
theorem layK_length (l1 l4 : List UInt8) (x : W32) (k : Nat) (hk : k ≤ 4) (h : l4.length = 4) : (layK l1 l4 x k).length = l1.length + 4 := by
  unfold layK; simp [four]; omega

theorem four_val (x : W32) (k : Nat) (hk : k < 4) : by8 (four x) k = I x / 2 ^ (8 * (3 - k)) % 256 := by
  unfold by8 four I
  rcases (by omega : k = 0 ∨ k = 1 ∨ k = 2 ∨ k = 3) with rfl | rfl | rfl | rfl
  all_goals simp [List.getD]

/-- What laySum leaves. -/
def LayPost (B g n cap : Nat) (l1 : List UInt8) (x : W32) (w : World) (e : Ending) (w' : World) : Prop :=
  e = .returned (.tuple #[]) ∧ w'.ownsRow B 5 1 (.slice (some ⟨g, 0, none⟩) n cap) n (u8v (l1 ++ four x)) ∧ Below g w w' ∧ w.grownBy w' (some g)

set_option maxHeartbeats 800000 in
theorem lay_c {w : World} {B g n cap c2 : Nat} {l1 l4 : List UInt8} (x : W32) (h4 : l4.length = 4) (hn : n = l1.length + 4) (hg : g ≤ w.heap.size) (hown : w.ownsRow B 5 1 (.slice (some ⟨g, 0, none⟩) n cap) n (u8v (l1 ++ l4))) :
    Calls Tryz.prog 128 #[.slice (some ⟨g, l1.length, none⟩) 4 c2, .int .u32 (I x)] w (LayPost B g n cap l1 x w) := by
  have hx := I_bd x
  go_enter Tryz.func128, Tryz.ntmps128
  go_wp2
  go_loopw [5] (fun i wr => ∃ k : Nat, k ≤ 4 ∧ i = .int .i64 k ∧ wr.ownsRow B 5 1 (.slice (some ⟨g, 0, none⟩) n cap) n (u8v (layK l1 l4 x k)) ∧ w.grownBy wr (some g)) (fun i _ => 4 - (intOf i).toNat)
  case atStart => exact ⟨0, by omega, rfl, by rw [layK_zero]; exact hown, World.grownBy.refl _ _⟩
  case round =>
    obtain ⟨k, hk, rfl, hown2, hgr⟩ := hrel
    by_cases hlt : k < 4
    · have hcell := hown2.cellAt (l1.length + k) (by rw [hn]; omega)
      rw [u8v_get _ _ (by rw [layK_length _ _ _ _ hk h4]; omega)] at hcell
      have hfz := hown2.frozenAt (l1.length + k)
      have hv := four_val x k hlt
      generalize by8 (layK l1 l4 x k) (l1.length + k) = old at hcell
      rcases (by omega : k = 0 ∨ k = 1 ∨ k = 2 ∨ k = 3) with rfl | rfl | rfl | rfl
      · have hv2 : I x / 16777216 = by8 (four x) 0 := by rw [hv]; omega
        have hs := hown2.stored (l1.length) (.int .u8 (by8 (four x) 0))
        have hl := layK_succ l1 l4 x 0 (by omega) h4
        rw [show l1.length = l1.length + 0 by rfl, hl, Nat.add_zero] at hs
        have HS := Lib.hid hs
        have HV := Lib.hid hv2
        clear hs hl hv hv2 hown hown2
        simp only [Nat.add_zero] at hcell hfz
        go_wp2
        go_roundw
        case rel => exact ⟨1, by omega, rfl, by rw [HV.out]; exact HS.out.1, by rw [HV.out]; exact grown_trans hgr HS.out.2⟩
        case measure => simp [intOf]
      · have hv2 : I x / 65536 % 256 = by8 (four x) 1 := by rw [hv]; omega
        have hs := hown2.stored (l1.length + 1) (.int .u8 (by8 (four x) 1))
        have hl := layK_succ l1 l4 x 1 (by omega) h4
        rw [hl] at hs
        have HS := Lib.hid hs
        have HV := Lib.hid hv2
        clear hs hl hv hv2 hown hown2
        go_wp2
        go_roundw
        case rel => exact ⟨2, by omega, rfl, by rw [HV.out]; exact HS.out.1, by rw [HV.out]; exact grown_trans hgr HS.out.2⟩
        case measure => simp [intOf]
      · have hv2 : I x / 256 % 256 = by8 (four x) 2 := by rw [hv]; omega
        have hs := hown2.stored (l1.length + 2) (.int .u8 (by8 (four x) 2))
        have hl := layK_succ l1 l4 x 2 (by omega) h4
        rw [hl] at hs
        have HS := Lib.hid hs
        have HV := Lib.hid hv2
        clear hs hl hv hv2 hown hown2
        go_wp2
        go_roundw
        case rel => exact ⟨3, by omega, rfl, by rw [HV.out]; exact HS.out.1, by rw [HV.out]; exact grown_trans hgr HS.out.2⟩
        case measure => simp [intOf]
      · have hv2 : I x % 256 = by8 (four x) 3 := by rw [hv]; omega
        have hs := hown2.stored (l1.length + 3) (.int .u8 (by8 (four x) 3))
        have hl := layK_succ l1 l4 x 3 (by omega) h4
        rw [hl] at hs
        have HS := Lib.hid hs
        have HV := Lib.hid hv2
        clear hs hl hv hv2 hown hown2
        go_wp2
        go_roundw
        case rel => exact ⟨4, by omega, rfl, by rw [HV.out]; exact HS.out.1, by rw [HV.out]; exact grown_trans hgr HS.out.2⟩
        case measure => simp [intOf]
    · obtain rfl : k = 4 := by omega
      go_wp2
      go_end0
      exact ⟨rfl, by rw [← layK_four l1 l4 x h4]; exact hown2, grown_below hgr hg, hgr⟩

/-- Bytes with their sum behind them. -/
def fixS (l : List UInt8) : List UInt8 := l ++ four (sumS l)
theorem fixS_length (l : List UInt8) : (fixS l).length = l.length + 4 := by simp [fixS, four]

def zeros4 : List UInt8 := [0, 0, 0, 0]

theorem own_copied4 {w : World} {B g : Nat} {l : List UInt8} (hB : B ≤ g) (hm : l.length ≤ 1000000)
    (h : w.heap[g]? = some (.cells (splice (List.replicate (l.length + 4) (Value.int .u8 0)) 0 (u8v l)).toArray 5 (0, 0))) :
    w.ownsRow B 5 1 (.slice (some ⟨g, 0, none⟩) (l.length + 4) (l.length + 4)) (l.length + 4) (u8v (l ++ zeros4)) := by
  have e : splice (List.replicate (l.length + 4) (Value.int .u8 0)) 0 (u8v l) = u8v (l ++ zeros4) := by
    unfold splice
    rw [u8v_append, u8v_length]
    simp [u8v, zeros4]
  rw [e] at h
  refine ⟨by rw [u8v_length]; simp [zeros4], .inr ⟨g, _, _, rfl, hB, h, Nat.le_refl _, by unfold maxLen; omega, ?_, ?_⟩⟩
  · simp [u8v_length, zeros4]
  · simp only []
    rw [List.take_of_length_le (by simp [u8v_length, zeros4])]

set_option maxHeartbeats 1600000 in
theorem fix_c {w : World} {a : Option Addr} {n cap : Nat} {l : List UInt8} (hb : Bys w a n cap l) (hn : n ≤ 1000000) : Calls Tryz.prog 96 #[.slice a n cap] w (BytesPost (fixS l) w) := by
  obtain ⟨i0, hi, hz0, hz1, hz2⟩ := info_parts Tryz.info5
  obtain rfl : l.length = n := hb.len
  go_enter Tryz.func96, Tryz.ntmps96
  go_wp2_with (at_make; refine wpList_make_full _ rfl _ _ 34 rfl w.heap.size 5 i0 (.int .u8 0) 1 Tryz.underlying34 hi hz0 hz1 .i64 .i64 _ _ (l.length + 4) rfl rfl ?c1 ?c2 ?c3 ?c4 ?c5 ?_)
  case c1 => simp
  case c2 => simp
  case c3 => rw [hz2]; omega
  case c4 => unfold maxLen; omega
  case c5 => exact Nat.le_refl _
  intro w1 hown hgr
  have hbel : Below w.heap.size w w1.drew := ((Below.refl _ _).grown hgr (Nat.le_refl _) (fun k hk => by cases hk)).drew
  have hheap : w1.drew.heap[w.heap.size]? = some (.cells (List.replicate (l.length + 4) (Value.int .u8 0)).toArray 5 (0, 0)) := heap_of_made hown
  have hsz : (Tryz.prog.info? 5).map (·.size) = some 1 := by rw [hi]; simp [hz1]
  have hcl : (u8v l).length = l.length := u8v_length l
  have hpos : 0 < (u8v l).length → ∃ ad, a = some ad ∧ ∀ j v, (u8v l)[j]? = some v → w1.drew.cell? (ad.add j) = some v := by
    intro hp
    rw [hcl] at hp
    exact (hb.below hbel).cells hp
  have hmin : (u8v l).length = Nat.min l.length (l.length + 4) := by rw [hcl]; exact (Nat.min_eq_left (by omega)).symm
  have hfit : 0 + (u8v l).length ≤ (List.replicate (l.length + 4) (Value.int .u8 0)).length := by rw [hcl]; simp
  have HP := Lib.hid hpos
  have HH := Lib.hid hheap
  have HC := Lib.hid hcl
  have HM := Lib.hid hmin
  clear hown hgr hheap hmin hpos
  have hle : (l.length : Int) ≤ (l.length : Int) + 4 := by omega
  go_wp2
  go_region_law (first
    | (refine step_copy_splice rfl (.tmp 9) (.tmp 10) 34 34 rfl 5 Tryz.underlying34 hsz (some ⟨w.heap.size, 0, none⟩) a (l.length + 4) (l.length + 4) l.length cap (by simp [Act.eval, Act.put]) (by simp [Act.eval, Act.put]) w.heap.size 0 (List.replicate (l.length + 4) (Value.int .u8 0)) 5 HH.out (u8v l) HM.out (fun hp => ⟨rfl, HP.out hp⟩) hfit (u8v_one l) w.heap.size w hbel (Nat.le_refl _) ?_; intro w4 hg4 hb4)
    | (go_simp; go_at_call 129; refine (sum_c (hb.below (by assumption))).mono ?_; rintro e w' ⟨rfl, rfl⟩)
    | (go_simp; go_at_call 128; refine (lay_c (sumS l) rfl rfl (by assumption : Below w.heap.size w _).size (own_copied4 (Nat.le_refl _) hn (by assumption : Hid _).out)).mono ?_; rintro e w' ⟨rfl, ho5, hb5, hg5⟩))
  go_wp2
  go_ret
  exact ⟨_, rfl, by unfold OwnB; rw [fixS_length]; exact ho5, hb4.trans hb5⟩

theorem four_bys (w : World) (e : TypeId) (x : W32) :
    Bys (w.alloc (.cells #[.int .u8 (I x / 16777216), .int .u8 (I x / 65536 % 256), .int .u8 (I x / 256 % 256), .int .u8 (I x % 256)] e)) (some ⟨w.heap.size, 0, none⟩) 4 4 (four x) := by
  have hx := I_bd x
  refine ⟨rfl, Nat.le_refl _, by omega, .inr ⟨w.heap.size, 0, rfl, fun i hi => ?_⟩⟩
  have hv := four_val x i hi
  unfold World.cell?
  rw [heap_alloc_new]
  rcases (by omega : i = 0 ∨ i = 1 ∨ i = 2 ∨ i = 3) with rfl | rfl | rfl | rfl
  · rw [show by8 (four x) 0 = I x / 16777216 by rw [hv]; omega]; rfl
  · rw [show by8 (four x) 1 = I x / 65536 % 256 by rw [hv]; omega]; rfl
  · rw [show by8 (four x) 2 = I x / 256 % 256 by rw [hv]; omega]; rfl
  · rw [show by8 (four x) 3 = I x % 256 by rw [hv]; omega]; rfl

set_option maxHeartbeats 1600000 in
theorem rfix_c {w : World} {a : Option Addr} {n cap : Nat} {l : List UInt8} (hb : Bys w a n cap l) (hn : n ≤ 1000000) : Calls Tryz.prog 61 #[.slice a n cap] w (BytesPost (fixS l) w) := by
  obtain ⟨i0, hi, hz0, hz1, hz2⟩ := info_parts Tryz.info5
  have hx := I_bd (sumS l)
  go_enter Tryz.func61, Tryz.ntmps61
  have hba := hb.below ((Below.refl w.heap.size w).alloc (Nat.le_refl _) (.cells #[] 5))
  have hoe := OwnB.empty w w.heap.size 5 (Nat.le_refl _)
  have hln : l.length = n := hb.len
  have HL := Lib.hid hln
  clear hln
  go_wp2_with (first
    | (go_at_call 101; refine (rsum_c hb).mono ?_; rintro e w' ⟨rfl, rfl⟩)
    | (at_builtin; refine wpList_append_bys rfl (.tmp 6) (.tmp 7) 34 rfl Tryz.underlying34 hi hz0 hz1 hz2 rfl rfl hoe rfl hba (by simp; omega) (by simp) ?_; intro v1 w1 ho1 hg1)
    | (at_builtin; refine wpList_append_bys rfl (.tmp 8) (.tmp 20) 34 rfl Tryz.underlying34 hi hz0 hz1 hz2 rfl rfl (World.ownsRow.alloc ho1 _) rfl (four_bys w1 5 (sumS l)) (by have := HL.out; simp; omega) (by have := hg1.size; simp at this ⊢; omega) ?_; intro v2 w2 ho2 hg2))
  go_ret
  have b1 : Below w.heap.size w w1 := ((Below.refl w.heap.size w).alloc (Nat.le_refl _) (.cells #[] 5)).grown hg1 (by simp) (fun k hk => (hoe.lt k hk).1)
  have b2 : Below w.heap.size w w2 := (b1.alloc b1.size _).grown hg2 (by have := b1.size; simp; omega) (fun k hk => (ho1.lt k hk).1)
  exact ⟨v2, rfl, ho2, b2⟩

/-- The word of the first k bytes. -/
def wordK (l : List UInt8) (k : Nat) : W32 := (l.take k).foldl (fun r c => (r <<< 8) ||| wd c) 0#32
theorem wordK_succ (l : List UInt8) (k : Nat) (h : k < l.length) : wordK l (k + 1) = (wordK l k <<< 8) ||| wd (byt l k) := by
  unfold wordK; rw [take_snoc8 l k h, List.foldl_append]; rfl
theorem word_val (r : W32) (c : UInt8) (cv : Int) (h : cv = (c.toNat : Int)) : bits .or .u32 (I r * 256 % 4294967296) cv = I ((r <<< 8) ||| wd c) := by
  have h1 : I r * (256 : Int) % (4294967296 : Int) = I (r <<< 8) := by
    unfold I; rw [BitVec.toNat_shiftLeft]; simp [Nat.shiftLeft_eq]
  have h2 : cv = I (wd c) := by
    subst h; unfold I wd; rw [BitVec.toNat_ofNat]; have := c.toNat_lt; omega
  rw [h1, h2, I_or]

/-- Do bytes end with the sum of those ahead of it? -/
def rightS (l : List UInt8) : Bool := if l.length < 4 then false else wordK (l.drop (l.length - 4)) 4 == sumS (l.take (l.length - 4))

def RetBool (x : Bool) (w : World) (e : Ending) (w' : World) : Prop := e = .returned (.bool x) ∧ w = w'
theorem RetBool.mk {a x : Bool} {w : World} (h : a = x) : RetBool x w (.returned (.bool a)) w := by subst h; exact ⟨rfl, rfl⟩

set_option maxHeartbeats 800000 in
theorem right_c {w : World} {a : Option Addr} {n cap : Nat} {l : List UInt8} (hb : Bys w a n cap l) : Calls Tryz.prog 188 #[.slice a n cap] w (RetBool (rightS l) w) := by
  have hlim : (n : Int) ≤ 9223372036854775807 := by have := hb.le; have := hb.max; omega
  by_cases h4 : n < 4
  · have hr : rightS l = false := by unfold rightS; rw [hb.len, if_pos h4]
    rw [hr]
    have hd : (n : Int) < 4 := by omega
    go_enter Tryz.func188, Tryz.ntmps188
    go_wp2
    go_ret
    exact RetBool.mk rfl
  · have h5 : (4 : Int) ≤ (n : Int) := by omega
    have hle := hb.le
    have hmax := hb.max
    have hcq : ¬ cap = n - 4 := by omega
    have hn4 : n - (n - 4) = 4 := by omega
    have ht := hb.take (show n - 4 ≤ n by omega)
    have HLE := Lib.hid (show (l.drop (n - 4)).length = 4 by rw [List.length_drop, hb.len]; omega)
    have HR := Lib.hid (show rightS l = (wordK (l.drop (n - 4)) 4 == sumS (l.take (n - 4))) by unfold rightS; rw [hb.len, if_neg (by omega)])
    obtain ⟨b, off, rfl, hc⟩ : ∃ b off, a = some ⟨b, off, none⟩ ∧ ∀ i, i < 4 → w.cell? ⟨b, off + (n - 4) + i, none⟩ = some (.int .u8 (by8 (l.drop (n - 4)) i)) := by
      rcases hb.adr with h0 | ⟨b, off, rfl, hc⟩
      · omega
      · exact ⟨b, off, rfl, fun i hi => by rw [by8_drop, Nat.add_assoc]; exact hc (n - 4 + i) (by omega)⟩
    obtain ⟨l4, e4⟩ : ∃ l4, l.drop (n - 4) = l4 := ⟨_, rfl⟩
    rw [e4] at HR HLE hc
    have HC := Lib.hid hc
    clear hc e4 hb h4
    go_enter Tryz.func188, Tryz.ntmps188
    go_wp2
    go_loop [4, 16] (fun v i => ∃ k : Nat, k ≤ 4 ∧ i = .int .i64 k ∧ v = .int .u32 (I (wordK l4 k))) (fun _ i => 4 - (intOf i).toNat)
    case atStart => exact ⟨0, by omega, rfl, by rw [show wordK l4 0 = 0#32 by rfl]; rfl⟩
    case round =>
      obtain ⟨k, hk, rfl, rfl⟩ := hrel
      by_cases hlt : k < 4
      · have hcell := HC.out k hlt
        have h8 := by8_bd l4 k
        have HS := Lib.hid (wordK_succ l4 k (by have := HLE.out; omega))
        have HV := Lib.hid (word_val (wordK l4 k) (byt l4 k) _ (by8_byt l4 k))
        have hI := I_bd (wordK l4 k)
        clear HC
        go_wp2
        go_round
        case rel => exact ⟨k + 1, by omega, by go_num, by rw [HS.out, HV.out]⟩
        case measure => simp [intOf]; omega
      · obtain rfl : k = 4 := by omega
        clear HC
        go_wp2_with (go_at_call 129; refine (sum_c ht).mono ?_; rintro e w' ⟨rfl, rfl⟩)
        go_ret
        exact RetBool.mk (by rw [HR.out, Bool.eq_iff_iff]; simp; exact ⟨I_inj, fun h => by rw [h]⟩)

theorem step_nat (r : W32) (c : UInt8) (h : r.toNat < 16777216) : ((r <<< 8) ||| wd c).toNat = r.toNat * 256 + c.toNat := by
  have hc := c.toNat_lt
  rw [BitVec.toNat_or, BitVec.toNat_shiftLeft]
  unfold wd
  rw [BitVec.toNat_ofNat, Nat.mod_eq_of_lt (show c.toNat < 2 ^ 32 by omega), Nat.shiftLeft_eq, Nat.mod_eq_of_lt (by omega)]
  have := Nat.shiftLeft_add_eq_or_of_lt (i := 8) (b := c.toNat) (by omega) r.toNat
  rw [Nat.shiftLeft_eq] at this
  exact this.symm
theorem word4_nat (a b c d : UInt8) : (wordK [a, b, c, d] 4).toNat = a.toNat * 16777216 + b.toNat * 65536 + c.toNat * 256 + d.toNat := by
  have ha := a.toNat_lt
  have hb := b.toNat_lt
  have hc := c.toNat_lt
  show (((((0#32 <<< 8 ||| wd a) <<< 8 ||| wd b) <<< 8 ||| wd c) <<< 8) ||| wd d).toNat = _
  have e1 := step_nat 0#32 a (by decide)
  rw [show (0#32).toNat = 0 by rfl] at e1
  generalize (0#32 <<< 8 ||| wd a) = r1 at *
  have e2 := step_nat r1 b (by omega)
  generalize (r1 <<< 8 ||| wd b) = r2 at *
  have e3 := step_nat r2 c (by omega)
  generalize (r2 <<< 8 ||| wd c) = r3 at *
  have e4 := step_nat r3 d (by omega)
  rw [e4]; omega
theorem word_four (x : W32) : wordK (four x) 4 = x := by
  apply BitVec.eq_of_toNat_eq
  have hx := x.isLt
  unfold four
  rw [word4_nat]
  simp
  omega
theorem four_word4 (l : List UInt8) (h : l.length = 4) : four (wordK l 4) = l := by
  match l, h with
  | [a, b, c, d], _ =>
    have hn := word4_nat a b c d
    have ha := a.toNat_lt
    have hb := b.toNat_lt
    have hc := c.toNat_lt
    have hd := d.toNat_lt
    unfold four
    rw [hn]
    have e : ∀ (u : UInt8) (n : Nat), n = u.toNat → UInt8.ofNat n = u := by
      intro u n h; subst h; simp
    rw [e a _ (by omega), e b _ (by omega), e c _ (by omega), e d _ (by omega)]

theorem rightS_iff (l : List UInt8) (h : ¬ l.length < 4) : rightS l = decide (fixS (l.take (l.length - 4)) = l) := by
  unfold rightS
  rw [if_neg h, Bool.eq_iff_iff]
  simp only [beq_iff_eq, decide_eq_true_eq]
  have hd : (l.drop (l.length - 4)).length = 4 := by rw [List.length_drop]; omega
  have hs : l.take (l.length - 4) ++ l.drop (l.length - 4) = l := List.take_append_drop _ _
  constructor
  · intro he
    unfold fixS
    rw [← he, four_word4 _ hd, hs]
  · intro he
    unfold fixS at he
    have h2 : l.take (l.length - 4) ++ four (sumS (l.take (l.length - 4))) = l.take (l.length - 4) ++ l.drop (l.length - 4) := by rw [hs]; exact he
    have h3 := List.append_cancel_left h2
    rw [← h3, word_four]
theorem rightS_fix (l : List UInt8) : rightS (fixS l) = true := by
  have hl : ¬ (fixS l).length < 4 := by rw [fixS_length]; omega
  rw [rightS_iff _ hl, fixS_length, Nat.add_sub_cancel]
  have : (fixS l).take l.length = l := by unfold fixS; exact List.take_left
  rw [this]; simp
end Go.Proofs.YtioeimkaljmffaaGreatDoor
end

section
namespace Go.Proofs.YtioeimkaljmffaaGreatDoor
open Go.RowKit
set_option linter.unusedVariables false

/-- A bool comes back; what was there is as it was. -/
def BoolPost (x : Bool) (w : World) (e : Ending) (w' : World) : Prop := e = .returned (.bool x) ∧ Below w.heap.size w w'
theorem BoolPost.mk {a x : Bool} {w w' : World} (h : a = x) (hb : Below w.heap.size w w') : BoolPost x w (.returned (.bool a)) w' := by subst h; exact ⟨rfl, hb⟩

set_option maxRecDepth 100000 in
set_option maxHeartbeats 1600000 in
theorem rright_c {w : World} {a : Option Addr} {n cap : Nat} {l : List UInt8} (hb : Bys w a n cap l) (hn : n ≤ 1000000) : Calls Tryz.prog 104 #[.slice a n cap] w (BoolPost (rightS l) w) := by
  have hlim : (n : Int) ≤ 9223372036854775807 := by have := hb.le; have := hb.max; omega
  by_cases h4 : n < 4
  · have hr : rightS l = false := by unfold rightS; rw [hb.len, if_pos h4]
    rw [hr]
    have hd : (n : Int) < 4 := by omega
    go_enter Tryz.func104, Tryz.ntmps104
    go_wp2
    go_ret
    exact BoolPost.mk rfl (Below.refl _ _)
  · have h5 : (4 : Int) ≤ (n : Int) := by omega
    have hle := hb.le
    have hmax := hb.max
    have hcq : ¬ cap = n - 4 := by omega
    have ht := hb.take (show ((n : Int) - 4).toNat ≤ n by omega)
    have hn1 : ((n : Int) - 4).toNat ≤ 1000000 := by omega
    have HR := Lib.hid (show rightS l = decide (fixS (l.take ((n : Int) - 4).toNat) = l) by rw [rightS_iff l (by rw [hb.len]; exact h4), hb.len, show ((n : Int) - 4).toNat = n - 4 by omega])
    have hcv : ∀ W : World, Below w.heap.size w W → (convert 34 9 (.slice a n cap)).run Tryz.prog W = .ok (.string (text l)) W := fun W h => conv_bys (hb.below h) Tryz.underlying34 Tryz.underlying5 Tryz.underlying9
    have hbd : Below w.heap.size w w.drew := (Below.refl _ _).drew
    have hc1 := hcv _ hbd
    have HV := Lib.hid hcv
    clear hcv
    have h6 : (n : Int) - 4 ≤ (cap : Int) ∧ 0 ≤ (n : Int) - 4 := by omega
    go_enter Tryz.func104, Tryz.ntmps104
    go_wp2
    go_region_with (go_at_call 61; refine (rfix_c (ht.below hbd) hn1).mono ?_; rintro e w' ⟨v, rfl, hov, hbv⟩; obtain ⟨av, cv, rfl, hbys⟩ := hov.bys; have hc2 := conv_bys (P := Tryz.prog) hbys Tryz.underlying34 Tryz.underlying5 Tryz.underlying9; have hbw : Below w.heap.size w w' := Below.trans hbd (hbv.mono hbd.size); have hc3 := HV.out _ hbw)
    all_goals go_wp2
    all_goals go_ret
    all_goals exact BoolPost.mk (by rw [HR.out]; exact text_beq _ _) (by assumption)
end Go.Proofs.YtioeimkaljmffaaGreatDoor
end

section
namespace Go.Proofs.YtioeimkaljmffaaGreatDoor
open Go.RowKit
set_option linter.unusedVariables false

theorem by8_append_left (l m : List UInt8) (i : Nat) (h : i < l.length) : by8 (l ++ m) i = by8 l i := by
  unfold by8; rw [List.getD_eq_getElem?_getD, List.getElem?_append_left h, List.getD_eq_getElem?_getD]

/-- The digits of n, the highest first, from a on. -/
theorem valS_digits (n : Int) (h0 : 0 ≤ n) (r : List UInt8) (c : Nat) (hr : ∀ j, j < c → by8 r j = ((rawAt n (c - 1 - j)).toNat : Int)) (hl : c ≤ r.length) :
    ∀ j, j ≤ c → valS (n / 256 ^ c) r j = n / 256 ^ (c - j) := by
  intro j
  induction j with
  | zero => intro _; rw [valS_zero, Nat.sub_zero]
  | succ j ih =>
    intro hj
    rw [valS_succ _ _ _ (by omega), ih (by omega), hr j (by omega)]
    have e : (256 : Int) ^ (c - j) = 256 ^ (c - (j + 1)) * 256 := by rw [← Int.pow_succ]; congr 1; omega
    have hv := rawAt_val n h0 (c - 1 - j)
    rw [show (2 : Int) ^ (8 * (c - 1 - j)) = 256 ^ (c - 1 - j) by rw [Int.pow_mul]; rfl, show c - 1 - j = c - (j + 1) by omega] at hv
    rw [show c - 1 - j = c - (j + 1) by omega, e, ← hv, ← Int.ediv_ediv_of_nonneg (Int.pow_nonneg (by omega))]
    omega

theorem markS_div (k : Nat) (hk : k = 1 ∨ k = 2 ∨ k = 4 ∨ k = 8) : 2 ^ (markS k / 64) = k ∧ markS k % 64 = 0 ∧ markS k ≤ 192 := by
  rcases hk with rfl | rfl | rfl | rfl <;> decide

theorem numK_cons (n : Int) (k : Nat) (hk : 0 < k) : numK n k = UInt8.ofNat (n.toNat / 256 ^ (k - 1) % 256 + markS k) :: (rawB n k).tail := by
  unfold numK
  cases h : rawB n k with
  | nil => have := rawB_length n k; rw [h] at this; simp at this; omega
  | cons a t => rfl
theorem rawB_tail (n : Int) (k j : Nat) (h : j + 1 < k) : by8 (rawB n k).tail j = ((rawAt n (k - 2 - j)).toNat : Int) := by
  have h1 := rawB_get n k (j + 1) h
  rw [show k - 1 - (j + 1) = k - 2 - j by omega] at h1
  rw [← h1]
  unfold by8 byt8
  simp [List.getD]

/-- A number's bytes begin with that number, whatever stands behind them. -/
theorem getS_num (n : Int) (t : List UInt8) (h0 : 0 ≤ n) (h1 : n ≤ 4611686018427387903) : getS (numB n ++ t) = (n, sizeS n, 0) := by
  obtain ⟨k, hs, hk, hlow⟩ := sizeS_cases h0 h1
  have hnb : numB n = numK n k := by unfold numB; rw [hs]; rfl
  obtain ⟨m1, m2, m3⟩ := markS_div k hk
  have hk0 : 0 < k := by omega
  rw [hnb, numK_cons n k hk0]
  show getS (_ :: ((rawB n k).tail ++ t)) = _
  have hb : (UInt8.ofNat (n.toNat / 256 ^ (k - 1) % 256 + markS k)).toNat = n.toNat / 256 ^ (k - 1) + markS k := by
    generalize n.toNat / 256 ^ (k - 1) = x at *
    simp; omega
  have hbd : (n.toNat / 256 ^ (k - 1) + markS k) / 64 = markS k / 64 := by
    generalize n.toNat / 256 ^ (k - 1) = x at *
    omega
  have hbm : (((n.toNat / 256 ^ (k - 1) + markS k : Nat) : Int) % 64) = n / 256 ^ (k - 1) := by
    obtain ⟨m, rfl⟩ := Int.eq_ofNat_of_zero_le h0
    rw [show ((m : Int) / 256 ^ (k - 1)) = ((m / 256 ^ (k - 1) : Nat) : Int) by simp]
    rw [Int.toNat_natCast] at hlow ⊢
    generalize m / 256 ^ (k - 1) = x at *
    omega
  simp only [getS]
  rw [hb, hbd, m1, hbm]
  have hlen : (rawB n k).tail.length = k - 1 := by rw [List.length_tail, rawB_length]
  rw [if_neg (by simp [rawB_length]; omega)]
  have hv := valS_digits n h0 ((rawB n k).tail ++ t) (k - 1) (fun j hj => by
    rw [by8_append_left _ _ _ (by rw [hlen]; exact hj), rawB_tail n k j (by omega), show k - 1 - 1 - j = k - 2 - j by omega]) (by simp [rawB_length]) (k - 1) (Nat.le_refl _)
  rw [hv, Nat.sub_self, Int.pow_zero, Int.ediv_one, outS_yes hs, hs]

theorem sizeS_pos {v : Int} {k : Int} (h : sizeS v = k) (hk : 0 < k) : 0 ≤ v ∧ v ≤ 4611686018427387903 := by
  by_cases hv : v < 0 ∨ 4611686018427387903 < v
  · rw [sizeS_neg hv] at h; omega
  · omega

theorem getS_ok (l : List UInt8) (h : (getS l).2.2 = 0) : ∃ q : Nat, (getS l).2.1 = (q : Int) ∧ 1 ≤ q ∧ q ≤ l.length ∧ 0 ≤ (getS l).1 ∧ (getS l).1 ≤ 4611686018427387903 := by
  cases l with
  | nil => simp [getS] at h
  | cons b r =>
    simp only [getS] at h ⊢
    have hp : 1 ≤ 2 ^ (b.toNat / 64) := Nat.one_le_two_pow
    by_cases hc : r.length + 1 < 2 ^ (b.toNat / 64)
    · rw [if_pos hc] at h; simp at h
    · rw [if_neg hc] at h ⊢
      generalize hv : valS ((b.toNat : Int) % 64) r (2 ^ (b.toNat / 64) - 1) = v at *
      by_cases hs : sizeS v = ((2 ^ (b.toNat / 64) : Nat) : Int)
      · rw [outS_yes hs] at h ⊢
        exact ⟨2 ^ (b.toNat / 64), rfl, hp, by simp; omega, sizeS_pos hs (by omega)⟩
      · rw [outS_no hs] at h; simp at h

theorem getS_bad (l : List UInt8) (h : ¬ (getS l).2.2 = 0) : (getS l).1 = 0 ∧ (getS l).2.1 = 0 := by
  cases l with
  | nil => exact ⟨rfl, rfl⟩
  | cons b r =>
    simp only [getS] at h ⊢
    by_cases hc : r.length + 1 < 2 ^ (b.toNat / 64)
    · rw [if_pos hc]; exact ⟨rfl, rfl⟩
    · rw [if_neg hc] at h ⊢
      generalize valS ((b.toNat : Int) % 64) r (2 ^ (b.toNat / 64) - 1) = v at *
      by_cases hs : sizeS v = ((2 ^ (b.toNat / 64) : Nat) : Int)
      · rw [outS_yes hs] at h; simp at h
      · rw [outS_no hs]; exact ⟨rfl, rfl⟩

end Go.Proofs.YtioeimkaljmffaaGreatDoor
end

section
namespace Go.Proofs.YtioeimkaljmffaaGreatDoor
set_option maxRecDepth 20000
open Go.RowKit
set_option linter.unusedVariables false

/-- A body's frame; nothing, if the body is too long. -/
def wrapS (l : List UInt8) : List UInt8 := if 1048576 < l.length then [] else fixS (([181] ++ numB (l.length : Int)) ++ l)
theorem wrapS_short {l : List UInt8} (h : l.length ≤ 1048576) : wrapS l = fixS (([181] ++ numB (l.length : Int)) ++ l) := by unfold wrapS; rw [if_neg (by omega)]
/-- Where the body of the frame with which bytes begin starts, where it ends, and the error. -/
def findS (l : List UInt8) : Int × Int × Int :=
  if l = [] then (0, 0, 10)
  else if ¬ byt8 l 0 = 181 then (0, 0, 30)
  else if ¬ (getS (l.drop 1)).2.2 = 0 then (0, 0, (getS (l.drop 1)).2.2)
  else if 1048576 < (getS (l.drop 1)).1 then (0, 0, 3)
  else if (l.length : Int) < 1 + (getS (l.drop 1)).2.1 + (getS (l.drop 1)).1 + 4 then (0, 0, 10)
  else if rightS (l.take (1 + (getS (l.drop 1)).2.1 + (getS (l.drop 1)).1 + 4).toNat) = false then (0, 0, 31)
  else (1 + (getS (l.drop 1)).2.1, 1 + (getS (l.drop 1)).2.1 + (getS (l.drop 1)).1, 0)

theorem findS_nil : findS [] = (0, 0, 10) := rfl
theorem findS_mark {l : List UInt8} (h : 0 < l.length) (hm : ¬ byt8 l 0 = 181) : findS l = (0, 0, 30) := by
  unfold findS; rw [if_neg (by intro h0; rw [h0] at h; simp at h), if_pos hm]
theorem findS_get {l : List UInt8} (h : 0 < l.length) (hm : byt8 l 0 = 181) {gn gk ge : Int} (hg : getS (l.drop 1) = (gn, gk, ge)) (he : ¬ ge = 0) : findS l = (0, 0, ge) := by
  unfold findS; rw [if_neg (by intro h0; rw [h0] at h; simp at h), if_neg (by simpa using hm), hg, if_pos (by simpa using he)]
theorem findS_long {l : List UInt8} (h : 0 < l.length) (hm : byt8 l 0 = 181) {gn gk : Int} (hg : getS (l.drop 1) = (gn, gk, 0)) (hl : 1048576 < gn) : findS l = (0, 0, 3) := by
  unfold findS; rw [if_neg (by intro h0; rw [h0] at h; simp at h), if_neg (by simpa using hm), hg, if_neg (by simp), if_pos hl]
theorem findS_cut {l : List UInt8} (h : 0 < l.length) (hm : byt8 l 0 = 181) {gn gk : Int} (hg : getS (l.drop 1) = (gn, gk, 0)) (hl : ¬ 1048576 < gn) (hc : (l.length : Int) < 1 + gk + gn + 4) : findS l = (0, 0, 10) := by
  unfold findS; rw [if_neg (by intro h0; rw [h0] at h; simp at h), if_neg (by simpa using hm), hg, if_neg (by simp), if_neg hl, if_pos hc]
theorem findS_sum {l : List UInt8} (h : 0 < l.length) (hm : byt8 l 0 = 181) {gn gk : Nat} (hg : getS (l.drop 1) = ((gn : Int), (gk : Int), 0)) (hl : ¬ 1048576 < gn) (hc : 1 + gk + gn + 4 ≤ l.length) (hr : rightS (l.take (1 + gk + gn + 4)) = false) : findS l = (0, 0, 31) := by
  unfold findS; rw [if_neg (by intro h0; rw [h0] at h; simp at h), if_neg (by simpa using hm), hg, if_neg (by simp), if_neg (by simp only []; omega), if_neg (by simp only []; omega), if_pos (by simp only []; rw [show (1 + (gk : Int) + (gn : Int) + 4).toNat = 1 + gk + gn + 4 by omega]; exact hr)]
theorem findS_good {l : List UInt8} (h : 0 < l.length) (hm : byt8 l 0 = 181) {gn gk : Nat} (hg : getS (l.drop 1) = ((gn : Int), (gk : Int), 0)) (hl : ¬ 1048576 < gn) (hc : 1 + gk + gn + 4 ≤ l.length) (hr : rightS (l.take (1 + gk + gn + 4)) = true) : findS l = (((1 + gk : Nat) : Int), ((1 + gk + gn : Nat) : Int), 0) := by
  unfold findS
  rw [if_neg (by intro h0; rw [h0] at h; simp at h), if_neg (by simpa using hm), hg, if_neg (by simp), if_neg (by simp only []; omega), if_neg (by simp only []; omega), if_neg (by simp only []; rw [show (1 + (gk : Int) + (gn : Int) + 4).toNat = 1 + gk + gn + 4 by omega, hr]; simp)]
  simp

/-- What the bytes of a length can tell. -/
theorem getS_cases (l : List UInt8) : (∃ ge, getS l = (0, 0, ge) ∧ ¬ ge = 0) ∨ (∃ gn gk : Nat, getS l = ((gn : Int), (gk : Int), 0) ∧ 1 ≤ gk ∧ gk ≤ l.length ∧ gn ≤ 4611686018427387903) := by
  by_cases h : (getS l).2.2 = 0
  · obtain ⟨q, hq, h1, h2, h3, h4⟩ := getS_ok l h
    refine .inr ⟨(getS l).1.toNat, q, ?_, h1, h2, by omega⟩
    rw [show (((getS l).1.toNat : Nat) : Int) = (getS l).1 by omega, ← hq, ← h]
  · obtain ⟨h1, h2⟩ := getS_bad l h
    refine .inl ⟨(getS l).2.2, ?_, h⟩
    rw [← h1]
    rw [show (getS l).1 = (getS l).2.1 by rw [h1, h2]]
    rw [show (getS l).2.1 = (getS l).1 by rw [h1, h2]] 
    exact Prod.ext rfl (Prod.ext (by rw [h1, h2]) rfl)

/-- All that a find can tell. -/
theorem findS_cases (l : List UInt8) : (∃ e, findS l = (0, 0, e) ∧ ¬ e = 0) ∨ (∃ s t : Nat, findS l = ((s : Int), (t : Int), 0) ∧ 2 ≤ s ∧ s ≤ t ∧ t + 4 ≤ l.length) := by
  by_cases h0 : l = []
  · subst h0; exact .inl ⟨10, rfl, by decide⟩
  have h : 0 < l.length := by cases l with | nil => exact absurd rfl h0 | cons c r => simp
  by_cases hm : byt8 l 0 = 181
  · rcases getS_cases (l.drop 1) with ⟨ge, hg, he⟩ | ⟨gn, gk, hg, h1, h2, h3⟩
    · exact .inl ⟨ge, findS_get h hm hg he, he⟩
    · by_cases hl : 1048576 < gn
      · exact .inl ⟨3, findS_long h hm hg (by omega), by decide⟩
      · by_cases hc : 1 + gk + gn + 4 ≤ l.length
        · cases hr : rightS (l.take (1 + gk + gn + 4)) with
          | false => exact .inl ⟨31, findS_sum h hm hg hl hc hr, by decide⟩
          | true => exact .inr ⟨1 + gk, 1 + gk + gn, findS_good h hm hg hl hc hr, by omega, by omega, by omega⟩
        · exact .inl ⟨10, findS_cut h hm hg (by omega) (by omega), by decide⟩
  · exact .inl ⟨30, findS_mark h hm, by decide⟩

/-- The body of the frame with which bytes begin, how many bytes it has, and the error. -/
def openS (l : List UInt8) : List UInt8 × Int × Int :=
  if (findS l).2.2 = 0 then ((l.drop (findS l).1.toNat).take ((findS l).2.1.toNat - (findS l).1.toNat), (findS l).2.1 + 4, 0) else ([], 0, (findS l).2.2)
theorem openS_bad {l : List UInt8} {e : Int} (h : findS l = (0, 0, e)) (he : ¬ e = 0) : openS l = ([], 0, e) := by unfold openS; rw [h, if_neg (by simpa using he)]
theorem openS_good {l : List UInt8} {s t : Nat} (h : findS l = ((s : Int), (t : Int), 0)) : openS l = ((l.drop s).take (t - s), ((t + 4 : Nat) : Int), 0) := by
  unfold openS; rw [h, if_pos (by simp)]; simp
end Go.Proofs.YtioeimkaljmffaaGreatDoor
end

section
namespace Go.Proofs.YtioeimkaljmffaaGreatDoor
open Go.RowKit
set_option linter.unusedVariables false

theorem numB_none {n : Int} (h : n < 0 ∨ 4611686018427387903 < n) : numB n = [] := by unfold numB; rw [sizeS_neg h]; rfl
theorem numB_some {n : Int} {k : Nat} (h : sizeS n = (k : Int)) : numB n = numK n k := by unfold numB; rw [h]; rfl

set_option maxRecDepth 100000 in
set_option maxHeartbeats 3200000 in
theorem put_some {w : World} {a : Option Addr} {m cap : Nat} {l : List UInt8} (hb : Bys w a m cap l) (hn : m ≤ 1000000) (n : Int) (h0 : 0 ≤ n) (h1 : n ≤ 4611686018427387903) (hT : TabW w) :
    Calls Tryz.prog 97 #[.slice a m cap, .int .i64 n] w (BytesPost (l ++ numB n) w) := by
  obtain ⟨i0, hi, hz0, hz1, hz2⟩ := info_parts Tryz.info5
  obtain rfl : l.length = m := hb.len
  obtain ⟨k, hs, hk, hlow⟩ := sizeS_cases h0 h1
  have HB := Lib.hid (numB_some hs)
  have hsz : (Tryz.prog.info? 5).map (·.size) = some 1 := by rw [hi]; simp [hz1]
  have hk8 : 1 ≤ k ∧ k ≤ 8 := by omega
  have HS := Lib.hid hs
  have HK := Lib.hid hk
  have HL := Lib.hid hlow
  clear hs hk hlow
  have hkz : (0 : Int) < (k : Int) ∧ (k : Int) ≤ 8 := by omega
  have hle : (l.length : Int) ≤ (l.length : Int) + (k : Int) := by omega
  have hcq : ¬ l.length + k = l.length := by omega
  go_enter Tryz.func97, Tryz.ntmps97
  go_wp2_with (first
    | (go_at_call 130; refine (size_c n (by omega) (by omega) _).mono ?_; rintro e w' ⟨rfl, rfl⟩; rw [HS.out])
    | (at_make; refine wpList_make_full _ rfl _ _ 34 rfl w.heap.size 5 i0 (.int .u8 0) 1 Tryz.underlying34 hi hz0 hz1 .i64 .i64 _ _ (l.length + k) rfl rfl ?c1 ?c2 ?c3 ?c4 ?c5 ?_))
  case c1 => simp
  case c2 => simp
  case c3 => rw [hz2]; omega
  case c4 => unfold maxLen; omega
  case c5 => exact Nat.le_refl _
  intro w1 hown hgr
  have hbel : Below w.heap.size w w1 := (Below.refl _ _).grown hgr (Nat.le_refl _) (fun k hk => by cases hk)
  have HH := Lib.hid (show w1.heap[w.heap.size]? = some (.cells (List.replicate (l.length + k) (Value.int .u8 0)).toArray 5 (0, 0)) from heap_of_made hown)
  have hcl : (u8v l).length = l.length := u8v_length l
  have HP := Lib.hid (show 0 < (u8v l).length → ∃ ad, a = some ad ∧ ∀ j v, (u8v l)[j]? = some v → w1.cell? (ad.add j) = some v from fun hp => (hb.below hbel).cells (by rw [hcl] at hp; exact hp))
  have HM := Lib.hid (show (u8v l).length = Nat.min l.length (l.length + k) by rw [hcl]; exact (Nat.min_eq_left (by omega)).symm)
  have hfit : 0 + (u8v l).length ≤ (List.replicate (l.length + k) (Value.int .u8 0)).length := by rw [hcl]; simp
  clear hown hgr
  go_wp2_with (with_reducible refine wpList_copy_splice rfl (.tmp 17) (.tmp 18) 34 34 rfl 5 Tryz.underlying34 hsz (some ⟨w.heap.size, 0, none⟩) a (l.length + k) (l.length + k) l.length cap rfl rfl w.heap.size 0 (List.replicate (l.length + k) (Value.int .u8 0)) 5 HH.out (u8v l) HM.out (fun hp => ⟨rfl, HP.out hp⟩) hfit (u8v_one l) w.heap.size w hbel (Nat.le_refl _) ?_; intro w4 hg4 hb4)
  have ho := own_copied (Nat.le_refl w.heap.size) (by omega) hg4.out
  clear hg4 hfit hcl hbel
  go_loopw [22] (fun i wr => ∃ j : Nat, j ≤ k ∧ i = .int .i64 j ∧ wr.ownsRow w.heap.size 5 1 (.slice (some ⟨w.heap.size, 0, none⟩) (l.length + k) (l.length + k)) (l.length + k) (u8v (layN l n k j)) ∧ w4.grownBy wr (some w.heap.size)) (fun i _ => k - (intOf i).toNat)
  case atStart => exact ⟨0, by omega, rfl, by rw [layN_zero]; exact ho, World.grownBy.refl _ _⟩
  case round =>
    obtain ⟨j, hj, rfl, hown2, hgr⟩ := hrel
    by_cases hlt : j < k
    · have hcell := hown2.cellAt (l.length + (k - 1 - j)) (by omega)
      rw [u8v_get _ _ (by rw [layN_length _ _ _ _ hj]; omega)] at hcell
      have hfz := hown2.frozenAt (l.length + (k - 1 - j))
      have HV := Lib.hid (rawAt_val n h0 j)
      generalize by8 (layN l n k j) (l.length + (k - 1 - j)) = old at hcell
      have hst := hown2.stored (l.length + (k - 1 - j)) (.int .u8 ((rawAt n j).toNat : Int))
      rw [u8v_set, layN_succ l n k j hlt] at hst
      have HST := Lib.hid hst
      have hj8 : 0 ≤ (k : Int) - 1 - (j : Int) ∧ (k : Int) - 1 - (j : Int) < (k : Int) ∧ (j : Int) ≤ 7 ∧ 0 ≤ (j : Int) := by omega
      clear hst hown2
      go_wp2
      go_roundw
      case rel => exact ⟨j + 1, by omega, by go_num, by rw [HV.out]; exact HST.out.1, by rw [HV.out]; exact grown_trans hgr HST.out.2⟩
      case measure => simp [intOf]; omega
    · obtain rfl : j = k := by omega
      have hcell := hown2.cellAt l.length (by omega)
      rw [layN_all, u8v_get _ _ (by simp [rawB_length]; omega)] at hcell
      have e0 : by8 (l ++ rawB n j) l.length = ((rawAt n (j - 1)).toNat : Int) := by
        rw [by8_byt8]
        have := rawB_get n j 0 (by omega)
        rw [Nat.sub_zero] at this
        rw [← this]
        unfold byt8
        rw [List.getD_eq_getElem?_getD, List.getElem?_append_right (Nat.le_refl _), Nat.sub_self, List.getD_eq_getElem?_getD]
      rw [e0] at hcell
      have hfz := hown2.frozenAt l.length
      have HV := Lib.hid (mark_val n j HK.out HL.out)
      have hbr : Below w.heap.size w wr.drew := (hb4.trans ⟨hgr.os, hgr.tape, hgr.output, hgr.size, fun i hi => hgr.block i (by have := hb4.size; omega) (by simp; omega)⟩).drew
      have hTd := hT.below hbr
      have hst := (World.ownsRow.drew hown2).stored l.length (.int .u8 ((UInt8.ofNat (n.toNat / 256 ^ (j - 1) % 256 + markS j)).toNat : Int))
      rw [u8v_set, layN_all, numK_set l n j (by omega)] at hst
      have HST := Lib.hid hst
      have hx := (rawAt n (j - 1)).toNat_lt
      obtain ⟨cv, hcv⟩ : ∃ cv : Int, cv = ((rawAt n (j - 1)).toNat : Int) := ⟨_, rfl⟩
      rw [← hcv] at hcell HV
      have hcv8 : 0 ≤ cv ∧ cv ≤ 255 := by omega
      clear hst hown2 e0 hcv hx
      go_wp2
      go_region_with (go_at_call 131; refine (mark_c j HK.out ?_).mono ?_; exact hTd; rintro e w' ⟨rfl, rfl⟩)
      all_goals go_wp2
      all_goals go_ret
      all_goals refine ⟨_, rfl, ?_, (hbr.setCell (p := ⟨w.heap.size, l.length, none⟩) (Nat.le_refl _) _)⟩
      all_goals (rw [HV.out, HB.out]; unfold OwnB; rw [List.length_append, numK_length]; exact HST.out.1)
end Go.Proofs.YtioeimkaljmffaaGreatDoor
end

