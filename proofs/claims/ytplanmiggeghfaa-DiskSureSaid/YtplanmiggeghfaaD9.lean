/-
  Disk: the program's Make, Drop, Sync, Fail.
-/
import Derived.Test.YtplanmiggeghfaaD8
import Derived.Shelf.Abstract
namespace Go.Proofs.Ytplanmiggeghfaa
open Go.RowKit Go Go.Sort Go.Maps Go.WideMaps
set_option linter.unusedVariables false
set_option maxRecDepth 20000

theorem DPost.pre {q : Nat} {F : Nat → Prop} {v : Value} {st' : Ds} {w W w' : World} {e : Ending} (hb : Below w.heap.size w W) (h : DPost q F v st' W e w') : DPost q F v st' w e w' := by
  obtain ⟨he, F', hk, ht, hf⟩ := h
  exact ⟨he, F', hk, (Trn.of hb).then ht, fun k hk => (hf k hk).imp_right (fun h => Nat.le_trans hb.size h)⟩
theorem opd_F {st st' : Ds} (h : st'.F = st.F) : True := trivial
theorem enD {f : FuncId} {fn : Func} {c : Code} (hf : Try.prog.funcs[f]? = some fn) (hname : (fn.name == "runtime.NumGoroutine") = false) (hb : fn.body = some c) : ∀ args w, (callFunc f args).run Try.prog w = .ok (.enter f args) w := enters_of hf hname hb
theorem enNothing : ∀ args w, (callFunc 67 args).run Try.prog w = .ok (.enter 67 args) w := enD Try.func67 (by kernel_rfl) rfl
theorem find_none_mem {FS : List Fl} {nm : List UInt8} (h : FS.find? (fun x => x.f.nm == nm) = none) : ∀ x ∈ FS, x.f.nm ≠ nm := fun x hx e => by
  rw [List.find?_eq_none] at h
  exact h x hx (by simp [e])
theorem Trn.box {F : Nat → Prop} {W W' : World} {k n : Nat} {o : Obj} (h : Trn F W W') (hF : ∀ k, F k → k < n) (hn : n ≤ k) (hk : W.heap[k]? = some o) : W'.heap[k]? = some o := h.heap hk fun hf => by have := hF k hf; omega
set_option maxRecDepth 100000 in
set_option maxHeartbeats 6400000 in
theorem dmake_c {w : World} {q : Nat} {st : Ds} {F : Nat → Prop} (hk : Dk w q st F) (nm : List UInt8) (hn : nm.length ≤ 9223372036854775807) : Calls Try.prog 27 #[.pointer (some ⟨q, 0, none⟩), .string (text nm)] w (DPost q F (.int .i64 (st.make nm).1) (st.make nm).2 w) := by
  have HKK := Lib.hid hk
  obtain ⟨m, pv, FS, h, rfl⟩ := hk
  have hb := second_below w (.cells #[.pointer (some ⟨q, 0, none⟩)] 23) (.cells #[.string (text nm)] 9)
  have hv0 := heapB (heap_alloc_new w (.cells #[.pointer (some ⟨q, 0, none⟩)] 23)) (alloc_below _ (.cells #[.string (text nm)] 9))
  have hv1 := heap_alloc_new (w.alloc (.cells #[.pointer (some ⟨q, 0, none⟩)] 23)) (.cells #[.string (text nm)] 9)
  rw [World.size_alloc] at hv1
  have HD1 := Lib.hid (h.below hb)
  have HFL := Lib.hid (fun k (hk : foot q m pv FS k) => h.lt hk)
  have HG := Lib.hid (dgood_c nm hn)
  have HB := Lib.hid hb
  have HMK := Lib.hid (show st.make nm = if st.on = false then (150, st) else if goodNm nm = false then (2, st) else if (lookF st.F nm).isSome = true then (153, st) else if 64 ≤ st.F.length then (151, st) else st.opd (insF ⟨nm, [], 0⟩) id from rfl)
  have HLF := Lib.hid (h.lookF nm)
  have HLN := Lib.hid (show FS.length = st.F.length by rw [← h.pr]; simp)
  have HL2 := Lib.hid h.ok.len
  have HN := Lib.hid hn
  have HSB := Lib.hid (show w.heap.size = w.heap.size from rfl)
  have HV0 := Lib.hid hv0
  have HV1 := Lib.hid hv1
  have HT := Lib.hid (show ∃ s, text nm = s from ⟨_, rfl⟩)
  clear h hb hv0 hv1 hn
  cases hon : st.on with
  | false =>
    have HON := Lib.hid hon
    have HR := Lib.hid (show st.make nm = (150, st) by rw [HMK.out, if_pos hon])
    rw [HR.out]
    clear hon
    go_enter Try.func27, Try.ntmps27
    go_upto_region 1 with (fail)
    have v0 := var_c HV0.out
    generalize (w.alloc (.cells #[.pointer (some ⟨q, 0, none⟩)] 23)).alloc (.cells #[.string (text nm)] 9) = W1 at *
    go_wp2_with (go_at_call 61; (with_reducible refine (dready_c HD1.out false HON.out).mono ?_); rintro e9 w9 ⟨rfl, rfl⟩)
    go_ret
    exact (dk_same (⟨m, pv, FS, HD1.out, rfl⟩ : Dk W1 q st _) _).pre HB.out
  | true =>
    have HON := Lib.hid hon
    cases hg : goodNm nm with
    | false =>
      have HR := Lib.hid (show st.make nm = (2, st) by rw [HMK.out, if_neg (by simp [hon]), if_pos hg])
      rw [HR.out]
      rw [hg] at HG
      clear hon hg
      go_enter Try.func27, Try.ntmps27
      go_upto_region 1 with (fail)
      have v0 := var_c HV0.out
      have v1 := var_c HV1.out
      generalize (w.alloc (.cells #[.pointer (some ⟨q, 0, none⟩)] 23)).alloc (.cells #[.string (text nm)] 9) = W1 at *
      go_wp2_with (first
        | (go_at_call 61; (with_reducible refine (dready_c HD1.out true HON.out).mono ?_); rintro e9 w9 ⟨rfl, rfl⟩)
        | (go_at_call 13; (with_reducible refine (HG.out _).mono ?_); rintro e2 w2 ⟨rfl, hb2⟩))
      go_ret
      exact (dk_below (⟨m, pv, FS, HD1.out, rfl⟩ : Dk W1 q st _) hb2 _).pre HB.out
    | true =>
      rw [hg] at HG
      have HGN := Lib.hid hg
      have HLK := Lib.hid (fun W (hd : DiskIn W q m pv FS st) => hd.look nm HN.out)
      clear hon hg
      obtain ⟨pt, hpt⟩ : ∃ v, ptrF FS nm = v := ⟨_, rfl⟩
      simp only [hpt] at HLK
      have HPT := Lib.hid hpt
      clear hpt
      have hneq : (pt = .pointer none ∧ FS.find? (fun x => x.f.nm == nm) = none) ∨ ∃ g, pt = .pointer (some ⟨g, 0, none⟩) ∧ (lookF st.F nm).isSome = true := by
        have h1 := HPT.out
        unfold ptrF at h1
        cases hf : FS.find? (fun x => x.f.nm == nm) with
        | none => rw [hf] at h1; exact .inl ⟨h1.symm, rfl⟩
        | some x => rw [hf] at h1; exact .inr ⟨x.g, h1.symm, by rw [HLF.out, hf]; rfl⟩
      rcases hneq with ⟨rfl, hf⟩ | ⟨g, rfl, hf⟩
      · have HF := Lib.hid hf
        have HNS := Lib.hid (show (lookF st.F nm).isSome = false by rw [HLF.out, hf]; rfl)
        clear hf
        by_cases h64 : 64 ≤ st.F.length
        · have HR := Lib.hid (show st.make nm = (151, st) by rw [HMK.out, if_neg (by rw [HON.out]; simp), if_neg (by rw [HGN.out]; simp), if_neg (by rw [HNS.out]; simp), if_pos h64])
          rw [HR.out]
          have hl64 : ((FS.length : Nat) : Int) = 64 := by have := HLN.out; have := HL2.out; omega
          have HL64 := Lib.hid hl64
          clear h64 hl64
          go_enter Try.func27, Try.ntmps27
          go_upto_region 1 with (fail)
          have v0 := var_c HV0.out
          have v1 := var_c HV1.out
          generalize (w.alloc (.cells #[.pointer (some ⟨q, 0, none⟩)] 23)).alloc (.cells #[.string (text nm)] 9) = W1 at *
          go_upto_region 6 with (first
            | (go_at_call 61; (with_reducible refine (dready_c HD1.out true HON.out).mono ?_); rintro e9 w9 ⟨rfl, rfl⟩)
            | (go_at_call 13; (with_reducible refine (HG.out _).mono ?_); rintro e2 w2 ⟨rfl, hb2⟩; have HB2 := Lib.hid hb2; clear hb2 v0 v1))
          have HD2 := Lib.hid (HD1.out.below HB2.out)
          have k0 := cell_regrown (var_c (heapB HV0.out HB2.out))
          have k1 := cell_regrown (var_c (heapB HV1.out HB2.out))
          have k2 := cell_regrown HD2.out.cs.1
          have k3 := fun (d : Nat) (os : Array Obj) => HLK.out _ (HD2.out.below (below_regrown w2 d os))
          obtain ⟨tx, htx⟩ : ∃ s, text nm = s := ⟨_, rfl⟩
          rw [htx] at k1 k3
          refine wp_region_quiet_below (by kernel_rfl) (by kernel_rfl) ?_
          repeat (go_big_quiet_step (fail))
          refine wpQuiet_nil ?_
          intro _ hw'
          obtain ⟨⟨dq, osq⟩, hw''⟩ := hw'
          subst hw''
          have hbq := below_regrown w2 dq osq
          have HB3 := Lib.hid (HB2.out.trans (hbq.mono HB2.out.size))
          have HD3 := Lib.hid (HD2.out.below hbq)
          clear hbq k0 k1 k2 k3 htx
          generalize grow (redrawn w2 dq) osq = W3 at *
          have HSZ := Lib.hid (fun W (hd : DiskIn W q m pv FS st) (ty : TypeId) => hd.map.len Try.underlying82 ty)
          have hsz := HSZ.out _ HD3.out 3
          have hs2 : Maps.size (mapD FS) = FS.length := by unfold mapD mapL; simp [Maps.size]
          rw [hs2, HL64.out] at hsz
          have v0 := var_c (heapB HV0.out HB3.out)
          have c0 := HD3.out.cs.1
          clear hs2
          go_wp2
          go_ret
          exact (dk_below (⟨m, pv, FS, HD1.out, rfl⟩ : Dk W1 q st _) HB3.out _).pre HB.out
        · have HR := Lib.hid (show st.make nm = st.opd (insF ⟨nm, [], 0⟩) id by rw [HMK.out, if_neg (by rw [HON.out]; simp), if_neg (by rw [HGN.out]; simp), if_neg (by rw [HNS.out]; simp), if_neg h64])
          rw [HR.out]
          have hl64 : (((FS.length : Nat) : Int) == 64) = false := by have := HLN.out; simp; omega
          have HL64 := Lib.hid hl64
          have HLT := Lib.hid (show FS.length < 64 by have := HLN.out; omega)
          clear h64 hl64
          go_enter Try.func27, Try.ntmps27
          go_upto_region 1 with (fail)
          have v0 := var_c HV0.out
          have v1 := var_c HV1.out
          generalize (w.alloc (.cells #[.pointer (some ⟨q, 0, none⟩)] 23)).alloc (.cells #[.string (text nm)] 9) = W1 at *
          go_upto_region 6 with (first
            | (go_at_call 61; (with_reducible refine (dready_c HD1.out true HON.out).mono ?_); rintro e9 w9 ⟨rfl, rfl⟩)
            | (go_at_call 13; (with_reducible refine (HG.out _).mono ?_); rintro e2 w2 ⟨rfl, hb2⟩; have HB2 := Lib.hid hb2; clear hb2 v0 v1))
          have HD2 := Lib.hid (HD1.out.below HB2.out)
          have k0 := cell_regrown (var_c (heapB HV0.out HB2.out))
          have k1 := cell_regrown (var_c (heapB HV1.out HB2.out))
          have k2 := cell_regrown HD2.out.cs.1
          have k3 := fun (d : Nat) (os : Array Obj) => HLK.out _ (HD2.out.below (below_regrown w2 d os))
          obtain ⟨tx, htx⟩ : ∃ s, text nm = s := ⟨_, rfl⟩
          rw [htx] at k1 k3
          refine wp_region_quiet_below (by kernel_rfl) (by kernel_rfl) ?_
          repeat (go_big_quiet_step (fail))
          refine wpQuiet_nil ?_
          intro _ hw'
          obtain ⟨⟨dq, osq⟩, hw''⟩ := hw'
          subst hw''
          have hbq := below_regrown w2 dq osq
          have HB3 := Lib.hid (HB2.out.trans (hbq.mono HB2.out.size))
          have HD3 := Lib.hid (HD2.out.below hbq)
          clear hbq k0 k1 k2 k3 htx
          generalize grow (redrawn w2 dq) osq = W3 at *
          have HSZ := Lib.hid (fun W (hd : DiskIn W q m pv FS st) (ty : TypeId) => hd.map.len Try.underlying82 ty)
          have hsz := HSZ.out _ HD3.out 3
          have hs2 : Maps.size (mapD FS) = FS.length := by unfold mapD mapL; simp [Maps.size]
          rw [hs2] at hsz
          have hl9 := HL64.out
          have v0 := var_c (heapB HV0.out HB3.out)
          have c0 := HD3.out.cs.1
          have HE0 := Lib.hid (enD Try.func68 (by kernel_rfl) rfl)
          have hH0 := heapB HV0.out HB3.out
          have hH1 := heapB HV1.out HB3.out
          have HOP := Lib.hid (doperate20_c HD3.out HE0.out enNothing (x0 := .pointer (some ⟨w.heap.size, 0, none⟩)) (x1 := .pointer (some ⟨w.heap.size + 1, 0, none⟩)) (insF ⟨nm, [], 0⟩) id
            (fun W st' ht hF hd => dmake1_c hd (ht.box HFL.out (Nat.le_refl _) hH0) (ht.box HFL.out (by omega) hH1) (find_none_mem HF.out) HGN.out HLT.out)
            (fun W st' ht hF hd => dnothing_c hd))
          clear hs2 hH0 hH1
          go_wp2_with (go_at_call 65; (with_reducible refine HOP.out.mono ?_); rintro e5 w5 ⟨rfl, F5, hk5, ht5, hf5⟩; have HP5 := Lib.hid (And.intro hk5 (And.intro ht5 hf5)); clear hk5 ht5 hf5)
          go_ret
          exact DPost.pre HB.out (DPost.pre HB3.out ⟨rfl, F5, HP5.out⟩)
      · have HR := Lib.hid (show st.make nm = (153, st) by rw [HMK.out, if_neg (by rw [HON.out]; simp), if_neg (by rw [HGN.out]; simp), if_pos hf])
        rw [HR.out]
        clear hf
        go_enter Try.func27, Try.ntmps27
        go_upto_region 1 with (fail)
        have v0 := var_c HV0.out
        have v1 := var_c HV1.out
        generalize (w.alloc (.cells #[.pointer (some ⟨q, 0, none⟩)] 23)).alloc (.cells #[.string (text nm)] 9) = W1 at *
        go_upto_region 6 with (first
          | (go_at_call 61; (with_reducible refine (dready_c HD1.out true HON.out).mono ?_); rintro e9 w9 ⟨rfl, rfl⟩)
          | (go_at_call 13; (with_reducible refine (HG.out _).mono ?_); rintro e2 w2 ⟨rfl, hb2⟩; have HB2 := Lib.hid hb2; clear hb2 v0 v1))
        have HD2 := Lib.hid (HD1.out.below HB2.out)
        have k0 := cell_regrown (var_c (heapB HV0.out HB2.out))
        have k1 := cell_regrown (var_c (heapB HV1.out HB2.out))
        have k2 := cell_regrown HD2.out.cs.1
        have k3 := fun (d : Nat) (os : Array Obj) => HLK.out _ (HD2.out.below (below_regrown w2 d os))
        obtain ⟨tx, htx⟩ : ∃ s, text nm = s := ⟨_, rfl⟩
        rw [htx] at k1 k3
        refine wp_region_quiet_below (by kernel_rfl) (by kernel_rfl) ?_
        repeat (go_big_quiet_step (fail))
        refine wpQuiet_nil ?_
        intro _ hw'
        obtain ⟨⟨dq, osq⟩, hw''⟩ := hw'
        subst hw''
        have hbq := below_regrown w2 dq osq
        have HB3 := Lib.hid (HB2.out.trans (hbq.mono HB2.out.size))
        have HD3 := Lib.hid (HD2.out.below hbq)
        clear hbq k0 k1 k2 k3 htx
        generalize grow (redrawn w2 dq) osq = W3 at *
        go_wp2
        go_ret
        exact (dk_below (⟨m, pv, FS, HD1.out, rfl⟩ : Dk W1 q st _) HB3.out _).pre HB.out
set_option maxRecDepth 100000 in
set_option maxHeartbeats 6400000 in
theorem ddrop_c {w : World} {q : Nat} {st : Ds} {F : Nat → Prop} (hk : Dk w q st F) (nm : List UInt8) (hn : nm.length ≤ 9223372036854775807) : Calls Try.prog 26 #[.pointer (some ⟨q, 0, none⟩), .string (text nm)] w (DPost q F (.int .i64 (st.drop nm).1) (st.drop nm).2 w) := by
  obtain ⟨m, pv, FS, h, rfl⟩ := hk
  have hb := second_below w (.cells #[.pointer (some ⟨q, 0, none⟩)] 23) (.cells #[.string (text nm)] 9)
  have hv0 := heapB (heap_alloc_new w (.cells #[.pointer (some ⟨q, 0, none⟩)] 23)) (alloc_below _ (.cells #[.string (text nm)] 9))
  have hv1 := heap_alloc_new (w.alloc (.cells #[.pointer (some ⟨q, 0, none⟩)] 23)) (.cells #[.string (text nm)] 9)
  rw [World.size_alloc] at hv1
  have HV0 := Lib.hid hv0
  have HV1 := Lib.hid hv1
  clear hv0 hv1
  have HD1 := Lib.hid (h.below hb)
  have HFL := Lib.hid (fun k (hk : foot q m pv FS k) => h.lt hk)
  have HB := Lib.hid hb
  have HLF := Lib.hid (h.lookF nm)
  have HN := Lib.hid hn
  have HOK := Lib.hid h.ok
  clear h hb hn
  cases hon : st.on with
  | false =>
    have HON := Lib.hid hon
    have HR := Lib.hid (show st.drop nm = (150, st) by unfold Ds.drop; rw [if_pos hon])
    rw [HR.out]
    clear hon
    go_enter Try.func26, Try.ntmps26
    go_upto_region 1 with (fail)
    try have v0 := var_c HV0.out
    try have v1 := var_c HV1.out
    obtain ⟨W1, hW1⟩ : ∃ X, (w.alloc (.cells #[.pointer (some ⟨q, 0, none⟩)] 23)).alloc (.cells #[.string (text nm)] 9) = X := ⟨_, rfl⟩
    try rw [hW1]
    rw [hW1] at HD1 HB
    try rw [hW1] at v0
    try rw [hW1] at v1
    try rw [hW1] at HV0
    try rw [hW1] at HV1
    clear hW1
    go_wp2_with (go_at_call 59; (with_reducible refine (dfind_off HD1.out _ HON.out).mono ?_); rintro e9 w9 ⟨rfl, rfl⟩)
    go_ret
    first
      | exact (dk_same (⟨m, pv, FS, HD1.out, rfl⟩ : Dk W1 q st _) _).pre HB.out
      | exact (dk_below (⟨m, pv, FS, HD1.out, rfl⟩ : Dk W1 q st _) (alloc_below _ _) _).pre HB.out
  | true =>
    have HON := Lib.hid hon
    cases hf : FS.find? (fun x => x.f.nm == nm) with
    | none =>
      have HF := Lib.hid hf
      have HR := Lib.hid (show st.drop nm = (152, st) by unfold Ds.drop; rw [if_neg (by simp [hon]), HLF.out, hf]; rfl)
      rw [HR.out]
      clear hon hf
      go_enter Try.func26, Try.ntmps26
      go_upto_region 1 with (fail)
      try have v0 := var_c HV0.out
      try have v1 := var_c HV1.out
      obtain ⟨W1, hW1⟩ : ∃ X, (w.alloc (.cells #[.pointer (some ⟨q, 0, none⟩)] 23)).alloc (.cells #[.string (text nm)] 9) = X := ⟨_, rfl⟩
      try rw [hW1]
      rw [hW1] at HD1 HB
      try rw [hW1] at v0
      try rw [hW1] at v1
      try rw [hW1] at HV0
      try rw [hW1] at HV1
      clear hW1
      obtain ⟨tx, htx⟩ : ∃ s, text nm = s := ⟨_, rfl⟩
      have HFN := Lib.hid (dfind_none HD1.out nm HN.out HON.out HF.out)
      rw [htx] at HFN ⊢
      try rw [htx] at v1
      clear htx
      go_wp2_with (go_at_call 59; (with_reducible refine HFN.out.mono ?_); rintro e9 w9 ⟨rfl, rfl⟩)
      go_ret
      first
        | exact (dk_same (⟨m, pv, FS, HD1.out, rfl⟩ : Dk W1 q st _) _).pre HB.out
        | exact (dk_below (⟨m, pv, FS, HD1.out, rfl⟩ : Dk W1 q st _) (alloc_below _ _) _).pre HB.out
    | some x =>
      have HF := Lib.hid hf
      have HLS := Lib.hid (show lookF st.F nm = some x.f by rw [HLF.out, hf]; rfl)
      have HR := Lib.hid (show st.drop nm = st.opd (delF nm) id by unfold Ds.drop; rw [if_neg (by simp [hon]), HLS.out])
      rw [HR.out]
      clear hon hf
      go_enter Try.func26, Try.ntmps26
      go_upto_region 1 with (fail)
      try have v0 := var_c HV0.out
      try have v1 := var_c HV1.out
      obtain ⟨W1, hW1⟩ : ∃ X, (w.alloc (.cells #[.pointer (some ⟨q, 0, none⟩)] 23)).alloc (.cells #[.string (text nm)] 9) = X := ⟨_, rfl⟩
      try rw [hW1]
      rw [hW1] at HD1 HB
      try rw [hW1] at v0
      try rw [hW1] at v1
      try rw [hW1] at HV0
      try rw [hW1] at HV1
      clear hW1
      have HE0 := Lib.hid (enD Try.func66 (by kernel_rfl) rfl)
      have HOP := Lib.hid (doperate20_c HD1.out HE0.out enNothing (x0 := .pointer (some ⟨w.heap.size, 0, none⟩)) (x1 := .pointer (some ⟨w.heap.size + 1, 0, none⟩)) (delF nm) id
        (fun W st' ht hF hd => ddrop1_c hd (ht.box HFL.out (Nat.le_refl _) HV0.out) (ht.box HFL.out (by omega) HV1.out) HN.out)
        (fun W st' ht hF hd => dnothing_c hd))
      have HFN := Lib.hid (dfind_some HD1.out nm HN.out HON.out HF.out)
      obtain ⟨tx, htx⟩ : ∃ s, text nm = s := ⟨_, rfl⟩
      rw [htx] at HFN v1 ⊢
      clear htx
      go_wp2_with (first
        | (go_at_call 59; (with_reducible refine HFN.out.mono ?_); rintro e9 w9 ⟨rfl, rfl⟩)
        | (go_at_call 65; (with_reducible refine HOP.out.mono ?_); rintro e5 w5 ⟨rfl, F5, hk5, ht5, hf5⟩; have HP5 := Lib.hid (And.intro hk5 (And.intro ht5 hf5)); clear hk5 ht5 hf5))
      go_ret
      exact DPost.pre HB.out ⟨rfl, F5, HP5.out⟩
set_option maxRecDepth 100000 in
set_option maxHeartbeats 6400000 in
theorem dsync_c {w : World} {q : Nat} {st : Ds} {F : Nat → Prop} (hk : Dk w q st F) (nm : List UInt8) (hn : nm.length ≤ 9223372036854775807) : Calls Try.prog 29 #[.pointer (some ⟨q, 0, none⟩), .string (text nm)] w (DPost q F (.int .i64 (st.sync nm).1) (st.sync nm).2 w) := by
  obtain ⟨m, pv, FS, h, rfl⟩ := hk
  have hb := Below.refl w.heap.size w
  have HD1 := Lib.hid (h.below hb)
  have HFL := Lib.hid (fun k (hk : foot q m pv FS k) => h.lt hk)
  have HB := Lib.hid hb
  have HLF := Lib.hid (h.lookF nm)
  have HN := Lib.hid hn
  have HOK := Lib.hid h.ok
  clear h hb hn
  cases hon : st.on with
  | false =>
    have HON := Lib.hid hon
    have HR := Lib.hid (show st.sync nm = (150, st) by unfold Ds.sync; rw [if_pos hon])
    rw [HR.out]
    clear hon
    go_enter Try.func29, Try.ntmps29
    go_upto_region 1 with (fail)
    skip
    go_wp2_with (go_at_call 59; (with_reducible refine (dfind_off HD1.out _ HON.out).mono ?_); rintro e9 w9 ⟨rfl, rfl⟩)
    go_ret
    first
      | exact (dk_same (⟨m, pv, FS, HD1.out, rfl⟩ : Dk w q st _) _).pre HB.out
      | exact (dk_below (⟨m, pv, FS, HD1.out, rfl⟩ : Dk w q st _) (alloc_below _ _) _).pre HB.out
  | true =>
    have HON := Lib.hid hon
    cases hf : FS.find? (fun x => x.f.nm == nm) with
    | none =>
      have HF := Lib.hid hf
      have HR := Lib.hid (show st.sync nm = (152, st) by unfold Ds.sync; rw [if_neg (by simp [hon]), HLF.out, hf]; rfl)
      rw [HR.out]
      clear hon hf
      go_enter Try.func29, Try.ntmps29
      go_upto_region 1 with (fail)
      skip
      obtain ⟨tx, htx⟩ : ∃ s, text nm = s := ⟨_, rfl⟩
      have HFN := Lib.hid (dfind_none HD1.out nm HN.out HON.out HF.out)
      rw [htx] at HFN ⊢
      try rw [htx] at v1
      clear htx
      go_wp2_with (go_at_call 59; (with_reducible refine HFN.out.mono ?_); rintro e9 w9 ⟨rfl, rfl⟩)
      go_ret
      first
        | exact (dk_same (⟨m, pv, FS, HD1.out, rfl⟩ : Dk w q st _) _).pre HB.out
        | exact (dk_below (⟨m, pv, FS, HD1.out, rfl⟩ : Dk w q st _) (alloc_below _ _) _).pre HB.out
    | some x =>
      have HF := Lib.hid hf
      have HLS := Lib.hid (show lookF st.F nm = some x.f by rw [HLF.out, hf]; rfl)
      have HR := Lib.hid (show st.sync nm = st.opd (setF nm fun f => ⟨f.nm, f.b, f.b.length⟩) id by unfold Ds.sync; rw [if_neg (by simp [hon]), HLS.out])
      rw [HR.out]
      clear hon hf
      have HFN := Lib.hid (dfind_some HD1.out nm HN.out HON.out HF.out)
      have HB4 := Lib.hid (alloc_below w (.cells #[.pointer (some ⟨x.g, 0, none⟩)] 94))
      have HV4 := Lib.hid (heap_alloc_new w (.cells #[.pointer (some ⟨x.g, 0, none⟩)] 94))
      have HE0 := Lib.hid (enD Try.func70 (by kernel_rfl) rfl)
      have HOP := Lib.hid (doperate10_c (HD1.out.below HB4.out) HE0.out enNothing (x0 := .pointer (some ⟨w.heap.size, 0, none⟩)) (setF nm fun f => ⟨f.nm, f.b, f.b.length⟩) id
        (fun W st' ht hF hd => dsync1_c hd HF.out (ht.box HFL.out (Nat.le_refl _) HV4.out))
        (fun W st' ht hF hd => dnothing_c hd))
      obtain ⟨xg, hxg⟩ : ∃ n, x.g = n := ⟨_, rfl⟩
      rw [hxg] at HFN HB4 HV4 HOP
      obtain ⟨tx, htx⟩ : ∃ s, text nm = s := ⟨_, rfl⟩
      rw [htx] at HFN ⊢
      clear htx hxg
      go_enter Try.func29, Try.ntmps29
      go_wp2_with (first
        | (go_at_call 59; (with_reducible refine HFN.out.mono ?_); rintro e9 w9 ⟨rfl, rfl⟩)
        | (go_at_call 65; (with_reducible refine HOP.out.mono ?_); rintro e5 w5 ⟨rfl, F5, hk5, ht5, hf5⟩; have HP5 := Lib.hid (And.intro hk5 (And.intro ht5 hf5)); clear hk5 ht5 hf5))
      go_ret
      exact DPost.pre HB4.out ⟨rfl, F5, HP5.out⟩
set_option maxHeartbeats 1600000 in
theorem dfail_c {w : World} {q : Nat} {st : Ds} {F : Nat → Prop} (hk : Dk w q st F) (keep : Int) : Calls Try.prog 22 #[.pointer (some ⟨q, 0, none⟩), .int .i64 keep] w (DPost q F (.int .i64 (st.fail keep).1) (st.fail keep).2 w) := by
  obtain ⟨m, pv, FS, h, rfl⟩ := hk
  have HD1 := Lib.hid h
  cases hon : st.on with
  | false =>
    have HON := Lib.hid hon
    have HR := Lib.hid (show st.fail keep = (150, st) by unfold Ds.fail; rw [if_pos hon])
    rw [HR.out]
    clear hon h
    go_enter Try.func22, Try.ntmps22
    go_wp2_with (go_at_call 61; (with_reducible refine (dready_c HD1.out false HON.out).mono ?_); rintro e9 w9 ⟨rfl, rfl⟩)
    go_ret
    exact dk_same (⟨m, pv, FS, HD1.out, rfl⟩ : Dk w q st _) _
  | true =>
    have HON := Lib.hid hon
    have HR := Lib.hid (show st.fail keep = (0, st.lost keep st.F) by unfold Ds.fail; rw [if_neg (by simp [hon])])
    rw [HR.out]
    have HL := Lib.hid (dlose_c h keep)
    clear hon h
    go_enter Try.func22, Try.ntmps22
    go_wp2_with (first
      | (go_at_call 61; (with_reducible refine (dready_c HD1.out true HON.out).mono ?_); rintro e9 w9 ⟨rfl, rfl⟩)
      | (go_at_call 62; (with_reducible refine HL.out.mono ?_); rintro e5 w5 ⟨rfl, F5, hk5, ht5, hf5⟩; have HP5 := Lib.hid (And.intro hk5 (And.intro ht5 hf5)); clear hk5 ht5 hf5))
    go_ret
    exact ⟨rfl, F5, HP5.out⟩
end Go.Proofs.Ytplanmiggeghfaa
