/-
  Cell: the walk of CellBack.
-/
import Derived.Test.YtkhihfpdghjfmaaDoorKI
import Derived.Test.YtkhihfpdghjfmaaDoorKG
namespace Go.Proofs.YtkhihfpdghjfmaaDoor
open Go.RowKit Go Go.Sort
set_option linter.unusedVariables false
set_option maxRecDepth 20000

/-- What is got of bytes is put as it was. -/
theorem cget_put {l : List UInt8} {p k n' s' a' b' d' e' : Int} {g' : Bool} {t' : List UInt8} (h : cgetS l p = (⟨n', s', a', b', g', t', d', e'⟩, k, 0)) : ∃ q : Nat, k = (q : Int) ∧ q ≤ l.length ∧ cputS [] p ⟨n', s', a', b', g', t', d', e'⟩ = l.take q ∧ t'.length ≤ 6000 := by
  obtain ⟨q, h1, h2, h3, h4⟩ := cget_ok (l := l) (p := p) (by rw [h])
  rw [h] at h1 h3 h4
  refine ⟨q, h1, h2, ?_, ?_⟩
  · unfold cputS; rw [if_pos h3]; exact h4
  · obtain ⟨-, hw, -, hn⟩ := good_parts h3
    cases hwr : Cl.wrote ⟨n', s', a', b', g', t', d', e'⟩ with
    | true => have := (hw hwr).2.2.1; simp only at this; omega
    | false => have := (hn hwr).2.2.2.2.2; simp only at this; subst this; decide

set_option maxRecDepth 100000 in
set_option maxHeartbeats 12800000 in
theorem cback_walk {w : World} {ad : Option Addr} {m cap : Nat} {l : List UInt8} (hl : Bys w ad m cap l) (p n s a b : Int) (g : Bool) (t : List UInt8) (d e : Int) (hmax : t.length ≤ 9223372036854775807) (hT : TabW w) :
    Calls Tryd.prog 11 #[.int .i64 p, .agg #[.int .i64 n, .int .i64 s, .int .i64 a, .int .i64 b, .bool g, .string (text t), .int .i64 d, .int .i64 e], .slice ad m cap] w (Tells (.bool true) w) := by
  obtain ⟨i0, hi, hz0, hz1, hz2⟩ := info_parts Tryd.info5
  have hlen := hl.len
  have hle := hl.le
  have hmx := hl.max
  have hp := Cel.new w n s a b g t d e
  have HB := Lib.hid (alloc_below w (.cells #[.int .i64 n, .int .i64 s, .int .i64 a, .int .i64 b, .bool g, .string (text t), .int .i64 d, .int .i64 e] 61))
  have HLv := Lib.hid (fun W (h : Below w.heap.size w W) => clives_c (hT.below h))
  have hsz : ((text t).size : Int) = (t.length : Int) := by rw [text_size]
  have HL := Lib.hid (fun W (h : Below w.heap.size w W) => hl.below h)
  have hGT := fun W (h : Below w.heap.size w W) => cget_c (hl.below h) p
  have hGG := fun W => cgood_c p n s a b g t d e hmax W
  have hPT := fun (h2 : t.length ≤ 6000) W (h : Below w.heap.size w W) => cput_c (none_bys W) (by omega) (hT.below h) p n s a b g t d e h2
  have HPP := Lib.hid (fun (n s a b : Int) (g : Bool) (t : List UInt8) (d e : Int) (h2 : t.length ≤ 6000) W (h : Below w.heap.size w W) => cput_c (none_bys W) (by omega) (hT.below h) p n s a b g t d e h2)
  have hXg := (show cputS [] p ⟨n, s, a, b, g, t, d, e⟩ = if cgoodS p n s a b g t d e = true then layS [] ⟨n, s, a, b, g, t, d, e⟩ else [] from rfl)
  have hXl := lay_le [] ⟨n, s, a, b, g, t, d, e⟩
  have hbk := fun (h : cgoodS p n s a b g t d e = true) => cget_back (c := ⟨n, s, a, b, g, t, d, e⟩) (p := p) h l
  obtain ⟨X, hX⟩ : ∃ q, cputS [] p ⟨n, s, a, b, g, t, d, e⟩ = q := ⟨_, rfl⟩
  obtain ⟨G, hG⟩ : ∃ q, cgoodS p n s a b g t d e = q := ⟨_, rfl⟩
  rw [hX] at hPT hXg
  rw [hG] at hGG hbk hXg
  have HPT := Lib.hid hPT
  have HGG := Lib.hid hGG
  obtain ⟨L, hL⟩ : ∃ L, t.length = L := ⟨_, rfl⟩
  rw [hL] at hsz HPT
  have hcp := @cget_put l p
  obtain ⟨⟨⟨n', s', a', b', g', t', d', e'⟩, k, f⟩, hx⟩ : ∃ q, cgetS l p = q := ⟨_, rfl⟩
  rw [hx] at hGT
  have HGT := Lib.hid (show ∀ W (h : Below w.heap.size w W), Calls Tryd.prog 38 #[.slice ad m cap, .int .i64 p] W (Tells (.tuple #[.agg #[.int .i64 n', .int .i64 s', .int .i64 a', .int .i64 b', .bool g', .string (text t'), .int .i64 d', .int .i64 e'], .int .i64 k, .int .i64 f]) W) from hGT)
  have HCP := Lib.hid (fun (h : f = 0) => hcp (by rw [hx, h]))
  have hcne := cell_neb n s a b g t d e n s a b g t d e true (cellEq_self ..)
  have hcng := cell_eqg .neq
  have hcv := fun (W : World) (a3 : Option Addr) (c3 : Nat) (X3 : List UInt8) (n3 : Nat) (h3 : Bys W a3 n3 c3 X3) => conv_bys (P := Tryd.prog) h3 Tryd.underlying34 Tryd.underlying5 Tryd.underlying9
  have HCV := Lib.hid hcv
  have HXG := Lib.hid hXg
  have HXL := Lib.hid (show (layS [] ⟨n, s, a, b, g, t, d, e⟩).length ≤ 56 + L by simp only at hXl; rw [hL] at hXl; simpa using hXl)
  have HBK := Lib.hid hbk
  clear hPT hcv hXg hXl hbk hcp hX hG hmax hL hx hT hGT hGG hl
  go_enter Tryd.func11, Tryd.ntmps11
  go_upto_region 1 with (fail)
  obtain ⟨gc, hgc⟩ : ∃ q, w.heap.size = q := ⟨_, rfl⟩
  rw [hgc] at hp ⊢
  clear hgc
  generalize w.alloc (.cells #[.int .i64 n, .int .i64 s, .int .i64 a, .int .i64 b, .bool g, .string (text t), .int .i64 d, .int .i64 e] 61) = W1 at *
  have HCW := Lib.hid (fun W (h : Below W1.heap.size W1 W) => hp.kept h)
  obtain ⟨c0, c1, c2, c3, c4, c5, c6, c7⟩ := hp.cs
  have hcur := Below.refl W1.heap.size W1
  clear hp
  by_cases h1 : 5000 < m
  · have h1i : (5000 : Int) < (m : Int) := by omega
    go_wp2_with (go_at_call 35; (with_reducible refine (HLv.out _ (HB.out.trans (hcur.mono HB.out.size))).mono ?_); rintro e9 w9 ⟨rfl, hb9⟩; (replace hcur := hcur.trans (hb9.mono hcur.size)); clear hb9)
    go_ret
    exact ⟨rfl, HB.out.trans (hcur.mono HB.out.size)⟩
  · have h1i : ¬ (5000 : Int) < (m : Int) := by omega
    by_cases h2 : 5000 < L
    · have h2i : (5000 : Int) < (L : Int) := by omega
      go_wp2_with (go_at_call 35; (with_reducible refine (HLv.out _ (HB.out.trans (hcur.mono HB.out.size))).mono ?_); rintro e9 w9 ⟨rfl, hb9⟩; (replace hcur := hcur.trans (hb9.mono hcur.size)); clear hb9)
      go_ret
      exact ⟨rfl, HB.out.trans (hcur.mono HB.out.size)⟩
    · have h2i : ¬ (5000 : Int) < (L : Int) := by omega
      have HPT := Lib.hid (HPT.out (by omega))
      go_upto_region 4 with (go_at_call 40; (with_reducible refine (HPT.out _ HB.out).mono ?_); rintro e9 w2 ⟨v2, rfl, ho2, hb2⟩)
      replace hcur := hcur.trans (hb2.mono hcur.size)
      obtain ⟨ax, cx, rfl, y1⟩ := ho2.bys
      obtain ⟨c0, c1, c2, c3, c4, c5, c6, c7⟩ := (HCW.out _ hcur).cs
      have Y1 := Lib.hid (fun W (h : Below w2.heap.size w2 W) => y1.below h)
      clear y1 ho2
      have HB2 := Lib.hid hb2
      clear hb2
      cases G with
      | false =>
        have hX0 : X = [] := by rw [HXG.out]; rfl
        subst hX0
        clear HXG HXL HBK Y1 HB2
        go_upto_region 10 with (go_at_call 31; (with_reducible refine (HGG.out _).mono ?_); rintro e9 w9 ⟨rfl, hb9⟩; (replace hcur := hcur.trans (hb9.mono hcur.size)); clear hb9; obtain ⟨c0, c1, c2, c3, c4, c5, c6, c7⟩ := (HCW.out _ hcur).cs)
        have HB := Lib.hid (HB.out.trans (hcur.mono HB.out.size))
        clear hcur c0 c1 c2 c3 c4 c5 c6 c7 HCW
        go_upto_region 11 with (go_at_call 38; (with_reducible refine (HGT.out _ HB.out).mono ?_); rintro e9 w6 ⟨rfl, hb6⟩)
        have hd := Cel.new w6 n' s' a' b' g' t' d' e'
        have HB := Lib.hid ((HB.out.trans (hb6.mono HB.out.size)).alloc (Nat.le_trans HB.out.size hb6.size) (.cells #[.int .i64 n', .int .i64 s', .int .i64 a', .int .i64 b', .bool g', .string (text t'), .int .i64 d', .int .i64 e'] 61))
        obtain ⟨gd, hgd⟩ : ∃ q, w6.heap.size = q := ⟨_, rfl⟩
        rw [hgd] at hd ⊢
        clear hgd hb6 HGT
        generalize w6.alloc (.cells #[.int .i64 n', .int .i64 s', .int .i64 a', .int .i64 b', .bool g', .string (text t'), .int .i64 d', .int .i64 e'] 61) = W6 at *
        have HCX := Lib.hid (fun W (h : Below W6.heap.size W6 W) => (hd.kept h).cs)
        clear hd
        by_cases hf : f = 0
        · subst hf
          obtain ⟨q, rfl, hql, hpe, htl⟩ := HCP.out (by simp)
          have hqm : q ≤ m := by omega
          have hqi : ¬ (m : Int) < (q : Int) := by omega
          have hsl := slice_to (HL.out _ HB.out) (q := q) hqm
          have hPX := HPP.out n' s' a' b' g' t' d' e' htl
          obtain ⟨Y1, hY1⟩ : ∃ Z, l.take q = Z := ⟨_, rfl⟩
          rw [hpe, hY1] at hPX
          have htb : ((text Y1).toList == (text Y1).toList) = true := by simp
          have htn : ((text Y1).toList != (text Y1).toList) = false := by simp
          obtain ⟨T1, hT1⟩ : ∃ Z, text Y1 = Z := ⟨_, rfl⟩
          rw [hT1] at htb htn
          have HPX := Lib.hid hPX
          have HQ := Lib.hid hqm
          have HCV := Lib.hid (fun (W : World) (a3 : Option Addr) (c3 : Nat) (n3 : Nat) (h3 : Bys W a3 n3 c3 Y1) => by have := HCV.out W a3 c3 Y1 n3 h3; rwa [hT1] at this)
          have HYQ := Lib.hid (fun (W : World) (h : Bys W ad m cap l) => by have := h.take hqm; rwa [hY1] at this)
          clear hql hpe htl hqm hPX hY1 hT1 HPP HCP
          refine wp_region_flow [none, none, none, none, none, none, none, none, none, none, none, none, none, none, none, none, none, none, none, none, none, none, none, none, none, none, none, none, none, none, none, none, none, none, none, none, none, none, none, none, none, none, none, none, none, none, none, none, none, none, none, none, none, none, none, none, none, none, none, none, none, none, none, none, some 0, some 1, some 2, some 3, some 4, some 5, some 6, some 7, some 8, some 9, some 10, some 11, some 12, some 13, some 14, some 15, some 16, some 17, some 18, none] (fun i => [undef, undef, undef, undef, undef, undef, undef, undef, undef, undef, undef, undef, undef, undef, undef, undef, undef, undef, undef].getD i undef) [(fun v _ => v = .int .i64 0), (fun v _ => v = .bool true), (fun v _ => v = .bool true), (fun v _ => v = .int .i64 (q : Int)), (fun v _ => v = .slice ad m cap), (fun v _ => v = .int .i64 (m : Int)), (fun v _ => v = .bool false), (fun v _ => v = .bool false), (fun v _ => v = .int .i64 p), (fun v _ => v = .agg #[.int .i64 n', .int .i64 s', .int .i64 a', .int .i64 b', .bool g', .string (text t'), .int .i64 d', .int .i64 e']), (fun v W => OwnB W 0 5 v Y1), (fun v _ => v = .string T1), (fun v _ => v = .slice ad m cap), (fun v _ => v = .int .i64 (q : Int)), (fun v _ => v = .slice ad q cap), (fun v _ => v = .string T1), (fun v _ => v = .bool false), (fun v _ => v = .bool false), (fun v _ => v = .bool false)] (by kernel_rfl) (by kernel_rfl) rfl rfl rfl ?_ ?_ ?_
          · intro g hg v X Y hX hY hv
            simp only [List.mem_cons, List.not_mem_nil, or_false] at hg
            rcases hg with rfl | rfl | rfl | rfl | rfl | rfl | rfl | rfl | rfl | rfl | rfl | rfl | rfl | rfl | rfl | rfl | rfl | rfl | rfl
            all_goals first
              | exact hv
              | exact hv.kept hY
          · simp only [flowOps, and_true]
            refine ⟨?_, ?_, ?_, ?_, ?_, ?_, ?_, ?_, ?_, ?_, ?_, ?_, ?_, ?_, ?_, ?_, ?_, ?_, ?_⟩
            · intro xs W hW hn
              simp only [flowAct, List.zipWith_cons_cons, List.zipWith_nil_left]
              go_wp2_with (fail)
              exact ⟨rfl, _, rfl, Below.refl _ _, rfl⟩
            · intro xs W hW hn
              simp [flowNeeds, Region.binds] at hn
              simp only [flowAct, List.zipWith_cons_cons, List.zipWith_nil_left]
              try simp only [hn]
              go_wp2_with (fail)
              exact ⟨rfl, _, rfl, Below.refl _ _, rfl⟩
            · intro xs W hW hn
              simp [flowNeeds, Region.binds] at hn
              simp only [flowAct, List.zipWith_cons_cons, List.zipWith_nil_left]
              try simp only [hn]
              go_wp2_with (fail)
              exact ⟨rfl, _, rfl, Below.refl _ _, rfl⟩
            · intro xs W hW hn
              simp [flowNeeds, Region.binds] at hn
              simp only [flowAct, List.zipWith_cons_cons, List.zipWith_nil_left]
              try simp only [hn]
              go_wp2_with (fail)
              exact ⟨rfl, _, rfl, Below.refl _ _, rfl⟩
            · intro xs W hW hn
              simp [flowNeeds, Region.binds] at hn
              simp only [flowAct, List.zipWith_cons_cons, List.zipWith_nil_left]
              try simp only [hn]
              go_wp2_with (fail)
              exact ⟨rfl, _, rfl, Below.refl _ _, rfl⟩
            · intro xs W hW hn
              simp [flowNeeds, Region.binds] at hn
              simp only [flowAct, List.zipWith_cons_cons, List.zipWith_nil_left]
              try simp only [hn]
              go_wp2_with (fail)
              exact ⟨rfl, _, rfl, Below.refl _ _, rfl⟩
            · intro xs W hW hn
              simp [flowNeeds, Region.binds] at hn
              simp only [flowAct, List.zipWith_cons_cons, List.zipWith_nil_left]
              try simp only [hn]
              go_wp2_with (fail)
              exact ⟨rfl, _, rfl, Below.refl _ _, rfl⟩
            · intro xs W hW hn
              simp [flowNeeds, Region.binds] at hn
              simp only [flowAct, List.zipWith_cons_cons, List.zipWith_nil_left]
              try simp only [hn]
              go_wp2_with (fail)
              exact ⟨rfl, _, rfl, Below.refl _ _, rfl⟩
            · intro xs W hW hn
              simp [flowNeeds, Region.binds] at hn
              simp only [flowAct, List.zipWith_cons_cons, List.zipWith_nil_left]
              try simp only [hn]
              go_wp2_with (fail)
              exact ⟨rfl, _, rfl, Below.refl _ _, rfl⟩
            · intro xs W hW hn
              obtain ⟨c0, c1, c2, c3, c4, c5, c6, c7⟩ := HCX.out W hW
              simp [flowNeeds, Region.binds] at hn
              simp only [flowAct, List.zipWith_cons_cons, List.zipWith_nil_left]
              try simp only [hn]
              go_wp2_with (fail)
              exact ⟨rfl, _, rfl, Below.refl _ _, rfl⟩
            · intro xs W hW hn
              simp [flowNeeds, Region.binds] at hn
              simp only [flowAct, List.zipWith_cons_cons, List.zipWith_nil_left]
              simp only [hn]
              go_wp2_with (go_at_call 40; (with_reducible refine (HPX.out _ (HB.out.trans (hW.mono HB.out.size))).mono ?_); rintro e9 w9 ⟨v9, rfl, ho9, hb9⟩)
              exact ⟨rfl, _, rfl, hb9, ho9.mono (Nat.zero_le _)⟩
            · intro xs W hW hn
              simp [flowNeeds, Region.binds] at hn
              simp only [flowAct, List.zipWith_cons_cons, List.zipWith_nil_left]
              obtain ⟨ho3, e5⟩ := hn
              obtain ⟨a3, c3, e3, hy3⟩ := ho3.bys
              have hcv := HCV.out _ _ _ _ hy3
              simp only [e3, e5]
              go_wp2_with (fail)
              exact ⟨rfl, _, rfl, Below.refl _ _, rfl⟩
            · intro xs W hW hn
              simp [flowNeeds, Region.binds] at hn
              simp only [flowAct, List.zipWith_cons_cons, List.zipWith_nil_left]
              try simp only [hn]
              go_wp2_with (fail)
              exact ⟨rfl, _, rfl, Below.refl _ _, rfl⟩
            · intro xs W hW hn
              simp [flowNeeds, Region.binds] at hn
              simp only [flowAct, List.zipWith_cons_cons, List.zipWith_nil_left]
              try simp only [hn]
              go_wp2_with (fail)
              exact ⟨rfl, _, rfl, Below.refl _ _, rfl⟩
            · intro xs W hW hn
              simp [flowNeeds, Region.binds] at hn
              simp only [flowAct, List.zipWith_cons_cons, List.zipWith_nil_left]
              try simp only [hn]
              go_wp2_with (fail)
              exact ⟨rfl, _, rfl, Below.refl _ _, rfl⟩
            · intro xs W hW hn
              simp [flowNeeds, Region.binds] at hn
              simp only [flowAct, List.zipWith_cons_cons, List.zipWith_nil_left]
              have hcv := HCV.out _ _ _ _ (HYQ.out _ (HL.out W (HB.out.trans (hW.mono HB.out.size))))
              simp only [hn]
              go_wp2_with (fail)
              exact ⟨rfl, _, rfl, Below.refl _ _, rfl⟩
            · intro xs W hW hn
              simp [flowNeeds, Region.binds] at hn
              simp only [flowAct, List.zipWith_cons_cons, List.zipWith_nil_left]
              try simp only [hn]
              go_wp2_with (fail)
              exact ⟨rfl, _, rfl, Below.refl _ _, rfl⟩
            · intro xs W hW hn
              simp [flowNeeds, Region.binds] at hn
              simp only [flowAct, List.zipWith_cons_cons, List.zipWith_nil_left]
              try simp only [hn]
              go_wp2_with (fail)
              exact ⟨rfl, _, rfl, Below.refl _ _, rfl⟩
            · intro xs W hW hn
              simp [flowNeeds, Region.binds] at hn
              simp only [flowAct, List.zipWith_cons_cons, List.zipWith_nil_left]
              try simp only [hn]
              go_wp2_with (fail)
              exact ⟨rfl, _, rfl, Below.refl _ _, rfl⟩
          · intro xs W hW hall
            simp only [flowAll, and_true, Nat.zero_add, Nat.reduceAdd] at hall
            obtain ⟨-, -, -, -, -, -, -, -, -, -, -, -, -, -, -, -, -, -, e18⟩ := hall
            simp only [flowAct, List.zipWith_cons_cons, List.zipWith_nil_left, e18]
            go_wp2_with (go_at_call 35; (with_reducible refine (HLv.out _ (HB.out.trans (hW.mono HB.out.size))).mono ?_); rintro e9 w9 ⟨rfl, hb9⟩; have HBZ := Lib.hid (HB.out.trans ((hW.trans (hb9.mono hW.size)).mono HB.out.size)); clear hb9)
            go_ret
            exact ⟨rfl, HBZ.out⟩
        · have hfn : (f == 0) = false := by simpa using hf
          clear HPP HCP HCX
          refine wp_region_flow [none, none, none, none, none, none, none, none, none, none, none, none, none, none, none, none, none, none, none, none, none, none, none, none, none, none, none, none, none, none, none, none, none, none, none, none, none, none, none, none, none, none, none, none, none, none, none, none, none, none, none, none, none, none, none, none, none, none, none, none, none, none, none, none, some 0, some 1, some 2, some 3, some 4, some 5, some 6, some 7, some 8, some 9, some 10, some 11, some 12, some 13, some 14, some 15, some 16, some 17, some 18, none] (fun i => [undef, undef, undef, undef, undef, undef, undef, undef, undef, undef, undef, undef, undef, undef, undef, undef, undef, undef, undef].getD i undef) [(fun v _ => v = .int .i64 f), (fun v _ => v = .bool false), (fun v _ => v = .bool false), (fun v _ => v = undef), (fun v _ => v = undef), (fun v _ => v = undef), (fun v _ => v = undef), (fun v _ => v = undef), (fun v _ => v = undef), (fun v _ => v = undef), (fun v _ => v = undef), (fun v _ => v = undef), (fun v _ => v = undef), (fun v _ => v = undef), (fun v _ => v = undef), (fun v _ => v = undef), (fun v _ => v = undef), (fun v _ => v = undef), (fun v _ => v = .bool false)] (by kernel_rfl) (by kernel_rfl) rfl rfl rfl ?_ ?_ ?_
          · intro g hg v X Y hX hY hv
            simp only [List.mem_cons, List.not_mem_nil, or_false] at hg
            rcases hg with rfl | rfl | rfl | rfl | rfl | rfl | rfl | rfl | rfl | rfl | rfl | rfl | rfl | rfl | rfl | rfl | rfl | rfl | rfl
            all_goals first
              | exact hv
              | exact hv.kept hY
          · simp only [flowOps, and_true]
            refine ⟨?_, ?_, ?_, ?_, ?_, ?_, ?_, ?_, ?_, ?_, ?_, ?_, ?_, ?_, ?_, ?_, ?_, ?_, ?_⟩
            · intro xs W hW hn
              simp only [flowAct, List.zipWith_cons_cons, List.zipWith_nil_left]
              go_wp2_with (fail)
              exact ⟨rfl, _, rfl, Below.refl _ _, rfl⟩
            · intro xs W hW hn
              simp [flowNeeds, Region.binds] at hn
              simp only [flowAct, List.zipWith_cons_cons, List.zipWith_nil_left]
              try simp only [hn]
              go_wp2_with (fail)
              exact ⟨rfl, _, rfl, Below.refl _ _, rfl⟩
            · intro xs W hW hn
              simp [flowNeeds, Region.binds] at hn
              simp only [flowAct, List.zipWith_cons_cons, List.zipWith_nil_left]
              try simp only [hn]
              go_wp2_with (fail)
              exact ⟨rfl, _, rfl, Below.refl _ _, rfl⟩
            · intro xs W hW hn
              simp [flowNeeds, Region.binds] at hn
              simp only [flowAct, List.zipWith_cons_cons, List.zipWith_nil_left]
              try simp only [hn]
              go_wp2_with (fail)
              exact ⟨rfl, _, rfl, Below.refl _ _, rfl⟩
            · intro xs W hW hn
              simp [flowNeeds, Region.binds] at hn
              simp only [flowAct, List.zipWith_cons_cons, List.zipWith_nil_left]
              try simp only [hn]
              go_wp2_with (fail)
              exact ⟨rfl, _, rfl, Below.refl _ _, rfl⟩
            · intro xs W hW hn
              simp [flowNeeds, Region.binds] at hn
              simp only [flowAct, List.zipWith_cons_cons, List.zipWith_nil_left]
              try simp only [hn]
              go_wp2_with (fail)
              exact ⟨rfl, _, rfl, Below.refl _ _, rfl⟩
            · intro xs W hW hn
              simp [flowNeeds, Region.binds] at hn
              simp only [flowAct, List.zipWith_cons_cons, List.zipWith_nil_left]
              try simp only [hn]
              go_wp2_with (fail)
              exact ⟨rfl, _, rfl, Below.refl _ _, rfl⟩
            · intro xs W hW hn
              simp [flowNeeds, Region.binds] at hn
              simp only [flowAct, List.zipWith_cons_cons, List.zipWith_nil_left]
              try simp only [hn]
              go_wp2_with (fail)
              exact ⟨rfl, _, rfl, Below.refl _ _, rfl⟩
            · intro xs W hW hn
              simp [flowNeeds, Region.binds] at hn
              simp only [flowAct, List.zipWith_cons_cons, List.zipWith_nil_left]
              try simp only [hn]
              go_wp2_with (fail)
              exact ⟨rfl, _, rfl, Below.refl _ _, rfl⟩
            · intro xs W hW hn
              simp [flowNeeds, Region.binds] at hn
              simp only [flowAct, List.zipWith_cons_cons, List.zipWith_nil_left]
              try simp only [hn]
              go_wp2_with (fail)
              exact ⟨rfl, _, rfl, Below.refl _ _, rfl⟩
            · intro xs W hW hn
              simp [flowNeeds, Region.binds] at hn
              simp only [flowAct, List.zipWith_cons_cons, List.zipWith_nil_left]
              try simp only [hn]
              go_wp2_with (fail)
              exact ⟨rfl, _, rfl, Below.refl _ _, rfl⟩
            · intro xs W hW hn
              simp [flowNeeds, Region.binds] at hn
              simp only [flowAct, List.zipWith_cons_cons, List.zipWith_nil_left]
              try simp only [hn]
              go_wp2_with (fail)
              exact ⟨rfl, _, rfl, Below.refl _ _, rfl⟩
            · intro xs W hW hn
              simp [flowNeeds, Region.binds] at hn
              simp only [flowAct, List.zipWith_cons_cons, List.zipWith_nil_left]
              try simp only [hn]
              go_wp2_with (fail)
              exact ⟨rfl, _, rfl, Below.refl _ _, rfl⟩
            · intro xs W hW hn
              simp [flowNeeds, Region.binds] at hn
              simp only [flowAct, List.zipWith_cons_cons, List.zipWith_nil_left]
              try simp only [hn]
              go_wp2_with (fail)
              exact ⟨rfl, _, rfl, Below.refl _ _, rfl⟩
            · intro xs W hW hn
              simp [flowNeeds, Region.binds] at hn
              simp only [flowAct, List.zipWith_cons_cons, List.zipWith_nil_left]
              try simp only [hn]
              go_wp2_with (fail)
              exact ⟨rfl, _, rfl, Below.refl _ _, rfl⟩
            · intro xs W hW hn
              simp [flowNeeds, Region.binds] at hn
              simp only [flowAct, List.zipWith_cons_cons, List.zipWith_nil_left]
              try simp only [hn]
              go_wp2_with (fail)
              exact ⟨rfl, _, rfl, Below.refl _ _, rfl⟩
            · intro xs W hW hn
              simp [flowNeeds, Region.binds] at hn
              simp only [flowAct, List.zipWith_cons_cons, List.zipWith_nil_left]
              try simp only [hn]
              go_wp2_with (fail)
              exact ⟨rfl, _, rfl, Below.refl _ _, rfl⟩
            · intro xs W hW hn
              simp [flowNeeds, Region.binds] at hn
              simp only [flowAct, List.zipWith_cons_cons, List.zipWith_nil_left]
              try simp only [hn]
              go_wp2_with (fail)
              exact ⟨rfl, _, rfl, Below.refl _ _, rfl⟩
            · intro xs W hW hn
              simp [flowNeeds, Region.binds] at hn
              simp only [flowAct, List.zipWith_cons_cons, List.zipWith_nil_left]
              try simp only [hn]
              go_wp2_with (fail)
              exact ⟨rfl, _, rfl, Below.refl _ _, rfl⟩
          · intro xs W hW hall
            simp only [flowAll, and_true, Nat.zero_add, Nat.reduceAdd] at hall
            obtain ⟨-, -, -, -, -, -, -, -, -, -, -, -, -, -, -, -, -, -, e18⟩ := hall
            simp only [flowAct, List.zipWith_cons_cons, List.zipWith_nil_left, e18]
            go_wp2_with (go_at_call 35; (with_reducible refine (HLv.out _ (HB.out.trans (hW.mono HB.out.size))).mono ?_); rintro e9 w9 ⟨rfl, hb9⟩; have HBZ := Lib.hid (HB.out.trans ((hW.trans (hb9.mono hW.size)).mono HB.out.size)); clear hb9)
            go_ret
            exact ⟨rfl, HBZ.out⟩
      | true =>
        have hX1 : X = layS [] ⟨n, s, a, b, g, t, d, e⟩ := by rw [HXG.out]; rfl
        have hbk := HBK.out rfl
        rw [← hX1] at hbk
        have hxl := HXL.out
        rw [← hX1] at hxl
        have hXY := fun (W : World) (a3 : Option Addr) (c3 : Nat) (h : Bys W a3 (X ++ l).length c3 (X ++ l)) => cget_c h p
        rw [hbk] at hXY
        have hXY : ∀ (W : World) (a3 : Option Addr) (c3 : Nat) (h : Bys W a3 (X ++ l).length c3 (X ++ l)), Calls Tryd.prog 38 #[.slice a3 (X ++ l).length c3, .int .i64 p] W (Tells (.tuple #[.agg #[.int .i64 n, .int .i64 s, .int .i64 a, .int .i64 b, .bool g, .string (text t), .int .i64 d, .int .i64 e], .int .i64 (X.length : Int), .int .i64 0]) W) := hXY
        obtain ⟨xn, hxn⟩ : ∃ q, X.length = q := ⟨_, rfl⟩
        obtain ⟨Y, hY⟩ : ∃ q, X ++ l = q := ⟨_, rfl⟩
        obtain ⟨yn, hyn⟩ : ∃ q, Y.length = q := ⟨_, rfl⟩
        rw [hY, hyn, hxn] at hXY
        rw [hxn] at Y1 hxl ⊢
        have HXY := Lib.hid hXY
        have HYE := Lib.hid hY
        have HYN := Lib.hid hyn
        have HXN := Lib.hid hxn
        clear hX1 hbk hXY hY hyn hxn HXG HXL HBK
        go_upto_region 5 with (go_at_call 31; (with_reducible refine (HGG.out _).mono ?_); rintro e9 w9 ⟨rfl, hb9⟩)
        replace hcur := hcur.trans (hb9.mono hcur.size)
        have hy1 := (Y1.out _ hb9).below (alloc_below w9 (.cells #[] 5))
        have hoe := OwnB.empty w9 w9.heap.size 5 (Nat.le_refl _)
        clear hb9 c0 c1 c2 c3 c4 c5 c6 c7 Y1 HB2
        have HB := Lib.hid (HB.out.trans (hcur.mono HB.out.size))
        have HCU := Lib.hid hcur
        clear hcur
        go_upto_region 6 with (first
          | (at_builtin; refine wpList_append_bys rfl (.tmp 31) (.tmp 32) 34 rfl Tryd.underlying34 hi hz0 hz1 hz2 rfl rfl hoe rfl hy1 (by simp; omega) (by simp) ?_; intro v3 w3 ho3 hg3; have hb3 := ((Below.refl w9.heap.size w9).alloc (Nat.le_refl _) (.cells #[] 5)).grown hg3 (by simp) (fun k hk => (hoe.lt k hk).1); rw [List.nil_append] at ho3; have hy3 := HL.out _ (HB.out.trans (hb3.mono HB.out.size)); clear hg3)
          | (at_builtin; refine wpList_append_bys rfl (.tmp 33) (.tmp 34) 34 rfl Tryd.underlying34 hi hz0 hz1 hz2 rfl rfl ho3 rfl hy3 (by rw [HXN.out]; omega) hb3.size ?_; intro v4 w4 ho4 hg4; have hb4 := hb3.grown hg4 hb3.size (fun k hk => (ho3.lt k hk).1); rw [HYE.out] at ho4; obtain ⟨a4, c4, hv4, y4⟩ := ho4.bys; rw [HYN.out] at hv4 y4; subst hv4; clear hg4 ho3 hy3 hy1 hoe)
          | (go_at_call 38; (with_reducible refine (HXY.out _ _ _ y4).mono ?_); rintro e9 w5 ⟨rfl, hb5⟩))
        have hcur := HCU.out.trans ((hb4.trans (hb5.mono hb4.size)).mono HCU.out.size)
        have hc := ((HCW.out _ hcur).kept (alloc_below w5 (.cells #[.int .i64 n, .int .i64 s, .int .i64 a, .int .i64 b, .bool g, .string (text t), .int .i64 d, .int .i64 e] 61))).cs
        have hr := (Cel.new w5 n s a b g t d e).cs
        have HB := Lib.hid ((HB.out.trans ((hb4.trans (hb5.mono hb4.size)).mono HB.out.size)).alloc (Nat.le_trans HB.out.size (Nat.le_trans hb4.size hb5.size)) (.cells #[.int .i64 n, .int .i64 s, .int .i64 a, .int .i64 b, .bool g, .string (text t), .int .i64 d, .int .i64 e] 61))
        obtain ⟨gy, hgy⟩ : ∃ q, w5.heap.size = q := ⟨_, rfl⟩
        rw [hgy] at hr ⊢
        clear hgy hb3 hb4 hb5 hcur HCU HCW ho4 y4
        generalize w5.alloc (.cells #[.int .i64 n, .int .i64 s, .int .i64 a, .int .i64 b, .bool g, .string (text t), .int .i64 d, .int .i64 e] 61) = W5 at *
        obtain ⟨c0, c1, c2, c3, c4, c5, c6, c7⟩ := hc
        obtain ⟨r0, r1, r2, r3, r4, r5, r6, r7⟩ := hr
        go_upto_region 10 with (fail)
        clear c0 c1 c2 c3 c4 c5 c6 c7 r0 r1 r2 r3 r4 r5 r6 r7
        go_upto_region 11 with (go_at_call 38; (with_reducible refine (HGT.out _ HB.out).mono ?_); rintro e9 w6 ⟨rfl, hb6⟩)
        have hd := Cel.new w6 n' s' a' b' g' t' d' e'
        have HB := Lib.hid ((HB.out.trans (hb6.mono HB.out.size)).alloc (Nat.le_trans HB.out.size hb6.size) (.cells #[.int .i64 n', .int .i64 s', .int .i64 a', .int .i64 b', .bool g', .string (text t'), .int .i64 d', .int .i64 e'] 61))
        obtain ⟨gd, hgd⟩ : ∃ q, w6.heap.size = q := ⟨_, rfl⟩
        rw [hgd] at hd ⊢
        clear hgd hb6 HGT
        generalize w6.alloc (.cells #[.int .i64 n', .int .i64 s', .int .i64 a', .int .i64 b', .bool g', .string (text t'), .int .i64 d', .int .i64 e'] 61) = W6 at *
        have HCX := Lib.hid (fun W (h : Below W6.heap.size W6 W) => (hd.kept h).cs)
        clear hd
        by_cases hf : f = 0
        · subst hf
          obtain ⟨q, rfl, hql, hpe, htl⟩ := HCP.out (by simp)
          have hqm : q ≤ m := by omega
          have hqi : ¬ (m : Int) < (q : Int) := by omega
          have hsl := slice_to (HL.out _ HB.out) (q := q) hqm
          have hPX := HPP.out n' s' a' b' g' t' d' e' htl
          obtain ⟨Y1, hY1⟩ : ∃ Z, l.take q = Z := ⟨_, rfl⟩
          rw [hpe, hY1] at hPX
          have htb : ((text Y1).toList == (text Y1).toList) = true := by simp
          have htn : ((text Y1).toList != (text Y1).toList) = false := by simp
          obtain ⟨T1, hT1⟩ : ∃ Z, text Y1 = Z := ⟨_, rfl⟩
          rw [hT1] at htb htn
          have HPX := Lib.hid hPX
          have HQ := Lib.hid hqm
          have HCV := Lib.hid (fun (W : World) (a3 : Option Addr) (c3 : Nat) (n3 : Nat) (h3 : Bys W a3 n3 c3 Y1) => by have := HCV.out W a3 c3 Y1 n3 h3; rwa [hT1] at this)
          have HYQ := Lib.hid (fun (W : World) (h : Bys W ad m cap l) => by have := h.take hqm; rwa [hY1] at this)
          clear hql hpe htl hqm hPX hY1 hT1 HPP HCP
          refine wp_region_flow [none, none, none, none, none, none, none, none, none, none, none, none, none, none, none, none, none, none, none, none, none, none, none, none, none, none, none, none, none, none, none, none, none, none, none, none, none, none, none, none, none, none, none, none, none, none, none, none, none, none, none, none, none, none, none, none, none, none, none, none, none, none, none, none, some 0, some 1, some 2, some 3, some 4, some 5, some 6, some 7, some 8, some 9, some 10, some 11, some 12, some 13, some 14, some 15, some 16, some 17, some 18, none] (fun i => [undef, undef, undef, undef, undef, undef, undef, undef, undef, undef, undef, undef, undef, undef, undef, undef, undef, undef, undef].getD i undef) [(fun v _ => v = .int .i64 0), (fun v _ => v = .bool true), (fun v _ => v = .bool true), (fun v _ => v = .int .i64 (q : Int)), (fun v _ => v = .slice ad m cap), (fun v _ => v = .int .i64 (m : Int)), (fun v _ => v = .bool false), (fun v _ => v = .bool false), (fun v _ => v = .int .i64 p), (fun v _ => v = .agg #[.int .i64 n', .int .i64 s', .int .i64 a', .int .i64 b', .bool g', .string (text t'), .int .i64 d', .int .i64 e']), (fun v W => OwnB W 0 5 v Y1), (fun v _ => v = .string T1), (fun v _ => v = .slice ad m cap), (fun v _ => v = .int .i64 (q : Int)), (fun v _ => v = .slice ad q cap), (fun v _ => v = .string T1), (fun v _ => v = .bool false), (fun v _ => v = .bool false), (fun v _ => v = .bool false)] (by kernel_rfl) (by kernel_rfl) rfl rfl rfl ?_ ?_ ?_
          · intro g hg v X Y hX hY hv
            simp only [List.mem_cons, List.not_mem_nil, or_false] at hg
            rcases hg with rfl | rfl | rfl | rfl | rfl | rfl | rfl | rfl | rfl | rfl | rfl | rfl | rfl | rfl | rfl | rfl | rfl | rfl | rfl
            all_goals first
              | exact hv
              | exact hv.kept hY
          · simp only [flowOps, and_true]
            refine ⟨?_, ?_, ?_, ?_, ?_, ?_, ?_, ?_, ?_, ?_, ?_, ?_, ?_, ?_, ?_, ?_, ?_, ?_, ?_⟩
            · intro xs W hW hn
              simp only [flowAct, List.zipWith_cons_cons, List.zipWith_nil_left]
              go_wp2_with (fail)
              exact ⟨rfl, _, rfl, Below.refl _ _, rfl⟩
            · intro xs W hW hn
              simp [flowNeeds, Region.binds] at hn
              simp only [flowAct, List.zipWith_cons_cons, List.zipWith_nil_left]
              try simp only [hn]
              go_wp2_with (fail)
              exact ⟨rfl, _, rfl, Below.refl _ _, rfl⟩
            · intro xs W hW hn
              simp [flowNeeds, Region.binds] at hn
              simp only [flowAct, List.zipWith_cons_cons, List.zipWith_nil_left]
              try simp only [hn]
              go_wp2_with (fail)
              exact ⟨rfl, _, rfl, Below.refl _ _, rfl⟩
            · intro xs W hW hn
              simp [flowNeeds, Region.binds] at hn
              simp only [flowAct, List.zipWith_cons_cons, List.zipWith_nil_left]
              try simp only [hn]
              go_wp2_with (fail)
              exact ⟨rfl, _, rfl, Below.refl _ _, rfl⟩
            · intro xs W hW hn
              simp [flowNeeds, Region.binds] at hn
              simp only [flowAct, List.zipWith_cons_cons, List.zipWith_nil_left]
              try simp only [hn]
              go_wp2_with (fail)
              exact ⟨rfl, _, rfl, Below.refl _ _, rfl⟩
            · intro xs W hW hn
              simp [flowNeeds, Region.binds] at hn
              simp only [flowAct, List.zipWith_cons_cons, List.zipWith_nil_left]
              try simp only [hn]
              go_wp2_with (fail)
              exact ⟨rfl, _, rfl, Below.refl _ _, rfl⟩
            · intro xs W hW hn
              simp [flowNeeds, Region.binds] at hn
              simp only [flowAct, List.zipWith_cons_cons, List.zipWith_nil_left]
              try simp only [hn]
              go_wp2_with (fail)
              exact ⟨rfl, _, rfl, Below.refl _ _, rfl⟩
            · intro xs W hW hn
              simp [flowNeeds, Region.binds] at hn
              simp only [flowAct, List.zipWith_cons_cons, List.zipWith_nil_left]
              try simp only [hn]
              go_wp2_with (fail)
              exact ⟨rfl, _, rfl, Below.refl _ _, rfl⟩
            · intro xs W hW hn
              simp [flowNeeds, Region.binds] at hn
              simp only [flowAct, List.zipWith_cons_cons, List.zipWith_nil_left]
              try simp only [hn]
              go_wp2_with (fail)
              exact ⟨rfl, _, rfl, Below.refl _ _, rfl⟩
            · intro xs W hW hn
              obtain ⟨c0, c1, c2, c3, c4, c5, c6, c7⟩ := HCX.out W hW
              simp [flowNeeds, Region.binds] at hn
              simp only [flowAct, List.zipWith_cons_cons, List.zipWith_nil_left]
              try simp only [hn]
              go_wp2_with (fail)
              exact ⟨rfl, _, rfl, Below.refl _ _, rfl⟩
            · intro xs W hW hn
              simp [flowNeeds, Region.binds] at hn
              simp only [flowAct, List.zipWith_cons_cons, List.zipWith_nil_left]
              simp only [hn]
              go_wp2_with (go_at_call 40; (with_reducible refine (HPX.out _ (HB.out.trans (hW.mono HB.out.size))).mono ?_); rintro e9 w9 ⟨v9, rfl, ho9, hb9⟩)
              exact ⟨rfl, _, rfl, hb9, ho9.mono (Nat.zero_le _)⟩
            · intro xs W hW hn
              simp [flowNeeds, Region.binds] at hn
              simp only [flowAct, List.zipWith_cons_cons, List.zipWith_nil_left]
              obtain ⟨ho3, e5⟩ := hn
              obtain ⟨a3, c3, e3, hy3⟩ := ho3.bys
              have hcv := HCV.out _ _ _ _ hy3
              simp only [e3, e5]
              go_wp2_with (fail)
              exact ⟨rfl, _, rfl, Below.refl _ _, rfl⟩
            · intro xs W hW hn
              simp [flowNeeds, Region.binds] at hn
              simp only [flowAct, List.zipWith_cons_cons, List.zipWith_nil_left]
              try simp only [hn]
              go_wp2_with (fail)
              exact ⟨rfl, _, rfl, Below.refl _ _, rfl⟩
            · intro xs W hW hn
              simp [flowNeeds, Region.binds] at hn
              simp only [flowAct, List.zipWith_cons_cons, List.zipWith_nil_left]
              try simp only [hn]
              go_wp2_with (fail)
              exact ⟨rfl, _, rfl, Below.refl _ _, rfl⟩
            · intro xs W hW hn
              simp [flowNeeds, Region.binds] at hn
              simp only [flowAct, List.zipWith_cons_cons, List.zipWith_nil_left]
              try simp only [hn]
              go_wp2_with (fail)
              exact ⟨rfl, _, rfl, Below.refl _ _, rfl⟩
            · intro xs W hW hn
              simp [flowNeeds, Region.binds] at hn
              simp only [flowAct, List.zipWith_cons_cons, List.zipWith_nil_left]
              have hcv := HCV.out _ _ _ _ (HYQ.out _ (HL.out W (HB.out.trans (hW.mono HB.out.size))))
              simp only [hn]
              go_wp2_with (fail)
              exact ⟨rfl, _, rfl, Below.refl _ _, rfl⟩
            · intro xs W hW hn
              simp [flowNeeds, Region.binds] at hn
              simp only [flowAct, List.zipWith_cons_cons, List.zipWith_nil_left]
              try simp only [hn]
              go_wp2_with (fail)
              exact ⟨rfl, _, rfl, Below.refl _ _, rfl⟩
            · intro xs W hW hn
              simp [flowNeeds, Region.binds] at hn
              simp only [flowAct, List.zipWith_cons_cons, List.zipWith_nil_left]
              try simp only [hn]
              go_wp2_with (fail)
              exact ⟨rfl, _, rfl, Below.refl _ _, rfl⟩
            · intro xs W hW hn
              simp [flowNeeds, Region.binds] at hn
              simp only [flowAct, List.zipWith_cons_cons, List.zipWith_nil_left]
              try simp only [hn]
              go_wp2_with (fail)
              exact ⟨rfl, _, rfl, Below.refl _ _, rfl⟩
          · intro xs W hW hall
            simp only [flowAll, and_true, Nat.zero_add, Nat.reduceAdd] at hall
            obtain ⟨-, -, -, -, -, -, -, -, -, -, -, -, -, -, -, -, -, -, e18⟩ := hall
            simp only [flowAct, List.zipWith_cons_cons, List.zipWith_nil_left, e18]
            go_wp2_with (go_at_call 35; (with_reducible refine (HLv.out _ (HB.out.trans (hW.mono HB.out.size))).mono ?_); rintro e9 w9 ⟨rfl, hb9⟩; have HBZ := Lib.hid (HB.out.trans ((hW.trans (hb9.mono hW.size)).mono HB.out.size)); clear hb9)
            go_ret
            exact ⟨rfl, HBZ.out⟩
        · have hfn : (f == 0) = false := by simpa using hf
          clear HPP HCP HCX
          refine wp_region_flow [none, none, none, none, none, none, none, none, none, none, none, none, none, none, none, none, none, none, none, none, none, none, none, none, none, none, none, none, none, none, none, none, none, none, none, none, none, none, none, none, none, none, none, none, none, none, none, none, none, none, none, none, none, none, none, none, none, none, none, none, none, none, none, none, some 0, some 1, some 2, some 3, some 4, some 5, some 6, some 7, some 8, some 9, some 10, some 11, some 12, some 13, some 14, some 15, some 16, some 17, some 18, none] (fun i => [undef, undef, undef, undef, undef, undef, undef, undef, undef, undef, undef, undef, undef, undef, undef, undef, undef, undef, undef].getD i undef) [(fun v _ => v = .int .i64 f), (fun v _ => v = .bool false), (fun v _ => v = .bool false), (fun v _ => v = undef), (fun v _ => v = undef), (fun v _ => v = undef), (fun v _ => v = undef), (fun v _ => v = undef), (fun v _ => v = undef), (fun v _ => v = undef), (fun v _ => v = undef), (fun v _ => v = undef), (fun v _ => v = undef), (fun v _ => v = undef), (fun v _ => v = undef), (fun v _ => v = undef), (fun v _ => v = undef), (fun v _ => v = undef), (fun v _ => v = .bool false)] (by kernel_rfl) (by kernel_rfl) rfl rfl rfl ?_ ?_ ?_
          · intro g hg v X Y hX hY hv
            simp only [List.mem_cons, List.not_mem_nil, or_false] at hg
            rcases hg with rfl | rfl | rfl | rfl | rfl | rfl | rfl | rfl | rfl | rfl | rfl | rfl | rfl | rfl | rfl | rfl | rfl | rfl | rfl
            all_goals first
              | exact hv
              | exact hv.kept hY
          · simp only [flowOps, and_true]
            refine ⟨?_, ?_, ?_, ?_, ?_, ?_, ?_, ?_, ?_, ?_, ?_, ?_, ?_, ?_, ?_, ?_, ?_, ?_, ?_⟩
            · intro xs W hW hn
              simp only [flowAct, List.zipWith_cons_cons, List.zipWith_nil_left]
              go_wp2_with (fail)
              exact ⟨rfl, _, rfl, Below.refl _ _, rfl⟩
            · intro xs W hW hn
              simp [flowNeeds, Region.binds] at hn
              simp only [flowAct, List.zipWith_cons_cons, List.zipWith_nil_left]
              try simp only [hn]
              go_wp2_with (fail)
              exact ⟨rfl, _, rfl, Below.refl _ _, rfl⟩
            · intro xs W hW hn
              simp [flowNeeds, Region.binds] at hn
              simp only [flowAct, List.zipWith_cons_cons, List.zipWith_nil_left]
              try simp only [hn]
              go_wp2_with (fail)
              exact ⟨rfl, _, rfl, Below.refl _ _, rfl⟩
            · intro xs W hW hn
              simp [flowNeeds, Region.binds] at hn
              simp only [flowAct, List.zipWith_cons_cons, List.zipWith_nil_left]
              try simp only [hn]
              go_wp2_with (fail)
              exact ⟨rfl, _, rfl, Below.refl _ _, rfl⟩
            · intro xs W hW hn
              simp [flowNeeds, Region.binds] at hn
              simp only [flowAct, List.zipWith_cons_cons, List.zipWith_nil_left]
              try simp only [hn]
              go_wp2_with (fail)
              exact ⟨rfl, _, rfl, Below.refl _ _, rfl⟩
            · intro xs W hW hn
              simp [flowNeeds, Region.binds] at hn
              simp only [flowAct, List.zipWith_cons_cons, List.zipWith_nil_left]
              try simp only [hn]
              go_wp2_with (fail)
              exact ⟨rfl, _, rfl, Below.refl _ _, rfl⟩
            · intro xs W hW hn
              simp [flowNeeds, Region.binds] at hn
              simp only [flowAct, List.zipWith_cons_cons, List.zipWith_nil_left]
              try simp only [hn]
              go_wp2_with (fail)
              exact ⟨rfl, _, rfl, Below.refl _ _, rfl⟩
            · intro xs W hW hn
              simp [flowNeeds, Region.binds] at hn
              simp only [flowAct, List.zipWith_cons_cons, List.zipWith_nil_left]
              try simp only [hn]
              go_wp2_with (fail)
              exact ⟨rfl, _, rfl, Below.refl _ _, rfl⟩
            · intro xs W hW hn
              simp [flowNeeds, Region.binds] at hn
              simp only [flowAct, List.zipWith_cons_cons, List.zipWith_nil_left]
              try simp only [hn]
              go_wp2_with (fail)
              exact ⟨rfl, _, rfl, Below.refl _ _, rfl⟩
            · intro xs W hW hn
              simp [flowNeeds, Region.binds] at hn
              simp only [flowAct, List.zipWith_cons_cons, List.zipWith_nil_left]
              try simp only [hn]
              go_wp2_with (fail)
              exact ⟨rfl, _, rfl, Below.refl _ _, rfl⟩
            · intro xs W hW hn
              simp [flowNeeds, Region.binds] at hn
              simp only [flowAct, List.zipWith_cons_cons, List.zipWith_nil_left]
              try simp only [hn]
              go_wp2_with (fail)
              exact ⟨rfl, _, rfl, Below.refl _ _, rfl⟩
            · intro xs W hW hn
              simp [flowNeeds, Region.binds] at hn
              simp only [flowAct, List.zipWith_cons_cons, List.zipWith_nil_left]
              try simp only [hn]
              go_wp2_with (fail)
              exact ⟨rfl, _, rfl, Below.refl _ _, rfl⟩
            · intro xs W hW hn
              simp [flowNeeds, Region.binds] at hn
              simp only [flowAct, List.zipWith_cons_cons, List.zipWith_nil_left]
              try simp only [hn]
              go_wp2_with (fail)
              exact ⟨rfl, _, rfl, Below.refl _ _, rfl⟩
            · intro xs W hW hn
              simp [flowNeeds, Region.binds] at hn
              simp only [flowAct, List.zipWith_cons_cons, List.zipWith_nil_left]
              try simp only [hn]
              go_wp2_with (fail)
              exact ⟨rfl, _, rfl, Below.refl _ _, rfl⟩
            · intro xs W hW hn
              simp [flowNeeds, Region.binds] at hn
              simp only [flowAct, List.zipWith_cons_cons, List.zipWith_nil_left]
              try simp only [hn]
              go_wp2_with (fail)
              exact ⟨rfl, _, rfl, Below.refl _ _, rfl⟩
            · intro xs W hW hn
              simp [flowNeeds, Region.binds] at hn
              simp only [flowAct, List.zipWith_cons_cons, List.zipWith_nil_left]
              try simp only [hn]
              go_wp2_with (fail)
              exact ⟨rfl, _, rfl, Below.refl _ _, rfl⟩
            · intro xs W hW hn
              simp [flowNeeds, Region.binds] at hn
              simp only [flowAct, List.zipWith_cons_cons, List.zipWith_nil_left]
              try simp only [hn]
              go_wp2_with (fail)
              exact ⟨rfl, _, rfl, Below.refl _ _, rfl⟩
            · intro xs W hW hn
              simp [flowNeeds, Region.binds] at hn
              simp only [flowAct, List.zipWith_cons_cons, List.zipWith_nil_left]
              try simp only [hn]
              go_wp2_with (fail)
              exact ⟨rfl, _, rfl, Below.refl _ _, rfl⟩
            · intro xs W hW hn
              simp [flowNeeds, Region.binds] at hn
              simp only [flowAct, List.zipWith_cons_cons, List.zipWith_nil_left]
              try simp only [hn]
              go_wp2_with (fail)
              exact ⟨rfl, _, rfl, Below.refl _ _, rfl⟩
          · intro xs W hW hall
            simp only [flowAll, and_true, Nat.zero_add, Nat.reduceAdd] at hall
            obtain ⟨-, -, -, -, -, -, -, -, -, -, -, -, -, -, -, -, -, -, e18⟩ := hall
            simp only [flowAct, List.zipWith_cons_cons, List.zipWith_nil_left, e18]
            go_wp2_with (go_at_call 35; (with_reducible refine (HLv.out _ (HB.out.trans (hW.mono HB.out.size))).mono ?_); rintro e9 w9 ⟨rfl, hb9⟩; have HBZ := Lib.hid (HB.out.trans ((hW.trans (hb9.mono hW.size)).mono HB.out.size)); clear hb9)
            go_ret
            exact ⟨rfl, HBZ.out⟩
end Go.Proofs.YtkhihfpdghjfmaaDoor
