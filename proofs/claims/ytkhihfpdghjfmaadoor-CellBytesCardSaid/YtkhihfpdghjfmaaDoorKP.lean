/-
  Cell: the walk of CellBytes.
-/
import Derived.Test.YtkhihfpdghjfmaaDoorKI
import Derived.Test.YtkhihfpdghjfmaaDoorKG
namespace Go.Proofs.YtkhihfpdghjfmaaDoor
open Go.RowKit Go Go.Sort
set_option linter.unusedVariables false
set_option maxRecDepth 20000

set_option maxRecDepth 100000 in
set_option maxHeartbeats 12800000 in
theorem cbytes_walk {w : World} {ad : Option Addr} {m cap : Nat} {l : List UInt8} (hl : Bys w ad m cap l) (p n s a b : Int) (g : Bool) (t : List UInt8) (d e : Int) (hmax : t.length ≤ 9223372036854775807) (hT : TabW w) :
    Calls Tryd.prog 10 #[.slice ad m cap, .int .i64 p, .agg #[.int .i64 n, .int .i64 s, .int .i64 a, .int .i64 b, .bool g, .string (text t), .int .i64 d, .int .i64 e]] w (Tells (.bool true) w) := by
  have hle := hl.le
  have hmx := hl.max
  have hp := Cel.new w n s a b g t d e
  have HB := Lib.hid (alloc_below w (.cells #[.int .i64 n, .int .i64 s, .int .i64 a, .int .i64 b, .bool g, .string (text t), .int .i64 d, .int .i64 e] 61))
  have HLv := Lib.hid (fun W (h : Below w.heap.size w W) => clives_c (hT.below h))
  have hsz : ((text t).size : Int) = (t.length : Int) := by rw [text_size]
  have HGT := Lib.hid (fun W (h : Below w.heap.size w W) => cget_c (hl.below h) p)
  have HRG := Lib.hid (fun W (h : Below w.heap.size w W) => rcget_c (hl.below h) p)
  have hPT := fun (h1 : m ≤ 6000) (h2 : t.length ≤ 6000) W (h : Below w.heap.size w W) => cput_c (hl.below h) h1 (hT.below h) p n s a b g t d e h2
  have hRP := fun (h1 : m ≤ 6000) (h2 : t.length ≤ 6000) W (h : Below w.heap.size w W) => rcput_c (hl.below h) h1 p n s a b g t d e h2
  obtain ⟨X, hX⟩ : ∃ q, cputS l p ⟨n, s, a, b, g, t, d, e⟩ = q := ⟨_, rfl⟩
  rw [hX] at hPT hRP
  have HPT := Lib.hid hPT
  have HRP := Lib.hid hRP
  have hcv := fun (W : World) (a3 : Option Addr) (c3 : Nat) (n3 : Nat) (h3 : Bys W a3 n3 c3 X) => conv_bys (P := Tryd.prog) h3 Tryd.underlying34 Tryd.underlying5 Tryd.underlying9
  have htb : ((text X).toList == (text X).toList) = true := by simp
  obtain ⟨T, hTX⟩ : ∃ q, text X = q := ⟨_, rfl⟩
  rw [hTX] at hcv htb
  have HCV := Lib.hid hcv
  obtain ⟨L, hL⟩ : ∃ L, t.length = L := ⟨_, rfl⟩
  rw [hL] at hsz HPT HRP
  obtain ⟨⟨⟨n', s', a', b', g', t', d', e'⟩, k, f⟩, hx⟩ : ∃ q, cgetS l p = q := ⟨_, rfl⟩
  rw [hx] at HGT HRG
  have HGT := Lib.hid (show ∀ W (h : Below w.heap.size w W), Calls Tryd.prog 38 #[.slice ad m cap, .int .i64 p] W (Tells (.tuple #[.agg #[.int .i64 n', .int .i64 s', .int .i64 a', .int .i64 b', .bool g', .string (text t'), .int .i64 d', .int .i64 e'], .int .i64 k, .int .i64 f]) W) from HGT.out)
  have HRG := Lib.hid (show ∀ W (h : Below w.heap.size w W), Calls Tryd.prog 39 #[.slice ad m cap, .int .i64 p] W (Tells (.tuple #[.agg #[.int .i64 n', .int .i64 s', .int .i64 a', .int .i64 b', .bool g', .string (text t'), .int .i64 d', .int .i64 e'], .int .i64 k, .int .i64 f]) W) from HRG.out)
  have hceq := cell_eqb n' s' a' b' g' t' d' e' n' s' a' b' g' t' d' e' true (cellEq_self ..)
  have hceg := cell_eqg .eql
  clear hPT hRP hcv hX hTX hmax hL hx hT
  go_enter Tryd.func10, Tryd.ntmps10
  go_upto_region 1 with (fail)
  obtain ⟨gc, hgc⟩ : ∃ q, w.heap.size = q := ⟨_, rfl⟩
  rw [hgc] at hp ⊢
  clear hgc
  generalize w.alloc (.cells #[.int .i64 n, .int .i64 s, .int .i64 a, .int .i64 b, .bool g, .string (text t), .int .i64 d, .int .i64 e] 61) = W1 at *
  have HCW := Lib.hid (fun W (h : Below W1.heap.size W1 W) => hp.kept h)
  obtain ⟨c0, c1, c2, c3, c4, c5, c6, c7⟩ := hp.cs
  have hcur := Below.refl W1.heap.size W1
  clear hp
  by_cases h1 : 5000 < m
  · have h1i : (5000 : Int) < (m : Int) := by omega
    go_wp2_with (go_at_call 35; (with_reducible refine (HLv.out _ (HB.out.trans (hcur.mono HB.out.size))).mono ?_); rintro e9 w9 ⟨rfl, hb9⟩; (replace hcur := hcur.trans (hb9.mono hcur.size)); clear hb9)
    go_ret
    exact ⟨rfl, HB.out.trans (hcur.mono HB.out.size)⟩
  · have h1i : ¬ (5000 : Int) < (m : Int) := by omega
    by_cases h2 : 5000 < L
    · have h2i : (5000 : Int) < (L : Int) := by omega
      go_wp2_with (go_at_call 35; (with_reducible refine (HLv.out _ (HB.out.trans (hcur.mono HB.out.size))).mono ?_); rintro e9 w9 ⟨rfl, hb9⟩; (replace hcur := hcur.trans (hb9.mono hcur.size)); clear hb9)
      go_ret
      exact ⟨rfl, HB.out.trans (hcur.mono HB.out.size)⟩
    · have h2i : ¬ (5000 : Int) < (L : Int) := by omega
      have HPT := Lib.hid (HPT.out (by omega) (by omega))
      have HRP := Lib.hid (HRP.out (by omega) (by omega))
      go_upto_region 4 with (go_at_call 38; (with_reducible refine (HGT.out _ HB.out).mono ?_); rintro e9 w2 ⟨rfl, hb2⟩)
      clear c0 c1 c2 c3 c4 c5 c6 c7 hcur
      have hp := (HCW.out _ hb2).kept (alloc_below w2 (.cells #[.int .i64 n', .int .i64 s', .int .i64 a', .int .i64 b', .bool g', .string (text t'), .int .i64 d', .int .i64 e'] 61))
      have hc := Cel.new w2 n' s' a' b' g' t' d' e'
      have HB := Lib.hid ((HB.out.trans (hb2.mono HB.out.size)).alloc (Nat.le_trans HB.out.size hb2.size) (.cells #[.int .i64 n', .int .i64 s', .int .i64 a', .int .i64 b', .bool g', .string (text t'), .int .i64 d', .int .i64 e'] 61))
      obtain ⟨gd, hgd⟩ : ∃ q, w2.heap.size = q := ⟨_, rfl⟩
      rw [hgd] at hc ⊢
      clear hgd hb2 HCW
      generalize w2.alloc (.cells #[.int .i64 n', .int .i64 s', .int .i64 a', .int .i64 b', .bool g', .string (text t'), .int .i64 d', .int .i64 e'] 61) = W2 at *
      go_upto_region 5 with (go_at_call 39; (with_reducible refine (HRG.out _ HB.out).mono ?_); rintro e9 w3 ⟨rfl, hb3⟩)
      have hp := (hp.kept hb3).kept (alloc_below w3 (.cells #[.int .i64 n', .int .i64 s', .int .i64 a', .int .i64 b', .bool g', .string (text t'), .int .i64 d', .int .i64 e'] 61))
      have hc := (hc.kept hb3).kept (alloc_below w3 (.cells #[.int .i64 n', .int .i64 s', .int .i64 a', .int .i64 b', .bool g', .string (text t'), .int .i64 d', .int .i64 e'] 61))
      have hd := Cel.new w3 n' s' a' b' g' t' d' e'
      have HB := Lib.hid ((HB.out.trans (hb3.mono HB.out.size)).alloc (Nat.le_trans HB.out.size hb3.size) (.cells #[.int .i64 n', .int .i64 s', .int .i64 a', .int .i64 b', .bool g', .string (text t'), .int .i64 d', .int .i64 e'] 61))
      obtain ⟨ge, hge⟩ : ∃ q, w3.heap.size = q := ⟨_, rfl⟩
      rw [hge] at hd ⊢
      clear hge hb3 HGT HRG
      generalize w3.alloc (.cells #[.int .i64 n', .int .i64 s', .int .i64 a', .int .i64 b', .bool g', .string (text t'), .int .i64 d', .int .i64 e'] 61) = W3 at *
      have HCW := Lib.hid (fun W (h : Below W3.heap.size W3 W) => (hp.kept h).cs)
      have HCX := Lib.hid (fun W (h : Below W3.heap.size W3 W) => (hc.kept h).cs)
      have HCY := Lib.hid (fun W (h : Below W3.heap.size W3 W) => (hd.kept h).cs)
      clear hp hc hd
      refine wp_region_flow_tail 29 [none, none, none, none, none, none, none, none, none, none, none, none, none, none, none, none, none, none, none, none, none, none, none, none, none, none, none, none, none, none, none, none, none, none, none, none, none, some 0, some 1, some 2, some 3, some 4, some 5, some 6, some 7, some 8, some 9, some 10, some 11, some 12, some 13, some 14, some 15, some 16, some 17, some 18, some 19, some 20, some 21, some 22, some 23, some 24, some 25, some 26, some 27, some 28] (fun i => [undef, undef, undef, undef, undef, undef, undef, undef, undef, undef, undef, undef, undef, undef, undef, undef, undef, undef, undef, undef, undef, undef, undef, undef, undef, undef, undef, undef, undef].getD i undef) [(fun v _ => v = .slice ad m cap), (fun v _ => v = .int .i64 p), (fun v _ => v = .agg #[.int .i64 n, .int .i64 s, .int .i64 a, .int .i64 b, .bool g, .string (text t), .int .i64 d, .int .i64 e]), (fun v W => OwnB W 0 5 v X), (fun v _ => v = .string T), (fun v _ => v = .slice ad m cap), (fun v _ => v = .int .i64 p), (fun v _ => v = .agg #[.int .i64 n, .int .i64 s, .int .i64 a, .int .i64 b, .bool g, .string (text t), .int .i64 d, .int .i64 e]), (fun v W => OwnB W 0 5 v X), (fun v _ => v = .string T), (fun v _ => v = .bool true), (fun v _ => v = .bool true), (fun v _ => v = .agg #[.int .i64 n', .int .i64 s', .int .i64 a', .int .i64 b', .bool g', .string (text t'), .int .i64 d', .int .i64 e']), (fun v _ => v = .agg #[.int .i64 n', .int .i64 s', .int .i64 a', .int .i64 b', .bool g', .string (text t'), .int .i64 d', .int .i64 e']), (fun v _ => v = .bool true), (fun v _ => v = .bool true), (fun v _ => v = .bool true), (fun v _ => v = .int .i64 k), (fun v _ => v = .int .i64 k), (fun v _ => v = .bool true), (fun v _ => v = .bool true), (fun v _ => v = .bool true), (fun v _ => v = .int .i64 f), (fun v _ => v = .int .i64 f), (fun v _ => v = .bool true), (fun v _ => v = .bool true), (fun v _ => v = .bool true), (fun v _ => v = .bool true), (fun v _ => v = .bool true)] (fun _ => False) (by kernel_rfl) (by kernel_rfl) (by kernel_rfl) rfl rfl rfl ?_ ?_ ?_
      · intro g hg v X Y hX hY hv
        simp only [List.mem_cons, List.not_mem_nil, or_false] at hg
        rcases hg with rfl | rfl | rfl | rfl | rfl | rfl | rfl | rfl | rfl | rfl | rfl | rfl | rfl | rfl | rfl | rfl | rfl | rfl | rfl | rfl | rfl | rfl | rfl | rfl | rfl | rfl | rfl | rfl | rfl
        all_goals first
          | exact hv
          | exact hv.kept hY
      · simp only [flowOpsF, List.take_succ_cons, List.take_zero, and_true]
        refine ⟨?_, ?_, ?_, ?_, ?_, ?_, ?_, ?_, ?_, ?_, ?_, ?_, ?_, ?_, ?_, ?_, ?_, ?_, ?_, ?_, ?_, ?_, ?_, ?_, ?_, ?_, ?_, ?_, ?_⟩
        · intro xs W hW hn
          simp only [flowAct, List.zipWith_cons_cons, List.zipWith_nil_left]
          go_wp2_with (fail)
          exact ⟨rfl, _, rfl, Below.refl _ _, rfl, fun h => h.elim⟩
        · intro xs W hW hn
          simp only [flowAct, List.zipWith_cons_cons, List.zipWith_nil_left]
          go_wp2_with (fail)
          exact ⟨rfl, _, rfl, Below.refl _ _, rfl, fun h => h.elim⟩
        · intro xs W hW hn
          obtain ⟨c0, c1, c2, c3, c4, c5, c6, c7⟩ := HCW.out W hW
          simp only [flowAct, List.zipWith_cons_cons, List.zipWith_nil_left]
          go_wp2_with (fail)
          exact ⟨rfl, _, rfl, Below.refl _ _, rfl, fun h => h.elim⟩
        · intro xs W hW hn
          simp [flowNeeds, Region.binds] at hn
          simp only [flowAct, List.zipWith_cons_cons, List.zipWith_nil_left]
          simp only [hn]
          go_wp2_with (go_at_call 40; (with_reducible refine (HPT.out _ (HB.out.trans (hW.mono HB.out.size))).mono ?_); rintro e9 w9 ⟨v9, rfl, ho9, hb9⟩)
          exact ⟨rfl, _, rfl, hb9, ho9.mono (Nat.zero_le _), fun h => h.elim⟩
        · intro xs W hW hn
          simp [flowNeeds, Region.binds] at hn
          simp only [flowAct, List.zipWith_cons_cons, List.zipWith_nil_left]
          obtain ⟨a3, c3, e3, hy3⟩ := OwnB.bys hn
          have hcv := HCV.out _ _ _ _ hy3
          simp only [e3]
          go_wp2_with (fail)
          exact ⟨rfl, _, rfl, Below.refl _ _, rfl, fun h => h.elim⟩
        · intro xs W hW hn
          simp only [flowAct, List.zipWith_cons_cons, List.zipWith_nil_left]
          go_wp2_with (fail)
          exact ⟨rfl, _, rfl, Below.refl _ _, rfl, fun h => h.elim⟩
        · intro xs W hW hn
          simp only [flowAct, List.zipWith_cons_cons, List.zipWith_nil_left]
          go_wp2_with (fail)
          exact ⟨rfl, _, rfl, Below.refl _ _, rfl, fun h => h.elim⟩
        · intro xs W hW hn
          obtain ⟨c0, c1, c2, c3, c4, c5, c6, c7⟩ := HCW.out W hW
          simp only [flowAct, List.zipWith_cons_cons, List.zipWith_nil_left]
          go_wp2_with (fail)
          exact ⟨rfl, _, rfl, Below.refl _ _, rfl, fun h => h.elim⟩
        · intro xs W hW hn
          simp [flowNeeds, Region.binds] at hn
          simp only [flowAct, List.zipWith_cons_cons, List.zipWith_nil_left]
          simp only [hn]
          go_wp2_with (go_at_call 41; (with_reducible refine (HRP.out _ (HB.out.trans (hW.mono HB.out.size))).mono ?_); rintro e9 w9 ⟨v9, rfl, ho9, hb9⟩)
          exact ⟨rfl, _, rfl, hb9, ho9.mono (Nat.zero_le _), fun h => h.elim⟩
        · intro xs W hW hn
          simp [flowNeeds, Region.binds] at hn
          simp only [flowAct, List.zipWith_cons_cons, List.zipWith_nil_left]
          obtain ⟨a3, c3, e3, hy3⟩ := OwnB.bys hn
          have hcv := HCV.out _ _ _ _ hy3
          simp only [e3]
          go_wp2_with (fail)
          exact ⟨rfl, _, rfl, Below.refl _ _, rfl, fun h => h.elim⟩
        · intro xs W hW hn
          simp [flowNeeds, Region.binds] at hn
          simp only [flowAct, List.zipWith_cons_cons, List.zipWith_nil_left]
          try simp only [hn]
          go_wp2_with (fail)
          exact ⟨rfl, _, rfl, Below.refl _ _, rfl, fun h => h.elim⟩
        · intro xs W hW hn
          simp [flowNeeds, Region.binds] at hn
          simp only [flowAct, List.zipWith_cons_cons, List.zipWith_nil_left]
          try simp only [hn]
          go_wp2_with (fail)
          exact ⟨rfl, _, rfl, Below.refl _ _, rfl, fun h => h.elim⟩
        · intro xs W hW hn
          obtain ⟨c0, c1, c2, c3, c4, c5, c6, c7⟩ := HCX.out W hW
          simp [flowNeeds, Region.binds] at hn
          simp only [flowAct, List.zipWith_cons_cons, List.zipWith_nil_left]
          try simp only [hn]
          go_wp2_with (fail)
          exact ⟨rfl, _, rfl, Below.refl _ _, rfl, fun h => h.elim⟩
        · intro xs W hW hn
          obtain ⟨c0, c1, c2, c3, c4, c5, c6, c7⟩ := HCY.out W hW
          simp [flowNeeds, Region.binds] at hn
          simp only [flowAct, List.zipWith_cons_cons, List.zipWith_nil_left]
          try simp only [hn]
          go_wp2_with (fail)
          exact ⟨rfl, _, rfl, Below.refl _ _, rfl, fun h => h.elim⟩
        · intro xs W hW hn
          simp [flowNeeds, Region.binds] at hn
          simp only [flowAct, List.zipWith_cons_cons, List.zipWith_nil_left]
          try simp only [hn]
          go_wp2_with (fail)
          exact ⟨rfl, _, rfl, Below.refl _ _, rfl, fun h => h.elim⟩
        · intro xs W hW hn
          simp [flowNeeds, Region.binds] at hn
          simp only [flowAct, List.zipWith_cons_cons, List.zipWith_nil_left]
          try simp only [hn]
          go_wp2_with (fail)
          exact ⟨rfl, _, rfl, Below.refl _ _, rfl, fun h => h.elim⟩
        · intro xs W hW hn
          simp [flowNeeds, Region.binds] at hn
          simp only [flowAct, List.zipWith_cons_cons, List.zipWith_nil_left]
          try simp only [hn]
          go_wp2_with (fail)
          exact ⟨rfl, _, rfl, Below.refl _ _, rfl, fun h => h.elim⟩
        · intro xs W hW hn
          simp [flowNeeds, Region.binds] at hn
          simp only [flowAct, List.zipWith_cons_cons, List.zipWith_nil_left]
          try simp only [hn]
          go_wp2_with (fail)
          exact ⟨rfl, _, rfl, Below.refl _ _, rfl, fun h => h.elim⟩
        · intro xs W hW hn
          simp [flowNeeds, Region.binds] at hn
          simp only [flowAct, List.zipWith_cons_cons, List.zipWith_nil_left]
          try simp only [hn]
          go_wp2_with (fail)
          exact ⟨rfl, _, rfl, Below.refl _ _, rfl, fun h => h.elim⟩
        · intro xs W hW hn
          simp [flowNeeds, Region.binds] at hn
          simp only [flowAct, List.zipWith_cons_cons, List.zipWith_nil_left]
          try simp only [hn]
          go_wp2_with (fail)
          exact ⟨rfl, _, rfl, Below.refl _ _, rfl, fun h => h.elim⟩
        · intro xs W hW hn
          simp [flowNeeds, Region.binds] at hn
          simp only [flowAct, List.zipWith_cons_cons, List.zipWith_nil_left]
          try simp only [hn]
          go_wp2_with (fail)
          exact ⟨rfl, _, rfl, Below.refl _ _, rfl, fun h => h.elim⟩
        · intro xs W hW hn
          simp [flowNeeds, Region.binds] at hn
          simp only [flowAct, List.zipWith_cons_cons, List.zipWith_nil_left]
          try simp only [hn]
          go_wp2_with (fail)
          exact ⟨rfl, _, rfl, Below.refl _ _, rfl, fun h => h.elim⟩
        · intro xs W hW hn
          simp [flowNeeds, Region.binds] at hn
          simp only [flowAct, List.zipWith_cons_cons, List.zipWith_nil_left]
          try simp only [hn]
          go_wp2_with (fail)
          exact ⟨rfl, _, rfl, Below.refl _ _, rfl, fun h => h.elim⟩
        · intro xs W hW hn
          simp [flowNeeds, Region.binds] at hn
          simp only [flowAct, List.zipWith_cons_cons, List.zipWith_nil_left]
          try simp only [hn]
          go_wp2_with (fail)
          exact ⟨rfl, _, rfl, Below.refl _ _, rfl, fun h => h.elim⟩
        · intro xs W hW hn
          simp [flowNeeds, Region.binds] at hn
          simp only [flowAct, List.zipWith_cons_cons, List.zipWith_nil_left]
          try simp only [hn]
          go_wp2_with (fail)
          exact ⟨rfl, _, rfl, Below.refl _ _, rfl, fun h => h.elim⟩
        · intro xs W hW hn
          simp [flowNeeds, Region.binds] at hn
          simp only [flowAct, List.zipWith_cons_cons, List.zipWith_nil_left]
          try simp only [hn]
          go_wp2_with (fail)
          exact ⟨rfl, _, rfl, Below.refl _ _, rfl, fun h => h.elim⟩
        · intro xs W hW hn
          simp [flowNeeds, Region.binds] at hn
          simp only [flowAct, List.zipWith_cons_cons, List.zipWith_nil_left]
          try simp only [hn]
          go_wp2_with (fail)
          exact ⟨rfl, _, rfl, Below.refl _ _, rfl, fun h => h.elim⟩
        · intro xs W hW hn
          try simp [flowNeeds, Region.binds] at hn
          simp only [flowAct, List.zipWith_cons_cons, List.zipWith_nil_left]
          try simp only [hn]
          go_wp2_with (go_at_call 35; (with_reducible refine (HLv.out _ (HB.out.trans (hW.mono HB.out.size))).mono ?_); rintro e9 w9 ⟨rfl, hb9⟩)
          exact ⟨rfl, _, rfl, hb9, rfl, fun h => h.elim⟩
        · intro xs W hW hn
          simp [flowNeeds, Region.binds] at hn
          simp only [flowAct, List.zipWith_cons_cons, List.zipWith_nil_left]
          try simp only [hn]
          go_wp2_with (fail)
          exact ⟨rfl, _, rfl, Below.refl _ _, rfl, fun h => h.elim⟩
      · intro xs W hW hall hfr
        clear hfr
        simp only [flowAll, and_true, Nat.zero_add, Nat.reduceAdd] at hall
        obtain ⟨-, -, -, -, -, -, -, -, -, -, -, -, -, -, -, -, -, -, -, -, -, -, -, -, -, -, -, -, e28⟩ := hall
        simp only [flowAct, List.zipWith_cons_cons, List.zipWith_nil_left, List.drop_succ_cons, List.drop_zero]
        simp only [e28]
        go_wp2
        go_ret
        exact ⟨rfl, HB.out.trans (hW.mono HB.out.size)⟩
end Go.Proofs.YtkhihfpdghjfmaaDoor
