/-
  Vec: the walk of VecBytes.
-/
import Derived.Test.YtjlolljlhoclhaaDoorVH
namespace Go.Proofs.YtjlolljlhoclhaaDoor
open Go.RowKit Go Go.Sort
set_option linter.unusedVariables false

theorem vposted {P : Program} {f : FuncId} {args : Array Value} {w : World} {l : List UInt8} (h : Calls P f args w (BytesPost l w)) :
    Calls P f args w fun e w' => ∃ b c, e = .returned (.slice b l.length c) ∧ Bys w' b l.length c l ∧ Below w.heap.size w w' := by
  refine h.mono fun e w' hh => ?_
  obtain ⟨v, rfl, ho, hb⟩ := hh
  obtain ⟨b, c, rfl, hy⟩ := ho.bys
  exact ⟨b, c, rfl, hy, hb⟩
theorem vput_good {p q : Int} (h : vgood p q = true) : vputS [] p q = numB p ++ numB q := by unfold vputS; rw [if_pos h]; rfl
theorem vput_bad {p q : Int} (h : vgood p q = false) : vputS [] p q = [] := by unfold vputS; rw [if_neg (by simp [h])]
theorem vput_len (p q : Int) : (vputS [] p q).length ≤ 16 := by
  cases h : vgood p q with
  | false => rw [vput_bad h]; simp
  | true => rw [vput_good h, List.length_append]; have := numB_length p; have := numB_length q; omega
theorem vget_put {p q : Int} (h : vgood p q = true) (t : List UInt8) : vgetS (vputS [] p q ++ t) = ((p, q), ((vputS [] p q).length : Int), 0) := by
  obtain ⟨p0, p1, q0, q1⟩ := vgood_bd h
  rw [vput_good h]
  have g1 := getS_num p (numB q ++ t) p0 (by omega)
  have l1 := (numB_len p0 (by omega)).1
  have g2 := getS_num q t q0 (by omega)
  have l2 := (numB_len q0 (by omega)).1
  rw [l1] at g1
  rw [l2] at g2
  rw [List.append_assoc]
  rw [vget_two (q := (numB p).length) (q2 := (numB q).length) (x := p) (y := q) g1 (by rw [List.drop_left]; exact g2), if_pos h, List.length_append]
  simp

set_option maxRecDepth 100000 in
set_option maxHeartbeats 6400000 in
theorem vbytes_walk (p q : Int) {a : Option Addr} {k cap : Nat} {l : List UInt8} {w : World} (hl : Bys w a k cap l) (hT : TabW w) :
    Calls Tryd.prog 9 #[.slice a k cap, .agg #[.int .i64 p, .int .i64 q]] w (Tells (.bool true) w) := by
  obtain ⟨i0, hi, hz0, hz1, hz2⟩ := info_parts Tryd.info5
  have hp := Pair.new w 51 p q
  have hb := alloc_below w (.cells #[.int .i64 p, .int .i64 q] 51)
  have hEQ := vec_eql
  have hEN := vec_neq
  have hEG := vec_eqg
  have hle := hl.le
  have hmx := hl.max
  have hln := hl.len
  have HLv := Lib.hid vlives_d
  have HTb := Lib.hid (hT.below hb)
  have HL := Lib.hid (hl.below hb)
  have HP := Lib.hid hp
  have HB := Lib.hid hb
  clear hp hb hT hl
  by_cases h1 : 1000 < k
  · have hd : (1000 : Int) < (k : Int) := by omega
    go_enter Tryd.func9, Tryd.ntmps9
    go_wp2_with (go_at_call 27; (with_reducible refine (HLv.out _).mono ?_); rintro e w1 ⟨rfl, hb1⟩)
    go_ret
    exact ⟨rfl, HB.out.trans (hb1.mono HB.out.size)⟩
  · have hd : ¬ (1000 : Int) < (k : Int) := by omega
    have hk5 : k ≤ 100000 := by omega
    have hnil : ∀ W, Bys W none 0 0 [] := fun W => ⟨rfl, Nat.le_refl _, by omega, .inl rfl⟩
    have HPn := fun (W : World) (hT : TabW W) => vposted (vput_c (hnil W) (by omega) hT p q)
    have N1 := fun (W : World) (h : Bys W a k cap l) => vget_c h
    have N2 := fun (W : World) (h : Bys W a k cap l) => rvget_c h
    obtain ⟨⟨⟨x, y⟩, n1, e1⟩, hx⟩ : ∃ z, vgetS l = z := ⟨_, rfl⟩
    simp only [hx] at N1 N2
    have HN1 := Lib.hid N1
    have HN2 := Lib.hid N2
    have G := vgood_c p q
    obtain ⟨lp, hlp⟩ : ∃ z, vputS [] p q = z := ⟨_, rfl⟩
    obtain ⟨lq, hlq⟩ : ∃ z, vputS l p q = z := ⟨_, rfl⟩
    have hlp8 := vput_len p q
    rw [hlp] at HPn hlp8
    have HPn := Lib.hid HPn
    clear N1 N2 hnil hx
    go_enter Tryd.func9, Tryd.ntmps9
    go_upto_region 3 with (fail)
    generalize w.alloc (.cells #[.int .i64 p, .int .i64 q] 51) = W1 at *
    go_upto_region 4 with (go_at_call 28; (with_reducible refine (HN1.out _ HL.out).mono ?_); rintro e w2 ⟨rfl, hb2⟩)
    have HP2 := Lib.hid ((HP.out.kept hb2).alloc (.cells #[.int .i64 x, .int .i64 y] 51))
    have HX2 := Lib.hid (Pair.new w2 51 x y)
    have HB2 := Lib.hid ((HB.out.trans (hb2.mono HB.out.size)).alloc (Nat.le_trans HB.out.size hb2.size) (.cells #[.int .i64 x, .int .i64 y] 51))
    have HL2 := Lib.hid ((HL.out.below hb2).below (alloc_below w2 (.cells #[.int .i64 x, .int .i64 y] 51)))
    have HT2 := Lib.hid ((HTb.out.below hb2).below (alloc_below w2 (.cells #[.int .i64 x, .int .i64 y] 51)))
    obtain ⟨gx, hgx⟩ : ∃ g, w2.heap.size = g := ⟨_, rfl⟩
    rw [hgx] at HX2 ⊢
    clear hb2 hgx HP HB HL HTb
    generalize w2.alloc (.cells #[.int .i64 x, .int .i64 y] 51) = W2 at *
    go_upto_region 5 with (go_at_call 29; (with_reducible refine (HN2.out _ HL2.out).mono ?_); rintro e w3 ⟨rfl, hb3⟩)
    have HP3 := Lib.hid ((HP2.out.kept hb3).alloc (.cells #[.int .i64 x, .int .i64 y] 51))
    have HX3 := Lib.hid ((HX2.out.kept hb3).alloc (.cells #[.int .i64 x, .int .i64 y] 51))
    have HY3 := Lib.hid (Pair.new w3 51 x y)
    have HB3 := Lib.hid ((HB2.out.trans (hb3.mono HB2.out.size)).alloc (Nat.le_trans HB2.out.size hb3.size) (.cells #[.int .i64 x, .int .i64 y] 51))
    have HL3 := Lib.hid ((HL2.out.below hb3).below (alloc_below w3 (.cells #[.int .i64 x, .int .i64 y] 51)))
    have HT3 := Lib.hid ((HT2.out.below hb3).below (alloc_below w3 (.cells #[.int .i64 x, .int .i64 y] 51)))
    obtain ⟨gy, hgy⟩ : ∃ g, w3.heap.size = g := ⟨_, rfl⟩
    rw [hgy] at HY3 ⊢
    clear hb3 hgy HP2 HX2 HB2 HL2 HT2 HN1 HN2
    generalize w3.alloc (.cells #[.int .i64 x, .int .i64 y] 51) = W3 at *
    have p0 := HP3.out.c0
    have p1 := HP3.out.c1
    go_upto_region 6 with (go_at_call 30; (with_reducible refine (HPn.out _ HT3.out).mono ?_); rintro e W4 ⟨b', c', rfl, hy4, hb4⟩)
    have HP4 := Lib.hid (HP3.out.kept hb4)
    have HX4 := Lib.hid (HX3.out.kept hb4)
    have HY4 := Lib.hid (HY3.out.kept hb4)
    have HB4 := Lib.hid (HB3.out.trans (hb4.mono HB3.out.size))
    have HL4 := Lib.hid (HL3.out.below hb4)
    have HT4 := Lib.hid (HT3.out.below hb4)
    have HZ4 := Lib.hid hy4
    clear p0 p1 hb4 hy4 HP3 HX3 HY3 HB3 HL3 HT3 HPn
    have hput := fun W (h : Below W4.heap.size W4 W) => vposted (vput_c (HL4.out.below h) hk5 (HT4.out.below h) p q)
    have href := fun W (h : Below W4.heap.size W4 W) => vposted (rvput_c (HL4.out.below h) hk5 p q)
    rw [hlq] at hput href
    have HPut := Lib.hid hput
    have HRef := Lib.hid href
    have HC := Lib.hid (fun W (h : Below W4.heap.size W4 W) => (And.intro (HP4.out.kept h).c0 (And.intro (HP4.out.kept h).c1 (And.intro (HX4.out.kept h).c0 (And.intro (HX4.out.kept h).c1 (And.intro (HY4.out.kept h).c0 (HY4.out.kept h).c1))))))
    have HCV := Lib.hid (fun (W : World) (b : Option Addr) (c : Nat) (h : Bys W b lq.length c lq) => conv_bys (P := Tryd.prog) (src := 37) (dst := 9) (e := 5) h Tryd.underlying37 Tryd.underlying5 Tryd.underlying9)
    have htb : ((text lq).toList == (text lq).toList) = true := by simp
    clear hput href hlq
    refine wp_region_flow [none, none, none, none, none, none, none, none, none, none, none, none, none, none, none, none, none, none, none, none, none, none, none, none, none, none, none, none, none, none, none, none, none, some 0, some 1, some 2, some 3, some 4, some 5, some 6, some 7, some 8, some 9, some 10, some 11, some 12, some 13, some 14, some 15, some 16, some 17, some 18, some 19, some 20, some 21, some 22, some 23, none, none, none, none, none, none, none, none, none, none, none, none, none, none, none, none, none, none, none, none, none, none, none, none, none, none, none, none, none, none, none, none, none, none, none] (fun _ => undef) [(fun v _ => v = .agg #[.int .i64 x, .int .i64 y]), (fun v _ => v = .agg #[.int .i64 x, .int .i64 y]), (fun v _ => v = .bool false), (fun v _ => v = .bool false), (fun v _ => v = .int .i64 n1), (fun v _ => v = .int .i64 n1), (fun v _ => v = .bool false), (fun v _ => v = .bool false), (fun v _ => v = .bool false), (fun v _ => v = .int .i64 e1), (fun v _ => v = .int .i64 e1), (fun v _ => v = .bool false), (fun v _ => v = .bool false), (fun v _ => v = .bool false), (fun v _ => v = .slice a k cap), (fun v _ => v = .agg #[.int .i64 p, .int .i64 q]), (fun v W => ∃ b c, v = .slice b lq.length c ∧ Bys W b lq.length c lq), (fun v _ => v = .string (text lq)), (fun v _ => v = .slice a k cap), (fun v _ => v = .agg #[.int .i64 p, .int .i64 q]), (fun v W => ∃ b c, v = .slice b lq.length c ∧ Bys W b lq.length c lq), (fun v _ => v = .string (text lq)), (fun v _ => v = .bool false), (fun v _ => v = .bool false)] (by kernel_rfl) (by kernel_rfl) rfl rfl rfl ?_ ?_ ?_
    · intro g hg v X Y hX hY hv
      simp only [List.mem_cons, List.not_mem_nil, or_false] at hg
      rcases hg with rfl | rfl | rfl | rfl | rfl | rfl | rfl | rfl | rfl | rfl | rfl | rfl | rfl | rfl | rfl | rfl | rfl | rfl | rfl | rfl | rfl | rfl | rfl | rfl
      all_goals first
        | exact hv
        | (obtain ⟨b, c, h1, h2⟩ := hv; exact ⟨b, c, h1, h2.below hY⟩)
    · simp only [flowOps, and_true]
      refine ⟨?_, ?_, ?_, ?_, ?_, ?_, ?_, ?_, ?_, ?_, ?_, ?_, ?_, ?_, ?_, ?_, ?_, ?_, ?_, ?_, ?_, ?_, ?_, ?_⟩
      · intro xs W hW hn
        obtain ⟨p0, p1, x0, x1, y0, y1⟩ := HC.out W hW
        simp only [flowAct, List.zipWith_cons_cons, List.zipWith_nil_left]
        try simp only [hn]
        go_wp2_with (fail)
        exact ⟨rfl, _, rfl, Below.refl _ _, rfl⟩
      · intro xs W hW hn
        obtain ⟨p0, p1, x0, x1, y0, y1⟩ := HC.out W hW
        simp only [flowAct, List.zipWith_cons_cons, List.zipWith_nil_left]
        try simp only [hn]
        go_wp2_with (fail)
        exact ⟨rfl, _, rfl, Below.refl _ _, rfl⟩
      · intro xs W hW hn
        obtain ⟨p0, p1, x0, x1, y0, y1⟩ := HC.out W hW
        simp [flowNeeds, Region.binds] at hn
        simp only [flowAct, List.zipWith_cons_cons, List.zipWith_nil_left]
        try simp only [hn]
        go_wp2_with (fail)
        exact ⟨rfl, _, rfl, Below.refl _ _, rfl⟩
      · intro xs W hW hn
        obtain ⟨p0, p1, x0, x1, y0, y1⟩ := HC.out W hW
        simp [flowNeeds, Region.binds] at hn
        simp only [flowAct, List.zipWith_cons_cons, List.zipWith_nil_left]
        try simp only [hn]
        go_wp2_with (fail)
        exact ⟨rfl, _, rfl, Below.refl _ _, rfl⟩
      · intro xs W hW hn
        obtain ⟨p0, p1, x0, x1, y0, y1⟩ := HC.out W hW
        simp [flowNeeds, Region.binds] at hn
        simp only [flowAct, List.zipWith_cons_cons, List.zipWith_nil_left]
        try simp only [hn]
        go_wp2_with (fail)
        exact ⟨rfl, _, rfl, Below.refl _ _, rfl⟩
      · intro xs W hW hn
        obtain ⟨p0, p1, x0, x1, y0, y1⟩ := HC.out W hW
        simp [flowNeeds, Region.binds] at hn
        simp only [flowAct, List.zipWith_cons_cons, List.zipWith_nil_left]
        try simp only [hn]
        go_wp2_with (fail)
        exact ⟨rfl, _, rfl, Below.refl _ _, rfl⟩
      · intro xs W hW hn
        obtain ⟨p0, p1, x0, x1, y0, y1⟩ := HC.out W hW
        simp [flowNeeds, Region.binds] at hn
        simp only [flowAct, List.zipWith_cons_cons, List.zipWith_nil_left]
        try simp only [hn]
        go_wp2_with (fail)
        exact ⟨rfl, _, rfl, Below.refl _ _, rfl⟩
      · intro xs W hW hn
        obtain ⟨p0, p1, x0, x1, y0, y1⟩ := HC.out W hW
        simp [flowNeeds, Region.binds] at hn
        simp only [flowAct, List.zipWith_cons_cons, List.zipWith_nil_left]
        try simp only [hn]
        go_wp2_with (fail)
        exact ⟨rfl, _, rfl, Below.refl _ _, rfl⟩
      · intro xs W hW hn
        obtain ⟨p0, p1, x0, x1, y0, y1⟩ := HC.out W hW
        simp [flowNeeds, Region.binds] at hn
        simp only [flowAct, List.zipWith_cons_cons, List.zipWith_nil_left]
        try simp only [hn]
        go_wp2_with (fail)
        exact ⟨rfl, _, rfl, Below.refl _ _, rfl⟩
      · intro xs W hW hn
        obtain ⟨p0, p1, x0, x1, y0, y1⟩ := HC.out W hW
        simp [flowNeeds, Region.binds] at hn
        simp only [flowAct, List.zipWith_cons_cons, List.zipWith_nil_left]
        try simp only [hn]
        go_wp2_with (fail)
        exact ⟨rfl, _, rfl, Below.refl _ _, rfl⟩
      · intro xs W hW hn
        obtain ⟨p0, p1, x0, x1, y0, y1⟩ := HC.out W hW
        simp [flowNeeds, Region.binds] at hn
        simp only [flowAct, List.zipWith_cons_cons, List.zipWith_nil_left]
        try simp only [hn]
        go_wp2_with (fail)
        exact ⟨rfl, _, rfl, Below.refl _ _, rfl⟩
      · intro xs W hW hn
        obtain ⟨p0, p1, x0, x1, y0, y1⟩ := HC.out W hW
        simp [flowNeeds, Region.binds] at hn
        simp only [flowAct, List.zipWith_cons_cons, List.zipWith_nil_left]
        try simp only [hn]
        go_wp2_with (fail)
        exact ⟨rfl, _, rfl, Below.refl _ _, rfl⟩
      · intro xs W hW hn
        obtain ⟨p0, p1, x0, x1, y0, y1⟩ := HC.out W hW
        simp [flowNeeds, Region.binds] at hn
        simp only [flowAct, List.zipWith_cons_cons, List.zipWith_nil_left]
        try simp only [hn]
        go_wp2_with (fail)
        exact ⟨rfl, _, rfl, Below.refl _ _, rfl⟩
      · intro xs W hW hn
        obtain ⟨p0, p1, x0, x1, y0, y1⟩ := HC.out W hW
        simp [flowNeeds, Region.binds] at hn
        simp only [flowAct, List.zipWith_cons_cons, List.zipWith_nil_left]
        try simp only [hn]
        go_wp2_with (fail)
        exact ⟨rfl, _, rfl, Below.refl _ _, rfl⟩
      · intro xs W hW hn
        obtain ⟨p0, p1, x0, x1, y0, y1⟩ := HC.out W hW
        simp [flowNeeds, Region.binds] at hn
        simp only [flowAct, List.zipWith_cons_cons, List.zipWith_nil_left]
        try simp only [hn]
        go_wp2_with (fail)
        exact ⟨rfl, _, rfl, Below.refl _ _, rfl⟩
      · intro xs W hW hn
        obtain ⟨p0, p1, x0, x1, y0, y1⟩ := HC.out W hW
        simp [flowNeeds, Region.binds] at hn
        simp only [flowAct, List.zipWith_cons_cons, List.zipWith_nil_left]
        try simp only [hn]
        go_wp2_with (fail)
        exact ⟨rfl, _, rfl, Below.refl _ _, rfl⟩
      · intro xs W hW hn
        obtain ⟨p0, p1, x0, x1, y0, y1⟩ := HC.out W hW
        simp [flowNeeds, Region.binds] at hn
        simp only [flowAct, List.zipWith_cons_cons, List.zipWith_nil_left]
        simp only [hn]
        go_wp2_with (go_at_call 30; (with_reducible refine (HPut.out _ hW).mono ?_); rintro e w9 ⟨b, c, rfl, hy, hb9⟩)
        exact ⟨rfl, _, rfl, hb9, b, c, rfl, hy⟩
      · intro xs W hW hn
        obtain ⟨p0, p1, x0, x1, y0, y1⟩ := HC.out W hW
        simp [flowNeeds, Region.binds] at hn
        simp only [flowAct, List.zipWith_cons_cons, List.zipWith_nil_left]
        obtain ⟨⟨b, c, eb, hy⟩, hg2⟩ := hn
        have hcv := HCV.out _ _ _ hy
        simp only [eb, hg2]
        go_wp2_with (fail)
        exact ⟨rfl, _, rfl, Below.refl _ _, rfl⟩
      · intro xs W hW hn
        obtain ⟨p0, p1, x0, x1, y0, y1⟩ := HC.out W hW
        simp [flowNeeds, Region.binds] at hn
        simp only [flowAct, List.zipWith_cons_cons, List.zipWith_nil_left]
        try simp only [hn]
        go_wp2_with (fail)
        exact ⟨rfl, _, rfl, Below.refl _ _, rfl⟩
      · intro xs W hW hn
        obtain ⟨p0, p1, x0, x1, y0, y1⟩ := HC.out W hW
        simp [flowNeeds, Region.binds] at hn
        simp only [flowAct, List.zipWith_cons_cons, List.zipWith_nil_left]
        try simp only [hn]
        go_wp2_with (fail)
        exact ⟨rfl, _, rfl, Below.refl _ _, rfl⟩
      · intro xs W hW hn
        obtain ⟨p0, p1, x0, x1, y0, y1⟩ := HC.out W hW
        simp [flowNeeds, Region.binds] at hn
        simp only [flowAct, List.zipWith_cons_cons, List.zipWith_nil_left]
        simp only [hn]
        go_wp2_with (go_at_call 31; (with_reducible refine (HRef.out _ hW).mono ?_); rintro e w9 ⟨b, c, rfl, hy, hb9⟩)
        exact ⟨rfl, _, rfl, hb9, b, c, rfl, hy⟩
      · intro xs W hW hn
        obtain ⟨p0, p1, x0, x1, y0, y1⟩ := HC.out W hW
        simp [flowNeeds, Region.binds] at hn
        simp only [flowAct, List.zipWith_cons_cons, List.zipWith_nil_left]
        obtain ⟨⟨b, c, eb, hy⟩, hg2⟩ := hn
        have hcv := HCV.out _ _ _ hy
        simp only [eb, hg2]
        go_wp2_with (fail)
        exact ⟨rfl, _, rfl, Below.refl _ _, rfl⟩
      · intro xs W hW hn
        obtain ⟨p0, p1, x0, x1, y0, y1⟩ := HC.out W hW
        simp [flowNeeds, Region.binds] at hn
        simp only [flowAct, List.zipWith_cons_cons, List.zipWith_nil_left]
        try simp only [hn]
        go_wp2_with (fail)
        exact ⟨rfl, _, rfl, Below.refl _ _, rfl⟩
      · intro xs W hW hn
        obtain ⟨p0, p1, x0, x1, y0, y1⟩ := HC.out W hW
        simp [flowNeeds, Region.binds] at hn
        simp only [flowAct, List.zipWith_cons_cons, List.zipWith_nil_left]
        try simp only [hn]
        go_wp2_with (fail)
        exact ⟨rfl, _, rfl, Below.refl _ _, rfl⟩
    · intro xs W hW hall
      simp only [flowAll, and_true, Nat.zero_add, Nat.reduceAdd] at hall
      obtain ⟨-, -, -, -, -, -, -, -, -, -, -, -, -, -, -, -, -, -, -, -, -, -, -, e23⟩ := hall
      simp only [flowAct, List.zipWith_cons_cons, List.zipWith_nil_left, e23]
      have HP5 := Lib.hid (HP4.out.kept hW)
      have HL5 := Lib.hid (HL4.out.below hW)
      have HZ5 := Lib.hid (HZ4.out.below hW)
      have HB5 := Lib.hid (HB4.out.trans (hW.mono HB4.out.size))
      have p0 := HP5.out.c0
      have p1 := HP5.out.c1
      clear hW e23 HP4 HX4 HY4 HB4 HL4 HT4 HZ4 HPut HRef HC HCV htb
      cases hg : vgood p q with
      | false =>
        rw [hg] at G
        have HG := Lib.hid G
        have hn : lp = [] := by rw [← hlp]; exact vput_bad hg
        subst hn
        clear G hg hlp
        go_wp2_with (first
          | (go_at_call 32; (with_reducible refine (HG.out _).mono ?_); rintro e w5 ⟨rfl, hb5⟩)
          | (go_at_call 27; (with_reducible refine (HLv.out _).mono ?_); rintro e w6 ⟨rfl, hb6⟩))
        go_ret
        have h5 := HB5.out.trans (hb5.mono HB5.out.size)
        exact ⟨rfl, h5.trans (hb6.mono h5.size)⟩
      | true =>
        rw [hg] at G
        have HG := Lib.hid G
        have hgt := vget_put hg l
        rw [hlp] at hgt
        have hget := fun (W : World) (a' : Option Addr) (n' c' : Nat) (h : Bys W a' n' c' (lp ++ l)) => vget_c h
        simp only [hgt] at hget
        have HGet := Lib.hid hget
        have hkl : l.length ≤ 1000 := by omega
        clear G hg hlp hgt hget
        go_upto_region 10 with (go_at_call 32; (with_reducible refine (HG.out _).mono ?_); rintro e w5 ⟨rfl, hb5⟩)
        have HP6 := Lib.hid (HP5.out.kept hb5)
        have HL6 := Lib.hid (HL5.out.below hb5)
        have HZ6 := Lib.hid (HZ5.out.below hb5)
        have HB6 := Lib.hid (HB5.out.trans (hb5.mono HB5.out.size))
        clear p0 p1 hb5 HP5 HL5 HZ5 HB5
        have hba := HZ6.out.below (alloc_below w5 (.cells #[] 5))
        have hoe := OwnB.empty w5 w5.heap.size 5 (Nat.le_refl _)
        go_upto_region 11 with (first
          | (at_builtin; refine wpList_append_bys rfl (.tmp 67) (.tmp 68) 37 rfl Tryd.underlying37 hi hz0 hz1 hz2 rfl rfl hoe rfl hba (by simp; omega) (by simp) ?_; intro v2 w6 ho2 hg2; rw [List.nil_append] at ho2; have b2 : Below w5.heap.size w5 w6 := ((Below.refl w5.heap.size w5).alloc (Nat.le_refl _) (.cells #[] 5)).grown hg2 (by simp) (fun k hk => (hoe.lt k hk).1); have hl2 := HL6.out.below b2)
          | (at_builtin; refine wpList_append_bys rfl (.tmp 69) (.tmp 70) 37 rfl Tryd.underlying37 hi hz0 hz1 hz2 rfl rfl ho2 rfl hl2 (by omega) b2.size ?_; intro v3 w7 ho3 hg3; have b3 : Below w5.heap.size w5 w7 := b2.grown hg3 b2.size (fun k hk => (ho2.lt k hk).1); obtain ⟨a3, c3, rfl, hb3⟩ := ho3.bys; rw [List.length_append, hln] at hb3)
          | (go_at_call 28; (with_reducible refine (HGet.out _ _ _ _ hb3).mono ?_); rintro e w8 ⟨rfl, hb8⟩; have h58 := b3.trans (hb8.mono b3.size)))
        have hp8 := (HP6.out.kept h58).alloc (.cells #[.int .i64 p, .int .i64 q] 51)
        have h8 := HB6.out.trans (h58.mono HB6.out.size)
        have HB8 := Lib.hid (h8.alloc h8.size (.cells #[.int .i64 p, .int .i64 q] 51))
        have hc8 := Pair.new w8 51 p q
        obtain ⟨gz, hgz⟩ : ∃ g, w8.heap.size = g := ⟨_, rfl⟩
        rw [hgz] at hc8 ⊢
        generalize w8.alloc (.cells #[.int .i64 p, .int .i64 q] 51) = W8 at *
        clear hba hoe ho2 b2 hl2 ho3 b3 hb3 hb8 h58 h8 hgz hg2 hg3 HP6 HL6 HZ6 HB6 HGet
        have p0 := hp8.c0
        have p1 := hp8.c1
        have c0 := hc8.c0
        have c1 := hc8.c1
        clear hp8 hc8
        go_wp2_with (go_at_call 27; (with_reducible refine (HLv.out _).mono ?_); rintro e w9 ⟨rfl, hb9⟩)
        go_ret
        exact ⟨rfl, HB8.out.trans (hb9.mono HB8.out.size)⟩
end Go.Proofs.YtjlolljlhoclhaaDoor
