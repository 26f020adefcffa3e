/-
  Stamp: the walk of StampBack.
-/
import Derived.Test.YtjlolljlhoclhaaDoorWZ
import Derived.Test.YtjlolljlhoclhaaDoorWB
import Derived.Test.YtjlolljlhoclhaaDoorOM
namespace Go.Proofs.YtjlolljlhoclhaaDoor
open Go.RowKit Go Go.Sort
set_option linter.unusedVariables false

theorem scode_bd {n s : Int} (h : sgood n s = true) : 0 ≤ scode n s ∧ scode n s ≤ 4611686018427387903 := by
  have := good_cases h
  unfold scode; split <;> omega
theorem sget_put {n s : Int} (h : sgood n s = true) (t : List UInt8) : sgetS (numB (scode n s) ++ t) = ((n, s), ((numB (scode n s)).length : Int), 0) := by
  obtain ⟨h0, h1⟩ := scode_bd h
  have hg := getS_num (scode n s) t h0 h1
  have hl := (numB_len h0 h1).1
  unfold sgetS
  rw [hg]
  simp only [hl]
  rcases good_cases h with ⟨rfl, rfl⟩ | ⟨g1, g2, g3⟩
  · simp [scode]
  · have hc : scode n s = 2 * n + s - 1 := by unfold scode; rw [if_neg (by omega)]
    have e1 : scode n s / 2 = n := by omega
    have e2 : 1 + scode n s % 2 = s := by omega
    rw [e1, e2]
    simp [h]
    omega
theorem sless_code {n s m t : Int} (h : sgood n s = true) (k : sgood m t = true) : sless n s m t = decide (scode n s < scode m t) := by
  have a := good_cases h
  have b := good_cases k
  unfold sless scode
  congr 1
  rw [eq_iff_iff]
  split <;> split <;> omega
theorem sput_good {n s : Int} (h : sgood n s = true) : sputS [] n s = numB (scode n s) := by unfold sputS; rw [if_pos h]; rfl
theorem sput_bad {n s : Int} (h : sgood n s = false) : sputS [] n s = [] := by unfold sputS; rw [if_neg (by simp [h])]
theorem sput_len (n s : Int) : (sputS [] n s).length ≤ 8 := by
  cases h : sgood n s with
  | false => rw [sput_bad h]; simp
  | true => rw [sput_good h]; have := numB_length (scode n s); omega
theorem stext_len (n s : Int) : (stextS n s).length ≤ 1000 := by
  cases h : sgood n s with
  | false => unfold stextS; rw [if_neg (by simp [h])]; simp
  | true =>
    rcases good_cases h with ⟨rfl, rfl⟩ | ⟨g1, g2, g3⟩
    · decide
    · rw [stextS_big g1 g2 g3, List.length_append]
      have h1 := (digits_len n.toNat (by omega)).2
      have h2 : (sletter s).length ≤ 1 := by unfold sletter; split <;> (try split) <;> simp
      omega

set_option maxRecDepth 100000 in
set_option maxHeartbeats 3200000 in
theorem sback_walk (n s m t : Int) {a : Option Addr} {k cap : Nat} {l : List UInt8} {w : World} (hl : Bys w a k cap l) (hT : TabE w) :
    Calls Tryd.prog 8 #[.agg #[.int .i64 n, .int .i64 s], .agg #[.int .i64 m, .int .i64 t], .slice a k cap] w (Tells (.bool true) w) := by
  obtain ⟨i0, hi, hz0, hz1, hz2⟩ := info_parts Tryd.info5
  have hp := (Pair.new w 23 n s).alloc (.cells #[.int .i64 m, .int .i64 t] 23)
  have hq := Pair.second w (.cells #[.int .i64 n, .int .i64 s] 23) 23 m t
  have hb := second_below w (.cells #[.int .i64 n, .int .i64 s] 23) (.cells #[.int .i64 m, .int .i64 t] 23)
  have hEQ := stamp_eql
  have hEN := stamp_neq
  have hEG := stamp_eqg
  have hle := hl.le
  have hmx := hl.max
  have hln := hl.len
  have HLv := Lib.hid (slives_c stampOk)
  have HT := Lib.hid (hT.grown hb)
  have HL := Lib.hid (hl.below hb)
  have HP := Lib.hid hp
  have HQ := Lib.hid hq
  have HB := Lib.hid hb
  clear hp hq hb hT hl
  by_cases h1 : 1000 < k
  · have hd : (1000 : Int) < (k : Int) := by omega
    go_enter Tryd.func8, Tryd.ntmps8
    go_wp2_with (go_at_call 10; (with_reducible refine (HLv.out _).mono ?_); rintro e w1 ⟨rfl, hb1⟩)
    go_ret
    exact ⟨rfl, HB.out.trans (hb1.mono HB.out.size)⟩
  · have hd : ¬ (1000 : Int) < (k : Int) := by omega
    have hnil : ∀ W, Bys W none 0 0 [] := fun W => ⟨rfl, Nat.le_refl _, by omega, .inl rfl⟩
    have HPa := Lib.hid (fun (W : World) (hT : TabW W) => posted (sput_c (hnil W) (by omega) hT n s))
    have HPb := Lib.hid (fun (W : World) (hT : TabW W) => posted (sput_c (hnil W) (by omega) hT m t))
    have G := sgood_c n s
    go_enter Tryd.func8, Tryd.ntmps8
    go_upto_region 3 with (fail)
    generalize (w.alloc (.cells #[.int .i64 n, .int .i64 s] 23)).alloc (.cells #[.int .i64 m, .int .i64 t] 23) = W1 at *
    have p0 := HP.out.c0
    have p1 := HP.out.c1
    clear hnil
    cases hg : sgood n s with
    | false =>
      rw [hg] at G
      have HG := Lib.hid G
      have hv := sput_bad hg
      have hx : stextS n s = [] := by unfold stextS; rw [if_neg (by simp [hg])]
      have X1 := fun {W : World} (hT : TabE W) => stext_c n s hT.i
      rw [hx] at X1
      rw [hv] at HPa
      have HX1 := Lib.hid (fun (W : World) (hT : TabE W) => X1 hT)
      clear G hg hv hx X1
      go_wp2_with (first
        | (go_at_call 21; (with_reducible refine (HPa.out _ HT.out.i.b).mono ?_); rintro e w2 ⟨b, c, rfl, hy, hb2⟩; have q0 := (HP.out.kept hb2).c0; have q1 := (HP.out.kept hb2).c1; have HT2 := Lib.hid (HT.out.grown hb2); have HP2 := Lib.hid (HP.out.kept hb2))
        | (go_at_call 11; (with_reducible refine (HG.out _).mono ?_); rintro e w3 ⟨rfl, hb3⟩; have r0 := (HP2.out.kept hb3).c0; have r1 := (HP2.out.kept hb3).c1; have HT3 := Lib.hid (HT2.out.grown hb3))
        | (go_at_call 25; (with_reducible refine (HX1.out _ HT3.out).mono ?_); rintro e w4 ⟨rfl, hb4⟩)
        | (go_at_call 10; (with_reducible refine (HLv.out _).mono ?_); rintro e w5 ⟨rfl, hb5⟩))
      go_ret
      have h2 := HB.out.trans (hb2.mono HB.out.size)
      have h3 := h2.trans (hb3.mono h2.size)
      have h4 := h3.trans (hb4.mono h3.size)
      exact ⟨rfl, h4.trans (hb5.mono h4.size)⟩
    | true =>
      rw [hg] at G
      have HG := Lib.hid G
      have hxv := sput_good hg
      have hbd := scode_bd hg
      have hlen8 := numB_length (scode n s)
      have hlen0 := (numB_len hbd.1 hbd.2).2
      have hgt := sget_put hg l
      have hrd := sread_text hg
      have hord : ∀ lb, sputS [] m t = lb → lb.length = (numB (scode n s)).length → sless n s m t = Op.bytesLess (numB (scode n s)) lb := by
        intro lb hlb he
        cases hgb : sgood m t with
        | false => rw [sput_bad hgb] at hlb; subst hlb; simp at he; omega
        | true =>
          rw [sput_good hgb] at hlb
          subst hlb
          obtain ⟨c0, c1⟩ := scode_bd hgb
          rw [sless_code hg hgb, numB_less hbd.1 hbd.2 c0 c1 he.symm]
      have hlb8 := sput_len m t
      rw [hxv] at HPa
      have X1 := fun {W : World} (hT : TabE W) => stext_c n s hT.i
      have R1 := fun {W : World} (hT : TabE W) => sread_c (stextS n s) (stext_len n s) hT
      simp only [hrd] at R1
      obtain ⟨la, hla⟩ : ∃ la, numB (scode n s) = la := ⟨_, rfl⟩
      obtain ⟨lb, hlb⟩ : ∃ lb, sputS [] m t = lb := ⟨_, rfl⟩
      have hord2 := hord lb hlb
      obtain ⟨X, hX⟩ : ∃ S : ByteArray, (⟨(stextS n s).toArray⟩ : ByteArray) = S := ⟨_, rfl⟩
      rw [hX] at X1 R1
      rw [hla] at HPa hlen8 hlen0 hgt hord2
      rw [hlb] at HPb hlb8
      have hget := fun (W : World) (a' : Option Addr) (n' c' : Nat) (h : Bys W a' n' c' (la ++ l)) => sget_c h
      simp only [hgt] at hget
      have HGet := Lib.hid hget
      have HX1 := Lib.hid (fun (W : World) (hT : TabE W) => X1 hT)
      have HR1 := Lib.hid (fun (W : World) (hT : TabE W) => R1 hT)
      have HOrd := Lib.hid hord2
      have hkl : l.length ≤ 1000 := by omega
      have hLs := sless_c n s m t
      obtain ⟨bl, hbl⟩ : ∃ b, sless n s m t = b := ⟨_, rfl⟩
      rw [hbl] at hLs HOrd
      have HLs := Lib.hid (fun (w : World) => tells_grown (w := w) hLs)
      clear G hg hxv hbd hgt hrd hord hord2 hla hlb hX X1 R1 hget hLs hbl
      go_upto_region 6 with (first
        | (go_at_call 21; (with_reducible refine (HPa.out _ HT.out.i.b).mono ?_); rintro e w2 ⟨b, c, rfl, hy, hb2⟩; have q0 := (HP.out.kept hb2).c0; have q1 := (HP.out.kept hb2).c1)
        | (go_at_call 11; (with_reducible refine (HG.out _).mono ?_); rintro e w3 ⟨rfl, hb3⟩))
      have h23 := hb2.trans (hb3.mono hb2.size)
      have HP3 := Lib.hid (HP.out.kept h23)
      have HQ3 := Lib.hid (HQ.out.kept h23)
      have HT3 := Lib.hid (HT.out.grown h23)
      have HL3 := Lib.hid (HL.out.below h23)
      have HY3 := Lib.hid (hy.below hb3)
      have HB3 := Lib.hid (HB.out.trans (h23.mono HB.out.size))
      clear p0 p1 q0 q1 hy hb2 hb3 h23 HP HQ HT HL HB
      have hba := HY3.out.below (alloc_below w3 (.cells #[] 5))
      have hoe := OwnB.empty w3 w3.heap.size 5 (Nat.le_refl _)
      go_upto_region 7 with (first
        | (at_builtin; refine wpList_append_bys rfl (.tmp 35) (.tmp 36) 37 rfl Tryd.underlying37 hi hz0 hz1 hz2 rfl rfl hoe rfl hba (by simp; omega) (by simp) ?_; intro v2 w4 ho2 hg2; rw [List.nil_append] at ho2; have b2 : Below w3.heap.size w3 w4 := ((Below.refl w3.heap.size w3).alloc (Nat.le_refl _) (.cells #[] 5)).grown hg2 (by simp) (fun k hk => (hoe.lt k hk).1); have hl2 := HL3.out.below b2)
        | (at_builtin; refine wpList_append_bys rfl (.tmp 37) (.tmp 38) 37 rfl Tryd.underlying37 hi hz0 hz1 hz2 rfl rfl ho2 rfl hl2 (by omega) b2.size ?_; intro v3 w5 ho3 hg3; have b3 : Below w3.heap.size w3 w5 := b2.grown hg3 b2.size (fun k hk => (ho2.lt k hk).1); obtain ⟨a3, c3, rfl, hb3⟩ := ho3.bys; rw [List.length_append, hln] at hb3)
        | (go_at_call 19; (with_reducible refine (HGet.out _ _ _ _ hb3).mono ?_); rintro e w6 ⟨rfl, hb6⟩; have h36 := b3.trans (hb6.mono b3.size)))
      have HP6 := Lib.hid ((HP3.out.kept h36).alloc (.cells #[.int .i64 n, .int .i64 s] 23))
      have HQ6 := Lib.hid ((HQ3.out.kept h36).alloc (.cells #[.int .i64 n, .int .i64 s] 23))
      have HT6 := Lib.hid ((HT3.out.grown h36).grown (alloc_below w6 (.cells #[.int .i64 n, .int .i64 s] 23)))
      have HY6 := Lib.hid ((HY3.out.below h36).below (alloc_below w6 (.cells #[.int .i64 n, .int .i64 s] 23)))
      have h6 := HB3.out.trans (h36.mono HB3.out.size)
      have HB6 := Lib.hid (h6.alloc h6.size (.cells #[.int .i64 n, .int .i64 s] 23))
      have HC6 := Lib.hid (Pair.new w6 23 n s)
      obtain ⟨gx, hgx⟩ : ∃ g, w6.heap.size = g := ⟨_, rfl⟩
      rw [hgx] at HC6 ⊢
      generalize w6.alloc (.cells #[.int .i64 n, .int .i64 s] 23) = W6 at *
      clear hba hoe ho2 b2 hl2 ho3 b3 hb3 hb6 h36 h6 hgx hg2 hg3 HP3 HQ3 HT3 HL3 HY3 HB3 HGet
      have p0 := HP6.out.c0
      have p1 := HP6.out.c1
      go_upto_region 8 with (first
        | (go_at_call 25; (with_reducible refine (HX1.out _ HT6.out).mono ?_); rintro e w7 ⟨rfl, hb7⟩; have HT7 := Lib.hid (HT6.out.grown hb7))
        | (go_at_call 23; (with_reducible refine (HR1.out _ HT7.out).mono ?_); rintro e w8 ⟨rfl, hb8⟩; have h68 := hb7.trans (hb8.mono hb7.size)))
      have hp8 := (HP6.out.kept h68).alloc (.cells #[.int .i64 n, .int .i64 s] 23)
      have hq8 := (HQ6.out.kept h68).alloc (.cells #[.int .i64 n, .int .i64 s] 23)
      have HT8 := Lib.hid ((HT6.out.grown h68).grown (alloc_below w8 (.cells #[.int .i64 n, .int .i64 s] 23)))
      have HY8 := Lib.hid ((HY6.out.below h68).below (alloc_below w8 (.cells #[.int .i64 n, .int .i64 s] 23)))
      have h8 := HB6.out.trans (h68.mono HB6.out.size)
      have HB8 := Lib.hid (h8.alloc h8.size (.cells #[.int .i64 n, .int .i64 s] 23))
      have hc8 := (HC6.out.kept h68).alloc (.cells #[.int .i64 n, .int .i64 s] 23)
      have hd8 := Pair.new w8 23 n s
      obtain ⟨gy, hgy⟩ : ∃ g, w8.heap.size = g := ⟨_, rfl⟩
      rw [hgy] at hd8 ⊢
      generalize w8.alloc (.cells #[.int .i64 n, .int .i64 s] 23) = W8 at *
      clear p0 p1 hb7 hb8 h68 h8 hgy HP6 HQ6 HT6 HY6 HB6 HC6
      have p0 := hp8.c0
      have p1 := hp8.c1
      have c0 := hc8.c0
      have c1 := hc8.c1
      have d0 := hd8.c0
      have d1 := hd8.c1
      have q0 := hq8.c0
      have q1 := hq8.c1
      have HP8 := Lib.hid hp8
      have HQ8 := Lib.hid hq8
      clear hp8 hq8 hc8 hd8
      go_upto_region 11 with (go_at_call 21; (with_reducible refine (HPb.out _ HT8.out.i.b).mono ?_); rintro e w9 ⟨b', c', rfl, hy', hb9⟩)
      by_cases hE : lb.length = la.length
      · cases bl with
        | true =>
          have hx9 := HY8.out.below hb9
          have hy9 := hy'
          rw [hE] at hy9 ⊢
          have hcx := fun d os => conv_bys (P := Tryd.prog) (hx9.below (below_regrown w9 d os)) Tryd.underlying37 Tryd.underlying5 Tryd.underlying9
          have hcy := fun d os => conv_bys (P := Tryd.prog) (hy9.below (below_regrown w9 d os)) Tryd.underlying37 Tryd.underlying5 Tryd.underlying9
          have hlt : Op.bytesLess (text la).toList (text lb).toList = true := by rw [text_list, text_list]; exact (HOrd.out hE).symm
          obtain ⟨xa, hxa⟩ : ∃ x, text la = x := ⟨_, rfl⟩
          obtain ⟨xb, hxb⟩ : ∃ x, text lb = x := ⟨_, rfl⟩
          rw [hxa] at hcx
          rw [hxb] at hcy
          rw [hxa, hxb] at hlt
          clear hxa hxb hx9 hy9 hy'
          have HB9 := Lib.hid (HB8.out.trans (hb9.mono HB8.out.size))
          have k0 := cell_regrown (HP8.out.kept hb9).c0
          have k1 := cell_regrown (HP8.out.kept hb9).c1
          have k2 := cell_regrown (HQ8.out.kept hb9).c0
          have k3 := cell_regrown (HQ8.out.kept hb9).c1
          clear hb9 p0 p1 c0 c1 d0 d1 q0 q1
          refine wp_region_quiet_below (by kernel_rfl) (by kernel_rfl) ?_
          repeat (go_big_quiet_step (first | with_reducible exact HLs.out _ _ _))
          refine wpQuiet_nil ?_
          intro _ hw'
          obtain ⟨⟨dq, osq⟩, hw''⟩ := hw'
          subst hw''
          have HB10 := Lib.hid (below_regrown w9 dq osq)
          go_wp2_with (go_at_call 10; (with_reducible refine (HLv.out _).mono ?_); rintro e w10 ⟨rfl, hb10⟩)
          go_ret
          have h10 := HB9.out.trans (HB10.out.mono HB9.out.size)
          exact ⟨rfl, h10.trans (hb10.mono h10.size)⟩
        | false =>
          have hx9 := HY8.out.below hb9
          have hy9 := hy'
          rw [hE] at hy9 ⊢
          have hcx := fun d os => conv_bys (P := Tryd.prog) (hx9.below (below_regrown w9 d os)) Tryd.underlying37 Tryd.underlying5 Tryd.underlying9
          have hcy := fun d os => conv_bys (P := Tryd.prog) (hy9.below (below_regrown w9 d os)) Tryd.underlying37 Tryd.underlying5 Tryd.underlying9
          have hlt : Op.bytesLess (text la).toList (text lb).toList = false := by rw [text_list, text_list]; exact (HOrd.out hE).symm
          obtain ⟨xa, hxa⟩ : ∃ x, text la = x := ⟨_, rfl⟩
          obtain ⟨xb, hxb⟩ : ∃ x, text lb = x := ⟨_, rfl⟩
          rw [hxa] at hcx
          rw [hxb] at hcy
          rw [hxa, hxb] at hlt
          clear hxa hxb hx9 hy9 hy'
          have HB9 := Lib.hid (HB8.out.trans (hb9.mono HB8.out.size))
          have k0 := cell_regrown (HP8.out.kept hb9).c0
          have k1 := cell_regrown (HP8.out.kept hb9).c1
          have k2 := cell_regrown (HQ8.out.kept hb9).c0
          have k3 := cell_regrown (HQ8.out.kept hb9).c1
          clear hb9 p0 p1 c0 c1 d0 d1 q0 q1
          refine wp_region_quiet_below (by kernel_rfl) (by kernel_rfl) ?_
          repeat (go_big_quiet_step (first | with_reducible exact HLs.out _ _ _))
          refine wpQuiet_nil ?_
          intro _ hw'
          obtain ⟨⟨dq, osq⟩, hw''⟩ := hw'
          subst hw''
          have HB10 := Lib.hid (below_regrown w9 dq osq)
          go_wp2_with (go_at_call 10; (with_reducible refine (HLv.out _).mono ?_); rintro e w10 ⟨rfl, hb10⟩)
          go_ret
          have h10 := HB9.out.trans (HB10.out.mono HB9.out.size)
          exact ⟨rfl, h10.trans (hb10.mono h10.size)⟩
      · have hq0 := hE
        have hne : ((la.length : Int) == (lb.length : Int)) = false := by rw [beq_eq_false_iff_ne]; omega
        have hne2 : (la.length == lb.length) = false := by rw [beq_eq_false_iff_ne]; omega
        have hne3 : ¬ la.length = lb.length := by omega
        have hly := hy'.len
        clear hy'
        have HB9 := Lib.hid (HB8.out.trans (hb9.mono HB8.out.size))
        have k0 := cell_regrown (HP8.out.kept hb9).c0
        have k1 := cell_regrown (HP8.out.kept hb9).c1
        have k2 := cell_regrown (HQ8.out.kept hb9).c0
        have k3 := cell_regrown (HQ8.out.kept hb9).c1
        clear hb9 p0 p1 c0 c1 d0 d1 q0 q1
        refine wp_region_quiet_below (by kernel_rfl) (by kernel_rfl) ?_
        repeat (go_big_quiet_step (first | with_reducible exact HLs.out _ _ _))
        refine wpQuiet_nil ?_
        intro _ hw'
        obtain ⟨⟨dq, osq⟩, hw''⟩ := hw'
        subst hw''
        have HB10 := Lib.hid (below_regrown w9 dq osq)
        go_wp2_with (go_at_call 10; (with_reducible refine (HLv.out _).mono ?_); rintro e w10 ⟨rfl, hb10⟩)
        go_ret
        have h10 := HB9.out.trans (HB10.out.mono HB9.out.size)
        exact ⟨rfl, h10.trans (hb10.mono h10.size)⟩
end Go.Proofs.YtjlolljlhoclhaaDoor
