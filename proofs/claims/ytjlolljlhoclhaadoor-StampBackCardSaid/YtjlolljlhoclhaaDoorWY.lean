/-
  Stamp: the program's Read.
-/
import Derived.Test.YtjlolljlhoclhaaDoorWX
import Derived.Lib.AtoiErrMem
namespace Go.Proofs.YtjlolljlhoclhaaDoor
open Go.RowKit Go Go.Sort
set_option linter.unusedVariables false

/-- What the walks of texts read of variables. -/
structure TabE (w : World) : Prop where
  i : TabI w
  s : ∃ ev, w.cell? ⟨2, 0, none⟩ = some ev ∧ (ev = .nilIface ∨ ∃ te pe, ev = .iface te pe)
  r : ∃ ev, w.cell? ⟨3, 0, none⟩ = some ev ∧ (ev = .nilIface ∨ ∃ te pe, ev = .iface te pe)
theorem TabE.grown {w w' : World} (h : TabE w) (hb : Below w.heap.size w w') : TabE w' := by
  obtain ⟨hi, ⟨e1, h1, g1⟩, ⟨e2, h2, g2⟩⟩ := h
  exact ⟨hi.grown hb, ⟨e1, by rw [hb.cell (World.block_lt_of_cell? w _ h1)]; exact h1, g1⟩, ⟨e2, by rw [hb.cell (World.block_lt_of_cell? w _ h2)]; exact h2, g2⟩⟩

theorem atoi_c (l : List UInt8) (hl : l.length ≤ 2000) {w : World} (hT : TabE w) : Calls Tryd.prog 53 #[.string ⟨l.toArray⟩] w (fun e w' => ∃ u, e = .returned (.tuple #[.int .i64 (atoiVal l), u]) ∧ Below w.heap.size w w') := by
  have hs : (⟨l.toArray⟩ : ByteArray).size = l.length := by show l.toArray.size = _; simp
  have hd : (⟨l.toArray⟩ : ByteArray).data.toList = l := by simp
  rcases h : Lib.atoiAll l with v | _ | _
  · have hv : atoiVal l = v := by unfold atoiVal; rw [h]
    rw [hv]
    refine (Tryd.strconv_Atoi_ok ⟨l.toArray⟩ (by rw [hs]; omega) v (by rw [hd]; exact h) w).mono ?_
    rintro e w' ⟨rfl, hw⟩
    refine ⟨_, rfl, ?_⟩
    rcases hw with rfl | ⟨t, rfl⟩
    · exact Below.refl _ _
    · exact Lib.bytesWorld_below _ _ _
  · have hv : atoiVal l = 0 := by unfold atoiVal; rw [h]
    rw [hv]
    obtain ⟨ev, hc, he⟩ := hT.s
    refine (Tryd.strconv_Atoi_syntax ⟨l.toArray⟩ (by rw [hs]; omega) (by rw [hd]; exact h) ev w hc he).mono ?_
    rintro e w' ⟨N, rfl, -, -, hb⟩
    exact ⟨_, rfl, hb⟩
  · have hv : atoiVal l = Lib.atoiSat l := by unfold atoiVal; rw [h]
    rw [hv]
    obtain ⟨ev, hc, he⟩ := hT.r
    refine (Tryd.strconv_Atoi_range ⟨l.toArray⟩ (by rw [hs]; omega) (by rw [hd]; exact h) ev w hc he).mono ?_
    rintro e w' ⟨N, rfl, -, -, hb⟩
    exact ⟨_, by rw [hd], hb⟩

theorem idx_two (xs : Array Value) (k : Nat) (hk : k < 2) {v : Value} (hv : xs[k]? = some v) (W : World) : (Instr.index 50 (.agg xs) (.int .i64 (k : Int))).run Tryd.prog W = .ok v W := by
  have hi : (Tryd.prog.info? 3).map (fun i => (i.zero, i.size, i.bytes)) = some (some (.int .i64 0), 1, 8) := by kernel_rfl
  obtain ⟨i0, hi, hz0, hz1, hz2⟩ := info_parts hi
  have hp := srun_part_int (W := W) xs k hv
  have h2 : (k : Int) < 2 := by omega
  simp [Instr.index, run_underlying Tryd.underlying50, asIntOf, hk, hv, sizeOf, typeInfo, hi, hz1, go_sem]

theorem two0 (W : World) : (Instr.index 50 (.agg #[.int .i64 1, .int .i64 2]) (.int .i64 0)).run Tryd.prog W = .ok (.int .i64 1) W := idx_two _ 0 (by decide) rfl W
theorem two1 (W : World) : (Instr.index 50 (.agg #[.int .i64 1, .int .i64 2]) (.int .i64 1)).run Tryd.prog W = .ok (.int .i64 2) W := idx_two _ 1 (by decide) rfl W

set_option maxRecDepth 100000 in
set_option maxHeartbeats 1600000 in
theorem guess_c (l : List UInt8) (hl : l.length ≤ 1000) {w : World} (hT : TabE w) : Calls Tryd.prog 41 #[.string ⟨l.toArray⟩] w (Tells (.agg #[.int .i64 (guessS l).1, .int .i64 (guessS l).2]) w) := by
  have ho := Pair.new w 23 0 0
  have hb := alloc_below w (.cells #[.int .i64 0, .int .i64 0] 23)
  have hs : (⟨l.toArray⟩ : ByteArray).size = l.length := by show l.toArray.size = _; simp
  have hd : (⟨l.toArray⟩ : ByteArray).data.toList = l := by simp
  have HT := Lib.hid (hT.grown hb)
  have HV := Lib.hid (show guessS l = if Lib.hasSuffix l [97] = true then (atoiVal (Lib.trimSuffix l [97]), 1) else if Lib.hasSuffix l [98] = true then (atoiVal (Lib.trimSuffix l [98]), 2) else (0, 0) from rfl)
  have hx0 := two0
  have hx1 := two1
  have L1 := letter_c 1
  have L2 := letter_c 2
  rw [show sletter 1 = [97] by decide] at L1
  rw [show sletter 2 = [98] by decide] at L2
  have C1 := fun w => Tryd.strings_CutSuffix ⟨l.toArray⟩ ⟨#[97]⟩ w (by rw [hs]; omega)
  have C2 := fun w => Tryd.strings_CutSuffix ⟨l.toArray⟩ ⟨#[98]⟩ w (by rw [hs]; omega)
  rw [hd, show (⟨#[97]⟩ : ByteArray).data.toList = [97] from rfl] at C1
  rw [hd, show (⟨#[98]⟩ : ByteArray).data.toList = [98] from rfl] at C2
  have ht : ∀ p, (Lib.trimSuffix l p).length ≤ 2000 := by
    intro p; unfold Lib.trimSuffix; split
    · rw [List.length_take]; omega
    · omega
  have A1 := fun {W : World} (hT : TabE W) => atoi_c (Lib.trimSuffix l [97]) (ht _) hT
  have A2 := fun {W : World} (hT : TabE W) => atoi_c (Lib.trimSuffix l [98]) (ht _) hT
  obtain ⟨t1, ht1⟩ : ∃ t : ByteArray, (⟨(Lib.trimSuffix l [97]).toArray⟩ : ByteArray) = t := ⟨_, rfl⟩
  obtain ⟨t2, ht2⟩ : ∃ t : ByteArray, (⟨(Lib.trimSuffix l [98]).toArray⟩ : ByteArray) = t := ⟨_, rfl⟩
  obtain ⟨v1, hv1⟩ : ∃ v, atoiVal (Lib.trimSuffix l [97]) = v := ⟨_, rfl⟩
  obtain ⟨v2, hv2⟩ : ∃ v, atoiVal (Lib.trimSuffix l [98]) = v := ⟨_, rfl⟩
  obtain ⟨b1, hb1⟩ : ∃ v, Lib.hasSuffix l [97] = v := ⟨_, rfl⟩
  obtain ⟨b2, hb2⟩ : ∃ v, Lib.hasSuffix l [98] = v := ⟨_, rfl⟩
  rw [ht1, hb1] at C1
  rw [ht2, hb2] at C2
  simp only [ht1, hv1] at A1
  simp only [ht2, hv2] at A2
  rw [hb1, hb2, hv1, hv2] at HV
  obtain ⟨S, hS⟩ : ∃ S : ByteArray, (⟨l.toArray⟩ : ByteArray) = S := ⟨_, rfl⟩
  rw [hS] at C1 C2 ⊢
  have HL1 := Lib.hid L1
  have HL2 := Lib.hid L2
  have HC1 := Lib.hid C1
  have HC2 := Lib.hid C2
  have HA1 := Lib.hid (fun (W : World) (hT : TabE W) => A1 hT)
  have HA2 := Lib.hid (fun (W : World) (hT : TabE W) => A2 hT)
  have HO := Lib.hid ho
  have HB := Lib.hid hb
  clear L1 L2 C1 C2 A1 A2 ho hb hT hs hd ht ht1 ht2 hv1 hv2 hb1 hb2 hS
  go_enter Tryd.func41, Tryd.ntmps41
  go_upto_region 1 with (fail)
  generalize w.alloc (.cells #[.int .i64 0, .int .i64 0] 23) = W1 at *
  go_wp2
  go_loopw [10] (fun i wr => (TabE wr ∧ Pair wr w.heap.size 23 0 0 ∧ Below w.heap.size w wr) ∧ ((i = .int .i64 0) ∨ (i = .int .i64 1 ∧ b1 = false) ∨ (i = .int .i64 2 ∧ b1 = false ∧ b2 = false))) (fun i _ => 2 - (intOf i).toNat)
  case atStart => exact ⟨⟨HT.out, HO.out, HB.out⟩, .inl rfl⟩
  case round =>
    clear HT HO HB
    obtain ⟨⟨hT, ho, hB⟩, rfl | ⟨rfl, h1⟩ | ⟨rfl, h1, h2⟩⟩ := hrel
    · have HT := Lib.hid hT
      have HO := Lib.hid ho
      have HB := Lib.hid hB
      clear hT ho hB
      cases b1 with
      | true =>
        go_wp2_with (first
          | (go_at_call 43; (with_reducible refine (HL1.out _).mono ?_); rintro e w1 ⟨rfl, hb1⟩; have hT1 := Lib.hid (HT.out.grown hb1); have o0 := (HO.out.kept hb1).c0; have hO1 := Lib.hid (HO.out.kept hb1))
          | (go_at_call 52; (with_reducible refine (HC1.out _).mono ?_); rintro e w2 ⟨rfl, rfl⟩)
          | (go_at_call 53; (with_reducible refine (HA1.out _ hT1.out).mono ?_); rintro e w3 ⟨u, rfl, hb3⟩; have o0 := (hO1.out.kept hb3).c0; have o1 := (hO1.out.kept hb3).c1; have z0 := (hO1.out.kept hb3).fz 0; have z1 := (hO1.out.kept hb3).fz 1))
        have hB2 := HB.out.trans ((hb1.trans (hb3.mono hb1.size)).mono HB.out.size)
        refine bodyPost_ret (results_cell_row rfl _ _ w.heap.size 23 _ (0, 0) _ rfl (((hO1.out.kept hb3).set0 _).set1 _) Tryd.underlying23 rfl (size2s _ _)) rfl ⟨by rw [HV.out]; simp, (hB2.setCell (Nat.le_refl _) _).setCell (Nat.le_refl _) _⟩
      | false =>
        go_wp2_with (first
          | (go_at_call 43; (with_reducible refine (HL1.out _).mono ?_); rintro e w1 ⟨rfl, hb1⟩)
          | (go_at_call 52; (with_reducible refine (HC1.out _).mono ?_); rintro e w2 ⟨rfl, rfl⟩))
        go_roundw
        case rel => exact ⟨⟨HT.out.grown hb1, HO.out.kept hb1, HB.out.trans (hb1.mono HB.out.size)⟩, .inr (.inl (by simp))⟩
        case measure => simp [intOf]
    · subst h1
      have HT := Lib.hid hT
      have HO := Lib.hid ho
      have HB := Lib.hid hB
      clear hT ho hB
      cases b2 with
      | true =>
        go_wp2_with (first
          | (go_at_call 43; (with_reducible refine (HL2.out _).mono ?_); rintro e w1 ⟨rfl, hb1⟩; have hT1 := Lib.hid (HT.out.grown hb1); have hO1 := Lib.hid (HO.out.kept hb1))
          | (go_at_call 52; (with_reducible refine (HC2.out _).mono ?_); rintro e w2 ⟨rfl, rfl⟩)
          | (go_at_call 53; (with_reducible refine (HA2.out _ hT1.out).mono ?_); rintro e w3 ⟨u, rfl, hb3⟩; have o0 := (hO1.out.kept hb3).c0; have o1 := (hO1.out.kept hb3).c1; have z0 := (hO1.out.kept hb3).fz 0; have z1 := (hO1.out.kept hb3).fz 1))
        have hB2 := HB.out.trans ((hb1.trans (hb3.mono hb1.size)).mono HB.out.size)
        refine bodyPost_ret (results_cell_row rfl _ _ w.heap.size 23 _ (0, 0) _ rfl (((hO1.out.kept hb3).set0 _).set1 _) Tryd.underlying23 rfl (size2s _ _)) rfl ⟨by rw [HV.out]; simp, (hB2.setCell (Nat.le_refl _) _).setCell (Nat.le_refl _) _⟩
      | false =>
        go_wp2_with (first
          | (go_at_call 43; (with_reducible refine (HL2.out _).mono ?_); rintro e w1 ⟨rfl, hb1⟩)
          | (go_at_call 52; (with_reducible refine (HC2.out _).mono ?_); rintro e w2 ⟨rfl, rfl⟩))
        go_roundw
        case rel => exact ⟨⟨HT.out.grown hb1, HO.out.kept hb1, HB.out.trans (hb1.mono HB.out.size)⟩, .inr (.inr (by simp))⟩
        case measure => simp [intOf]
    · subst h1 h2
      have o0 := ho.c0
      have o1 := ho.c1
      have z0 := ho.fz 0
      have z1 := ho.fz 1
      have HO := Lib.hid ho
      have HB := Lib.hid hB
      clear hT ho hB
      go_wp2
      refine bodyPost_ret (results_cell_row rfl _ _ w.heap.size 23 _ (0, 0) _ rfl ((HO.out.set0 _).set1 _) Tryd.underlying23 rfl (size2s _ _)) rfl ⟨by rw [HV.out]; simp, (HB.out.setCell (Nat.le_refl _) _).setCell (Nat.le_refl _) _⟩

set_option maxRecDepth 100000 in
set_option maxHeartbeats 1600000 in
theorem sread_c (l : List UInt8) (hl : l.length ≤ 1000) {w : World} (hT : TabE w) : Calls Tryd.prog 23 #[.string ⟨l.toArray⟩] w (Tells (.tuple #[.agg #[.int .i64 (sreadS l).1.1, .int .i64 (sreadS l).1.2], .int .i64 (sreadS l).2]) w) := by
  have ho := Pair.new w 23 0 0
  have hb := alloc_below w (.cells #[.int .i64 0, .int .i64 0] 23)
  have HT := Lib.hid (hT.grown hb)
  have hG := fun {W : World} (hT : TabE W) => guess_c l hl hT
  have HV := Lib.hid (show sreadS l = if stextS (guessS l).1 (guessS l).2 = l then (guessS l, 0) else ((0, 0), 11) from rfl)
  obtain ⟨⟨x, y⟩, hg⟩ : ∃ q, guessS l = q := ⟨_, rfl⟩
  simp only [hg] at hG HV
  have hX := fun {W : World} (hT : TabE W) => stext_c x y hT.i
  obtain ⟨S, hS⟩ : ∃ S : ByteArray, (⟨l.toArray⟩ : ByteArray) = S := ⟨_, rfl⟩
  obtain ⟨X, hXx⟩ : ∃ S : ByteArray, (⟨(stextS x y).toArray⟩ : ByteArray) = S := ⟨_, rfl⟩
  have hc : (X = S) ↔ stextS x y = l := by
    rw [← hS, ← hXx]
    constructor
    · intro h
      have := congrArg (fun b : ByteArray => b.data.toList) h
      simpa using this
    · intro h; rw [h]
  have hcm : (X.toList == S.toList) = decide (stextS x y = l) := by rw [← hS, ← hXx]; exact text_beq _ _
  simp only [hS] at hG
  simp only [hXx] at hX
  rw [hS]
  have HG := Lib.hid (fun (W : World) (hT : TabE W) => hG hT)
  have HX := Lib.hid (fun (W : World) (hT : TabE W) => hX hT)
  have HO := Lib.hid ho
  have HB := Lib.hid hb
  clear hG hX ho hb hT hg hS hXx
  by_cases he : stextS x y = l
  · have hv : sreadS l = ((x, y), 0) := by rw [HV.out, if_pos he]
    rw [hv]
    obtain rfl : X = S := hc.2 he
    clear hc he hv HV hcm
    go_enter Tryd.func23, Tryd.ntmps23
    go_upto_region 1 with (fail)
    generalize w.alloc (.cells #[.int .i64 0, .int .i64 0] 23) = W1 at *
    go_upto_region 2 with (go_at_call 41; (with_reducible refine (HG.out _ HT.out).mono ?_); rintro e w2 ⟨rfl, hb2⟩)
    have HO2 := Lib.hid ((HO.out.kept hb2).alloc (.cells #[.int .i64 x, .int .i64 y] 23))
    have hx2 := Pair.new w2 23 x y
    have h2 := HB.out.trans (hb2.mono HB.out.size)
    have HB2 := Lib.hid (h2.alloc h2.size (.cells #[.int .i64 x, .int .i64 y] 23))
    have HT2 := Lib.hid ((HT.out.grown hb2).grown (alloc_below w2 (.cells #[.int .i64 x, .int .i64 y] 23)))
    obtain ⟨gx, hgx⟩ : ∃ g, w2.heap.size = g := ⟨_, rfl⟩
    rw [hgx] at hx2 ⊢
    generalize w2.alloc (.cells #[.int .i64 x, .int .i64 y] 23) = W2 at *
    have u0 := hx2.c0
    have u1 := hx2.c1
    have HX2 := Lib.hid hx2
    clear hx2 h2 hb2 hgx HO HB HT
    go_wp2_with (go_at_call 25; (with_reducible refine (HX.out _ HT2.out).mono ?_); rintro e w3 ⟨rfl, hb3⟩; have y0 := (HX2.out.kept hb3).c0; have y1 := (HX2.out.kept hb3).c1; have o0 := (HO2.out.kept hb3).c0; have o1 := (HO2.out.kept hb3).c1; have z0 := (HO2.out.kept hb3).fz 0; have z1 := (HO2.out.kept hb3).fz 1)
    refine bodyPost_ret (res_cell_tmp rfl _ _ w.heap.size 23 _ (0, 0) _ _ rfl rfl (((HO2.out.kept hb3).set0 _).set1 _) Tryd.underlying23 rfl (size2s _ _)) rfl ⟨rfl, ((HB2.out.trans (hb3.mono HB2.out.size)).setCell (Nat.le_refl _) _).setCell (Nat.le_refl _) _⟩
  · have hv : sreadS l = ((0, 0), 11) := by rw [HV.out, if_neg he]
    rw [hv]
    have hne : (X.toList == S.toList) = false := by rw [hcm]; simpa using he
    clear hc he hv HV hcm
    go_enter Tryd.func23, Tryd.ntmps23
    go_upto_region 1 with (fail)
    generalize w.alloc (.cells #[.int .i64 0, .int .i64 0] 23) = W1 at *
    go_upto_region 2 with (go_at_call 41; (with_reducible refine (HG.out _ HT.out).mono ?_); rintro e w2 ⟨rfl, hb2⟩)
    have HO2 := Lib.hid ((HO.out.kept hb2).alloc (.cells #[.int .i64 x, .int .i64 y] 23))
    have hx2 := Pair.new w2 23 x y
    have h2 := HB.out.trans (hb2.mono HB.out.size)
    have HB2 := Lib.hid (h2.alloc h2.size (.cells #[.int .i64 x, .int .i64 y] 23))
    have HT2 := Lib.hid ((HT.out.grown hb2).grown (alloc_below w2 (.cells #[.int .i64 x, .int .i64 y] 23)))
    obtain ⟨gx, hgx⟩ : ∃ g, w2.heap.size = g := ⟨_, rfl⟩
    rw [hgx] at hx2 ⊢
    generalize w2.alloc (.cells #[.int .i64 x, .int .i64 y] 23) = W2 at *
    have u0 := hx2.c0
    have u1 := hx2.c1
    have HX2 := Lib.hid hx2
    clear hx2 h2 hb2 hgx HO HB HT
    go_wp2_with (go_at_call 25; (with_reducible refine (HX.out _ HT2.out).mono ?_); rintro e w3 ⟨rfl, hb3⟩; have y0 := (HX2.out.kept hb3).c0; have y1 := (HX2.out.kept hb3).c1; have o0 := (HO2.out.kept hb3).c0; have o1 := (HO2.out.kept hb3).c1; have z0 := (HO2.out.kept hb3).fz 0; have z1 := (HO2.out.kept hb3).fz 1)
    refine bodyPost_ret (res_cell_tmp rfl _ _ w.heap.size 23 _ (0, 0) _ _ rfl rfl (((HO2.out.kept hb3).set0 _).set1 _) Tryd.underlying23 rfl (size2s _ _)) rfl ⟨rfl, ((HB2.out.trans (hb3.mono HB2.out.size)).setCell (Nat.le_refl _) _).setCell (Nat.le_refl _) _⟩
end Go.Proofs.YtjlolljlhoclhaaDoor
