/-
  Stamp: the reference's Read.
-/
import Derived.Test.YtjlolljlhoclhaaDoorWY
namespace Go.Proofs.YtjlolljlhoclhaaDoor
open Go.RowKit Go Go.Sort
set_option linter.unusedVariables false

theorem index_str (l : List UInt8) (k : Nat) (h : k < l.length) (W : World) : (Instr.index 9 (.string (text l)) (.int .i64 (k : Int))).run Tryd.prog W = .ok (.int .u8 (by8 l k)) W := by
  have hs : (text l).size = l.length := by show l.toArray.size = _; simp
  rw [run_index_string W 9 (text l) .i64 k Tryd.underlying9, dif_pos ⟨by omega, by rw [hs]; omega⟩]
  have e : ((k : Int)).toNat = k := by omega
  simp only [e]
  have hg : (text l)[k]'(by rw [hs]; exact h) = l[k] := rfl
  rw [hg, by8, List.getD_eq_getElem?_getD, List.getElem?_eq_getElem h]
  rfl

theorem decFrom_at (l : List UInt8) (k m : Nat) (h : k < l.length) (hm : Lib.decFrom 0 (l.take k) = some m) :
    (48 ≤ by8 l k ∧ by8 l k ≤ 57 ∧ Lib.decFrom 0 (l.take (k + 1)) = some (m * 10 + (by8 l k - 48).toNat)) ∨ ((by8 l k < 48 ∨ 57 < by8 l k) ∧ Lib.decFrom 0 (l.take (k + 1)) = none) := by
  have hb : by8 l k = ((l[k]).toNat : Int) := by unfold by8; rw [List.getD_eq_getElem?_getD, List.getElem?_eq_getElem h]; rfl
  rw [List.take_succ_eq_append_getElem h, decFrom_snoc, hm]
  simp only [Option.bind_some]
  by_cases hd : 48 ≤ (l[k]).toNat ∧ (l[k]).toNat ≤ 57
  · left
    have hv : Lib.digitVal l[k] = some ((l[k]).toNat - 48) := by unfold Lib.digitVal; rw [if_pos hd]
    refine ⟨by omega, by omega, ?_⟩
    rw [hv]
    simp only [Option.map_some]
    congr 2; omega
  · right
    have hv : Lib.digitVal l[k] = none := by unfold Lib.digitVal; rw [if_neg hd]
    exact ⟨by omega, by rw [hv]; rfl⟩
theorem decFrom_none (l : List UInt8) : ∀ (m : List UInt8) acc, Lib.decFrom acc l = none → Lib.decFrom acc (l ++ m) = none := by
  induction l with
  | nil => intro m acc h; simp [Lib.decFrom] at h
  | cons a t ih =>
    intro m acc h
    simp only [List.cons_append, Lib.decFrom] at h ⊢
    cases hv : Lib.digitVal a with
    | none => rfl
    | some d => rw [hv] at h; exact ih m _ h

theorem text_list (l : List UInt8) : (text l).toList = l := by unfold text; simp
theorem rread_def (l : List UInt8) : rreadS l = if l = [45] then (((0 : Int), (0 : Int)), (0 : Int))
  else if l.length < 2 ∨ 16 < l.length then ((0, 0), 11)
  else match Lib.decFrom 0 l.dropLast with
    | none => ((0, 0), 11)
    | some n => if 0 < n ∧ stextS n 1 = l then (((n : Int), 1), 0) else if 0 < n ∧ stextS n 2 = l then (((n : Int), 2), 0) else ((0, 0), 11) := rfl
theorem rread_none (l : List UInt8) (h45 : l ≠ [45]) (h : Lib.decFrom 0 l.dropLast = none) : rreadS l = ((0, 0), 11) := by
  rw [rread_def, if_neg h45]
  split
  · rfl
  · rw [h]
theorem rread_some (l : List UInt8) (m : Nat) (h45 : l ≠ [45]) (h2 : ¬ (l.length < 2 ∨ 16 < l.length)) (h : Lib.decFrom 0 l.dropLast = some m) :
    rreadS l = if 0 < (m : Int) ∧ stextS m 1 = l then (((m : Int), 1), 0) else if 0 < (m : Int) ∧ stextS m 2 = l then (((m : Int), 2), 0) else ((0, 0), 11) := by
  rw [rread_def, if_neg h45, if_neg h2, h]
  simp only [Int.natCast_pos]

attribute [-go_sem] run_index_string
set_option maxRecDepth 100000 in
set_option maxHeartbeats 3200000 in
theorem rsread_c (l : List UInt8) (w : World) : Calls Tryd.prog 24 #[.string (text l)] w (Tells (.tuple #[.agg #[.int .i64 (rreadS l).1.1, .int .i64 (rreadS l).1.2], .int .i64 (rreadS l).2]) w) := by
  have ho := Pair.new w 23 0 0
  have hb := alloc_below w (.cells #[.int .i64 0, .int .i64 0] 23)
  have hs : (text l).size = l.length := by show l.toArray.size = _; simp
  have hcm : ((text l).toList == [45]) = decide (l = [45]) := by rw [text_list, Bool.eq_iff_iff]; simp
  have HO := Lib.hid ho
  have HB := Lib.hid hb
  clear ho hb
  by_cases h45 : l = [45]
  · rw [decide_eq_true h45] at hcm
    obtain ⟨S, hS⟩ : ∃ S, text l = S := ⟨_, rfl⟩
    rw [hS] at hs hcm ⊢
    have hv : rreadS l = ((0, 0), 0) := by rw [h45]; decide
    rw [hv]
    have o0 := HO.out.c0
    have o1 := HO.out.c1
    have z0 := HO.out.fz 0
    have z1 := HO.out.fz 1
    clear hv h45
    go_enter Tryd.func24, Tryd.ntmps24
    go_wp2
    refine bodyPost_ret (res_cell_tmp rfl _ _ w.heap.size 23 _ (0, 0) _ _ rfl rfl HO.out Tryd.underlying23 rfl (size2s _ _)) rfl ⟨rfl, HB.out⟩
  · rw [decide_eq_false h45] at hcm
    have HH := Lib.hid h45
    by_cases hlen : l.length < 2 ∨ 16 < l.length
    · have hv : rreadS l = ((0, 0), 11) := by rw [rread_def, if_neg h45, if_pos hlen]
      rw [hv]
      obtain ⟨S, hS⟩ : ∃ S, text l = S := ⟨_, rfl⟩
      rw [hS] at hs hcm ⊢
      have o0 := HO.out.c0
      have o1 := HO.out.c1
      have z0 := HO.out.fz 0
      have z1 := HO.out.fz 1
      have hsz : (S.size : Int) = l.length := by omega
      clear hv h45 hs
      obtain ⟨L, hL⟩ : ∃ L, l.length = L := ⟨_, rfl⟩
      rw [hL] at hsz hlen
      rcases hlen with hlen | hlen
      · have hlt : (L : Int) < 2 := by omega
        go_enter Tryd.func24, Tryd.ntmps24
        go_wp2
        refine bodyPost_ret (res_cell_tmp rfl _ _ w.heap.size 23 _ (0, 0) _ _ rfl rfl HO.out Tryd.underlying23 rfl (size2s _ _)) rfl ⟨rfl, HB.out⟩
      · have hlt : ¬ (L : Int) < 2 := by omega
        have hgt : (16 : Int) < (L : Int) := by omega
        go_enter Tryd.func24, Tryd.ntmps24
        go_wp2
        refine bodyPost_ret (res_cell_tmp rfl _ _ w.heap.size 23 _ (0, 0) _ _ rfl rfl HO.out Tryd.underlying23 rfl (size2s _ _)) rfl ⟨rfl, HB.out⟩
    · have hix := fun k hk => index_str l k hk
      have HRS := Lib.hid (fun m => rread_some l m h45 hlen)
      have HRN := Lib.hid (fun h => rread_none l h45 h)
      have hcx : ∀ (n : Int) (s : Int), (((⟨(stextS n s).toArray⟩ : ByteArray)).toList == (text l).toList) = decide (stextS n s = l) := fun n s => text_beq _ _
      obtain ⟨S, hS⟩ : ∃ S, text l = S := ⟨_, rfl⟩
      rw [hS] at hs hcm ⊢
      simp only [hS] at hix hcx
      have HIX := Lib.hid hix
      have HCX := Lib.hid hcx
      have hsz : (S.size : Int) = l.length := by omega
      obtain ⟨L, hL⟩ : ∃ L, l.length = L := ⟨_, rfl⟩
      have HL := Lib.hid hL
      rw [hL] at hsz hlen
      have hlt : ¬ (L : Int) < 2 := by omega
      have hgt : ¬ (16 : Int) < (L : Int) := by omega
      clear h45 hs hix hcx hL
      go_enter Tryd.func24, Tryd.ntmps24
      go_upto_region 6 with (fail)
      generalize w.alloc (.cells #[.int .i64 0, .int .i64 0] 23) = W1 at *
      go_wp2
      go_loopw [4, 5] (fun n i wr => wr = W1 ∧ ∃ k m : Nat, k ≤ L - 1 ∧ i = .int .i64 k ∧ n = .int .i64 m ∧ Lib.decFrom 0 (l.take k) = some m ∧ m < 10 ^ k) (fun _ i _ => L - (intOf i).toNat)
      case atStart => exact ⟨rfl, 0, 0, by omega, rfl, rfl, rfl, by simp⟩
      case round =>
        obtain ⟨rfl, k, m, hk, rfl, rfl, hd, hm⟩ := hrel
        have hm15 : m < 1000000000000000 := Nat.lt_of_lt_of_le hm (by
          have := Nat.pow_le_pow_right (n := 10) (by omega) (show k ≤ 15 by omega)
          simpa using this)
        by_cases hkL : k < L - 1
        · have hki : (k : Int) < (L : Int) - 1 := by omega
          have hx := HIX.out k (by rw [HL.out]; omega)
          have hd2 := decFrom_at l k m (by rw [HL.out]; omega) hd
          have hby := by8_bd l k
          obtain ⟨c, hc⟩ : ∃ c, by8 l k = c := ⟨_, rfl⟩
          rw [hc] at hx hd2 hby
          rcases hd2 with ⟨h1, h2, h3⟩ | ⟨h1, h3⟩
          · have HD := Lib.hid h3
            have hpow : m * 10 + (c - 48).toNat < 10 ^ (k + 1) := by rw [Nat.pow_succ]; omega
            have HP := Lib.hid hpow
            have hm0 : 0 ≤ (m : Int) ∧ (m : Int) < 1000000000000000 := by omega
            obtain ⟨z, hz⟩ : ∃ z : Int, (m : Int) = z := ⟨_, rfl⟩
            have HZ := Lib.hid hz
            rw [hz] at hm0 ⊢
            have hev : 10 * z + (c - 48) = ((m * 10 + (c - 48).toNat : Nat) : Int) := by omega
            have HE := Lib.hid hev
            clear h3 hpow hd hc hm hm15 hz hev
            go_wp2
            go_roundw
            case rel => exact ⟨trivial, k + 1, m * 10 + (c - 48).toNat, by omega, rfl, by rw [HE.out], HD.out, HP.out⟩
            case measure => simp [intOf]; omega
          · have hn : Lib.decFrom 0 l.dropLast = none := by
              rw [List.dropLast_eq_take, HL.out]
              have e : l.take (L - 1) = l.take (k + 1) ++ (l.take (L - 1)).drop (k + 1) := by
                conv => lhs; rw [← List.take_append_drop (k + 1) (l.take (L - 1))]
                rw [List.take_take, Nat.min_eq_left (by omega)]
              rw [e]
              exact decFrom_none _ _ _ h3
            have hv := HRN.out hn
            rw [hv]
            have o0 := HO.out.c0
            have o1 := HO.out.c1
            have z0 := HO.out.fz 0
            have z1 := HO.out.fz 1
            clear h3 hn hv hd hc hm hm15
            obtain ⟨z, hz⟩ : ∃ z : Int, (m : Int) = z := ⟨_, rfl⟩
            rw [hz]
            clear hz
            rcases h1 with h1 | h1
            · go_wp2
              refine bodyPost_ret (res_cell_tmp rfl _ _ w.heap.size 23 _ (0, 0) _ _ rfl rfl ((HO.out.set0 _).set1 _) Tryd.underlying23 rfl (size2s _ _)) rfl ⟨rfl, (HB.out.setCell (Nat.le_refl _) _).setCell (Nat.le_refl _) _⟩
            · have h1b : ¬ c < 48 := by omega
              go_wp2
              refine bodyPost_ret (res_cell_tmp rfl _ _ w.heap.size 23 _ (0, 0) _ _ rfl rfl ((HO.out.set0 _).set1 _) Tryd.underlying23 rfl (size2s _ _)) rfl ⟨rfl, (HB.out.setCell (Nat.le_refl _) _).setCell (Nat.le_refl _) _⟩
        · obtain rfl : k = L - 1 := by omega
          have hds : Lib.decFrom 0 l.dropLast = some m := by rw [List.dropLast_eq_take, HL.out]; exact hd
          have HV := Lib.hid (HRS.out m hds)
          have hLc : ((L - 1 : Nat) : Int) = (L : Int) - 1 := by omega
          have hT1 := rstext_c m 1
          have hT2 := rstext_c m 2
          have hc1 := HCX.out m 1
          have hc2 := HCX.out m 2
          obtain ⟨X1, hX1⟩ : ∃ S : ByteArray, (⟨(stextS m 1).toArray⟩ : ByteArray) = S := ⟨_, rfl⟩
          obtain ⟨X2, hX2⟩ : ∃ S : ByteArray, (⟨(stextS m 2).toArray⟩ : ByteArray) = S := ⟨_, rfl⟩
          rw [hX1] at hT1 hc1
          rw [hX2] at hT2 hc2
          have hz15 : (m : Int) ≤ 1000000000000000 := by omega
          obtain ⟨q1, hq1⟩ : ∃ q, stextS m 1 = q := ⟨_, rfl⟩
          obtain ⟨q2, hq2⟩ : ∃ q, stextS m 2 = q := ⟨_, rfl⟩
          rw [hq1, hq2] at HV
          rw [hq1] at hc1
          rw [hq2] at hc2
          obtain ⟨z, hz⟩ : ∃ z : Int, (m : Int) = z := ⟨_, rfl⟩
          have hz0 : 0 ≤ z := by omega
          rw [hz] at hT1 hT2 HV hz15
          have HT1 := Lib.hid hT1
          have HT2 := Lib.hid hT2
          have HC1 := Lib.hid hc1
          have HC2 := Lib.hid hc2
          rw [hLc, hz]
          clear hd hds hT1 hT2 hc1 hc2 hX1 hX2 hq1 hq2 hm hm15 hz hk hkL
          have hnl : ¬ (L : Int) - 1 < (L : Int) - 1 := by omega
          go_wp2
          go_loopw [6] (fun i wr => (Pair wr w.heap.size 23 0 0 ∧ Below w.heap.size w wr) ∧ (i = .int .i64 1 ∨ (i = .int .i64 2 ∧ ¬ (0 < z ∧ q1 = l)) ∨ (i = .int .i64 3 ∧ ¬ (0 < z ∧ q1 = l) ∧ ¬ (0 < z ∧ q2 = l)))) (fun i _ => 3 - (intOf i).toNat)
          case atStart => exact ⟨⟨HO.out, HB.out⟩, .inl rfl⟩
          case round =>
            clear HO HB
            obtain ⟨⟨ho, hB⟩, rfl | ⟨rfl, hp1⟩ | ⟨rfl, hp1, hp2⟩⟩ := hrel
            · have HO2 := Lib.hid (ho.alloc (.cells #[.int .i64 z, .int .i64 1] 23))
              have hx2 := Pair.new wr 23 z 1
              have HB2 := Lib.hid (hB.alloc hB.size (.cells #[.int .i64 z, .int .i64 1] 23))
              clear ho hB
              go_upto_region 16 with (fail)
              obtain ⟨gx, hgx⟩ : ∃ g, wr.heap.size = g := ⟨_, rfl⟩
              rw [hgx] at hx2 ⊢
              generalize wr.alloc (.cells #[.int .i64 z, .int .i64 1] 23) = W2 at *
              have u0 := hx2.c0
              have u1 := hx2.c1
              have HX2 := Lib.hid hx2
              clear hx2 hgx
              by_cases hz1 : 0 < z
              · by_cases hq : q1 = l
                · have hv : rreadS l = ((z, 1), 0) := by rw [HV.out, if_pos ⟨hz1, hq⟩]
                  have HVr := Lib.hid hv
                  have hcq : (X1.toList == S.toList) = true := by rw [HC1.out, decide_eq_true hq]
                  clear hv hq
                  go_wp2_with (go_at_call 26; (with_reducible refine (HT1.out _).mono ?_); rintro e w3 ⟨rfl, hb3⟩; have y0 := (HX2.out.kept hb3).c0; have y1 := (HX2.out.kept hb3).c1; have o0 := (HO2.out.kept hb3).c0; have o1 := (HO2.out.kept hb3).c1; have z0 := (HO2.out.kept hb3).fz 0; have z1 := (HO2.out.kept hb3).fz 1)
                  refine bodyPost_ret (res_cell_tmp rfl _ _ w.heap.size 23 _ (0, 0) _ _ rfl rfl (((HO2.out.kept hb3).set0 _).set1 _) Tryd.underlying23 rfl (size2s _ _)) rfl ⟨by rw [HVr.out]; rfl, ((HB2.out.trans (hb3.mono HB2.out.size)).setCell (Nat.le_refl _) _).setCell (Nat.le_refl _) _⟩
                · have hcq : (X1.toList == S.toList) = false := by rw [HC1.out, decide_eq_false hq]
                  have HQ := Lib.hid hq
                  clear hq
                  go_wp2_with (go_at_call 26; (with_reducible refine (HT1.out _).mono ?_); rintro e w3 ⟨rfl, hb3⟩)
                  go_roundw
                  case rel => exact ⟨⟨HO2.out.kept hb3, HB2.out.trans (hb3.mono HB2.out.size)⟩, .inr (.inl ⟨rfl, fun h => HQ.out h.2⟩)⟩
                  case measure => simp [intOf]
              · have hz2 : ¬ (0 < z) := hz1
                go_wp2
                go_roundw
                case rel => exact ⟨⟨HO2.out, HB2.out⟩, .inr (.inl ⟨rfl, fun h => hz2 h.1⟩)⟩
                case measure => simp [intOf]
            · have HO2 := Lib.hid (ho.alloc (.cells #[.int .i64 z, .int .i64 2] 23))
              have hx2 := Pair.new wr 23 z 2
              have HB2 := Lib.hid (hB.alloc hB.size (.cells #[.int .i64 z, .int .i64 2] 23))
              have HP1 := Lib.hid hp1
              clear ho hB
              go_upto_region 16 with (fail)
              obtain ⟨gx, hgx⟩ : ∃ g, wr.heap.size = g := ⟨_, rfl⟩
              rw [hgx] at hx2 ⊢
              generalize wr.alloc (.cells #[.int .i64 z, .int .i64 2] 23) = W2 at *
              have u0 := hx2.c0
              have u1 := hx2.c1
              have HX2 := Lib.hid hx2
              clear hx2 hgx
              by_cases hz1 : 0 < z
              · by_cases hq : q2 = l
                · have hv : rreadS l = ((z, 2), 0) := by rw [HV.out, if_neg hp1, if_pos ⟨hz1, hq⟩]
                  have HVr := Lib.hid hv
                  have hcq : (X2.toList == S.toList) = true := by rw [HC2.out, decide_eq_true hq]
                  clear hv hq hp1
                  go_wp2_with (go_at_call 26; (with_reducible refine (HT2.out _).mono ?_); rintro e w3 ⟨rfl, hb3⟩; have y0 := (HX2.out.kept hb3).c0; have y1 := (HX2.out.kept hb3).c1; have o0 := (HO2.out.kept hb3).c0; have o1 := (HO2.out.kept hb3).c1; have z0 := (HO2.out.kept hb3).fz 0; have z1 := (HO2.out.kept hb3).fz 1)
                  refine bodyPost_ret (res_cell_tmp rfl _ _ w.heap.size 23 _ (0, 0) _ _ rfl rfl (((HO2.out.kept hb3).set0 _).set1 _) Tryd.underlying23 rfl (size2s _ _)) rfl ⟨by rw [HVr.out]; rfl, ((HB2.out.trans (hb3.mono HB2.out.size)).setCell (Nat.le_refl _) _).setCell (Nat.le_refl _) _⟩
                · have hcq : (X2.toList == S.toList) = false := by rw [HC2.out, decide_eq_false hq]
                  have HQ := Lib.hid hq
                  clear hq hp1
                  go_wp2_with (go_at_call 26; (with_reducible refine (HT2.out _).mono ?_); rintro e w3 ⟨rfl, hb3⟩)
                  go_roundw
                  case rel => exact ⟨⟨HO2.out.kept hb3, HB2.out.trans (hb3.mono HB2.out.size)⟩, .inr (.inr ⟨rfl, HP1.out, fun h => HQ.out h.2⟩)⟩
                  case measure => simp [intOf]
              · have hz2 : ¬ (0 < z) := hz1
                clear hp1
                go_wp2
                go_roundw
                case rel => exact ⟨⟨HO2.out, HB2.out⟩, .inr (.inr ⟨rfl, HP1.out, fun h => hz2 h.1⟩)⟩
                case measure => simp [intOf]
            · have hv : rreadS l = ((0, 0), 11) := by rw [HV.out, if_neg hp1, if_neg hp2]
              have HVr := Lib.hid hv
              have o0 := ho.c0
              have o1 := ho.c1
              have z0 := ho.fz 0
              have z1 := ho.fz 1
              have HO := Lib.hid ho
              have HB := Lib.hid hB
              clear ho hB hv hp1 hp2
              go_wp2
              refine bodyPost_ret (res_cell_tmp rfl _ _ w.heap.size 23 _ (0, 0) _ _ rfl rfl ((HO.out.set0 _).set1 _) Tryd.underlying23 rfl (size2s _ _)) rfl ⟨by rw [HVr.out]; rfl, (HB.out.setCell (Nat.le_refl _) _).setCell (Nat.le_refl _) _⟩
end Go.Proofs.YtjlolljlhoclhaaDoor
