/-
  Policy, the program: Decode.
-/
import Derived.Test.YtkhihfpdghjfmaaDoorJD
namespace Go.Proofs.YtkhihfpdghjfmaaDoor
open Go.RowKit Go Go.Sort
set_option linter.unusedVariables false
set_option maxRecDepth 20000

theorem getS_take {l : List UInt8} {p : Int} {q : Nat} (h : getS l = (p, (q : Int), 0)) : l.take q = numB p ∧ q ≤ l.length ∧ 0 ≤ p ∧ p ≤ 4611686018427387903 := by
  obtain ⟨q', h1, h2, h3, h4, h5⟩ := getS_ok l (by rw [h])
  rw [h] at h1 h4 h5
  have e : q' = q := by simp only at h1; omega
  subst e
  refine ⟨?_, h3, h4, h5⟩
  have := getS_form l q' (by rw [h]) (by rw [h])
  rw [h] at this
  exact this.symm
theorem textS_take {l t : List UInt8} {m : Int} {q : Nat} (h : textS l m = (t, (q : Int), 0)) : l.take q = numB (t.length : Int) ++ t ∧ q ≤ l.length ∧ (t.length : Int) ≤ m := by
  unfold textS at h
  by_cases he : (getS l).2.2 = 0
  · obtain ⟨q0, hq, hq1, hq2, hv0, hv1⟩ := getS_ok l he
    rw [if_neg (by omega)] at h
    by_cases c1 : m < (getS l).1
    · rw [if_pos c1] at h; simp at h
    · rw [if_neg c1] at h
      by_cases c2 : (l.length : Int) - (getS l).2.1 < (getS l).1
      · rw [if_pos c2] at h; simp at h
      · rw [if_neg c2] at h
        obtain ⟨⟨v, k, f⟩, hx⟩ : ∃ z, getS l = z := ⟨_, rfl⟩
        rw [hx] at he hq hv0 hv1 h c1 c2
        simp only at he hq hv0 hv1 h c1 c2
        subst he
        subst hq
        obtain ⟨V, rfl⟩ := Int.eq_ofNat_of_zero_le hv0
        have hf := (getS_take hx).1
        simp only [Int.toNat_natCast, Prod.mk.injEq, and_true] at h
        obtain ⟨h1, h2⟩ := h
        have hlen : t.length = V := by rw [← h1, List.length_take, List.length_drop]; omega
        have e : q = q0 + V := by omega
        subst e
        refine ⟨?_, by omega, by omega⟩
        rw [List.take_add, hf, h1, hlen]
  · rw [if_pos he] at h
    simp only [Prod.mk.injEq] at h
    exact absurd h.2.2 he

theorem pget_form {b t : List UInt8} {p k : Int} (h : pgetS b = ((t, p), k, 0)) : ∃ q : Nat, k = (q : Int) ∧ q ≤ b.length ∧ b.take q = oneB (t, p) ∧ t.length ≤ 12 ∧ ∀ n, decFrom (n + 1) b = (decFrom n (b.drop q)).map (fun l => (t, p) :: l) := by
  obtain ⟨⟨t1, k1, f1⟩, h1⟩ : ∃ z, textS b 12 = z := ⟨_, rfl⟩
  by_cases e1 : f1 = 0
  · subst e1
    obtain ⟨q1, hq1, hq2, ht⟩ := textS_ok b 12 (by rw [h1])
    rw [h1] at hq1 ht
    simp only at hq1 ht
    subst hq1
    have hT := textS_take h1
    obtain ⟨⟨p2, k2, f2⟩, h2⟩ : ∃ z, getS (b.drop q1) = z := ⟨_, rfl⟩
    by_cases e2 : f2 = 0
    · subst e2
      obtain ⟨q2, hq3, hq4, hq5, -, -⟩ := getS_ok (b.drop q1) (by rw [h2])
      rw [h2] at hq3
      simp only at hq3
      subst hq3
      rw [pget_ok h1 h2] at h
      simp only [Prod.mk.injEq, and_true] at h
      obtain ⟨⟨rfl, rfl⟩, hk⟩ := h
      have hG := getS_take h2
      rw [List.length_drop] at hq5
      refine ⟨q1 + q2, by omega, by omega, ?_, by omega, fun n => dec_step n b h1 h2⟩
      rw [List.take_add, hT.1, hG.1]
      rfl
    · rw [pget_err2 h1 h2 e2] at h
      simp only [Prod.mk.injEq] at h
      exact absurd h.2.2 e2
  · rw [pget_err1 h1 e1] at h
    simp only [Prod.mk.injEq] at h
    exact absurd h.2.2 e1
theorem pget_bad {b : List UInt8} (h : ¬ (pgetS b).2.2 = 0) (n : Nat) : decFrom (n + 1) b = none := by
  obtain ⟨⟨t1, k1, f1⟩, h1⟩ : ∃ z, textS b 12 = z := ⟨_, rfl⟩
  by_cases e1 : f1 = 0
  · subst e1
    obtain ⟨q1, hq1, hq2, ht⟩ := textS_ok b 12 (by rw [h1])
    rw [h1] at hq1
    simp only at hq1
    subst hq1
    obtain ⟨⟨p2, k2, f2⟩, h2⟩ : ∃ z, getS (b.drop q1) = z := ⟨_, rfl⟩
    by_cases e2 : f2 = 0
    · subst e2
      rw [pget_ok h1 h2] at h
      exact absurd rfl h
    · exact dec_err2 n b h1 (by rw [h2]; exact e2)
  · exact dec_err1 n b (by rw [h1]; exact e1)

set_option maxRecDepth 100000 in
set_option maxHeartbeats 3200000 in
theorem pdecode_c {w : World} {a : Option Addr} {n cap : Nat} {l : List UInt8} (hl : Bys w a n cap l) : Calls Tryd.prog 22 #[.slice a n cap] w (GrpsPost (pdecS l) w) := by
  have hlen := hl.len
  have hmx : n ≤ 9223372036854775807 := Nat.le_trans hl.le hl.max
  have HG1 := Lib.hid (get_c hl)
  have hok := @getS_take l
  have hok0 := getS_ok l
  have HV := Lib.hid (show pdecL l = if (getS l).2.2 = 0 ∧ (getS l).1 ≤ 4 then decFrom (getS l).1.toNat (l.drop (getS l).2.1.toNat) else none from rfl)
  have HW := Lib.hid (show pdecS l = match pdecL l with
    | none => ([], 11)
    | some l1 => if pgoodS l1 = 0 ∧ pbytesS l1 = l then (l1, 0) else ([], 11) from rfl)
  have HB0 := Lib.hid hl
  obtain ⟨⟨x, k0, f⟩, hx⟩ : ∃ q, getS l = q := ⟨_, rfl⟩
  rw [hx] at HG1 HV hok0
  simp only at HG1 HV hok0
  clear hl
  by_cases hf : f = 0
  · subst hf
    obtain ⟨q0, rfl, -, -, -, -⟩ := hok0 rfl
    obtain ⟨hform, hq2, x0, x1⟩ := hok hx
    rw [hlen] at hq2
    clear hok0 hok hx
    by_cases h4 : 4 < x
    · have HR := Lib.hid (show pdecS l = ([], 11) by rw [HW.out, HV.out, if_neg (by omega)])
      clear HW HV hform
      go_enter Tryd.func22, Tryd.ntmps22
      go_wp2_with (go_at_call 48; (with_reducible refine HG1.out.mono ?_); rintro e w1 ⟨rfl, rfl⟩)
      go_ret2
      rw [HR.out]
      exact ⟨_, rfl, OwnG.nil _ _, Below.refl _ _⟩
    · obtain ⟨N, rfl⟩ := Int.eq_ofNat_of_zero_le x0
      have hN4 : N ≤ 4 := by omega
      have h4b : ¬ (4 : Int) < (N : Int) := by omega
      rw [if_pos ⟨rfl, by omega⟩, Int.toNat_natCast, Int.toNat_natCast] at HV
      have HF := Lib.hid hform
      clear x0 x1 hform
      go_enter Tryd.func22, Tryd.ntmps22
      go_upto_region 6 with (go_at_call 48; (with_reducible refine HG1.out.mono ?_); rintro e w1 ⟨rfl, rfl⟩)
      clear h4 h4b
      go_loopw [5, 7, 24] (fun va vl vi wr => ∃ (k q : Nat) (acc : List Grp), va = .int .i64 (q : Int) ∧ vi = .int .i64 (k : Int) ∧ k ≤ N ∧ q ≤ n ∧ acc.length = k ∧ OwnG wr w.heap.size vl acc ∧ (∀ g ∈ acc, g.1.length ≤ 12) ∧ pdecL l = (decFrom (N - k) (l.drop q)).map (fun r => acc ++ r) ∧ l.take q = numB (N : Int) ++ acc.flatMap oneB ∧ Below w.heap.size w wr) (fun _ _ i _ => N - (intOf i).toNat)
      case atStart => exact ⟨0, q0, [], rfl, rfl, by omega, by omega, rfl, OwnG.nil _ _, by simp, by rw [HV.out]; cases decFrom N (l.drop q0) <;> rfl, by rw [HF.out]; simp, Below.refl _ _⟩
      case round =>
        clear HV HF
        obtain ⟨k, q, acc, rfl, rfl, hk, hq, hac, ho, hnm, hv, hfm, hB⟩ := hrel
        have hB0 := HB0.out.below hB
        by_cases hlt : k < N
        · have hki : (k : Int) < (N : Int) := by omega
          obtain ⟨M, hM⟩ : ∃ M, N - k = M + 1 := ⟨N - k - 1, by omega⟩
          have hM2 : N - (k + 1) = M := by omega
          rw [hM] at hv
          obtain ⟨a1, hs1, hs2, hy1⟩ := bys_from hB0 (q := q) hq
          have HGT := Lib.hid (pget_c hy1)
          have hd1 : (l.drop q).length = n - q := by rw [List.length_drop, hlen]
          have hgood := @pget_form (l.drop q)
          have hbad := fun h => @pget_bad (l.drop q) h M
          obtain ⟨⟨⟨t, p⟩, kt, ft⟩, ht⟩ : ∃ z, pgetS (l.drop q) = z := ⟨_, rfl⟩
          rw [ht] at HGT hbad
          simp only at hbad
          by_cases hft : ft = 0
          · subst hft
            obtain ⟨qt, rfl, hqt, hbt, htl, hst⟩ := hgood ht
            rw [hd1] at hqt
            have hv2 : pdecL l = (decFrom (N - (k + 1)) (l.drop (q + qt))).map (fun r => (acc ++ [(t, p)]) ++ r) := by
              rw [hv, hst, hM2, List.drop_drop]
              cases decFrom M (l.drop (q + qt)) <;> simp
            have hfm2 : l.take (q + qt) = numB (N : Int) ++ (acc ++ [(t, p)]).flatMap oneB := by
              rw [List.take_add, hfm, hbt]; simp
            have hnm2 : ∀ g ∈ acc ++ [(t, p)], g.1.length ≤ 12 := by
              intro g hg
              rcases List.mem_append.1 hg with h | h
              · exact hnm g h
              · simp only [List.mem_singleton] at h
                subst h
                exact htl
            have hac2 : (acc ++ [(t, p)]).length = k + 1 := by rw [List.length_append, hac]; rfl
            have hqn : q + qt ≤ n := by omega
            have hsum1 : (q : Int) + (qt : Int) ≤ 9223372036854775807 := by omega
            have hacl : acc.length ≤ 1000000000 := by omega
            have HV2 := Lib.hid hv2
            have HFM := Lib.hid hfm2
            have HN := Lib.hid hnm2
            have HA2 := Lib.hid hac2
            have HAC := Lib.hid hacl
            have HQ := Lib.hid hqn
            have HO := Lib.hid ho
            have HB := Lib.hid hB
            clear hv hv2 hnm hnm2 hac hac2 hacl hqn hst hgood hbad hy1 hB0 ho hB hd1 ht hM hM2 hqt hbt htl hfm hfm2
            go_upto_region 8 with (go_at_call 49; (with_reducible refine HGT.out.mono ?_); rintro e w1 ⟨rfl, hb1⟩)
            have hgn := GrpAt.new w1 t p
            have hal := alloc_below w1 (.cells #[.string (text t), .int .i64 p] 54)
            have hs1 := Nat.le_trans HB.out.size hb1.size
            have ho2 := Lib.hid ((HO.out.kept hb1).kept hal)
            have HB2 := Lib.hid ((HB.out.trans (hb1.mono HB.out.size)).trans (hal.mono hs1))
            clear HO HB hb1 hal hs1
            obtain ⟨gb, hgb⟩ : ∃ q, w1.heap.size = q := ⟨_, rfl⟩
            rw [hgb] at hgn ⊢
            generalize w1.alloc (.cells #[.string (text t), .int .i64 p] 54) = W1 at *
            have c0 := hgn.c0
            have c1 := hgn.c1
            have hs0 := HB2.out.size
            clear hgn hgb
            go_wp2_with (first
              | (at_builtin; go_loud (refine wpList_append_grp rfl (.tmp 36) (.tmp 38) rfl rfl ho2.out t rfl rfl HAC.out hs0 ?_; intro v3 w3 ho3 hg3)))
            go_roundw
            case rel => exact ⟨k + 1, q + qt, _, by simp, rfl, by omega, HQ.out, HA2.out, ho3, HN.out, HV2.out, HFM.out, (HB2.out.alloc hs0 _).grown hg3 (by simp; omega) (fun k hk => (ho2.out.lt k hk).1)⟩
            case measure => simp [intOf]; omega
          · have hfb : (ft != 0) = true := by simpa using hft
            have HR := Lib.hid (show pdecS l = ([], 11) by rw [HW.out, hv, hbad hft]; rfl)
            have HB := Lib.hid hB
            clear hv hnm hac hgood hbad hy1 hB0 ho hB hd1 ht hM hM2 hft HW hfm
            go_wp2_with (go_at_call 49; (with_reducible refine HGT.out.mono ?_); rintro e w1 ⟨rfl, hb1⟩)
            go_ret2
            rw [HR.out]
            exact ⟨_, rfl, OwnG.nil _ _, (HB.out.trans (hb1.mono HB.out.size)).alloc (Nat.le_trans HB.out.size hb1.size) _⟩
        · obtain rfl : k = N := by omega
          have hv2 : pdecL l = some acc := by rw [hv, Nat.sub_self]; simp [decFrom]
          rw [hv2] at HW
          simp only at HW
          have hpb : pbytesS acc = l.take q := by rw [hfm, ← hac]; rfl
          rw [hpb] at HW
          obtain ⟨a1, c1, rfl, hg⟩ := ho.grs
          have hnm9 : ∀ g ∈ acc, g.1.length ≤ 9223372036854775807 := fun g h => Nat.le_trans (hnm g h) (by omega)
          have G := pgood_c hg hnm9
          have HO := Lib.hid ho
          have HB := Lib.hid hB
          have hle := hg.le
          have hmx1 := hg.max
          rw [hac] at G HO hle ⊢
          obtain ⟨e, he⟩ : ∃ e, pgoodS acc = e := ⟨_, rfl⟩
          rw [he] at G HW
          have HG := Lib.hid G
          clear G he hB0 hB ho hg hv hv2 hac hnm hnm9 hfm hpb
          by_cases hqn : q < n
          · have hqi : (q : Int) < (n : Int) := by omega
            have HR := Lib.hid (show pdecS l = ([], 11) by
              rw [HW.out, if_neg]
              intro h
              have := congrArg List.length h.2
              rw [List.length_take] at this
              omega)
            clear HW
            go_wp2
            go_ret2
            rw [HR.out]
            exact ⟨_, rfl, OwnG.nil _ _, HB.out⟩
          · have hqi : ¬ (q : Int) < (n : Int) := by omega
            rw [List.take_of_length_le (by omega)] at HW
            by_cases h0 : e = 0
            · subst h0
              have HR := Lib.hid (show pdecS l = (acc, 0) by rw [HW.out, if_pos ⟨rfl, rfl⟩])
              clear HW
              go_wp2_with (go_at_call 18; (with_reducible refine HG.out.mono ?_); rintro e w1 ⟨rfl, hb1⟩)
              go_ret2
              rw [HR.out]
              exact ⟨_, rfl, by have := HO.out.kept hb1; exact this, HB.out.trans (hb1.mono HB.out.size)⟩
            · have hne : (e != 0) = true := by simpa using h0
              have HR := Lib.hid (show pdecS l = ([], 11) by rw [HW.out, if_neg (fun h => h0 h.1)])
              clear HW h0
              go_wp2_with (go_at_call 18; (with_reducible refine HG.out.mono ?_); rintro e w1 ⟨rfl, hb1⟩)
              go_ret2
              rw [HR.out]
              exact ⟨_, rfl, OwnG.nil _ _, HB.out.trans (hb1.mono HB.out.size)⟩
  · have hne : (f != 0) = true := by simpa using hf
    have HR := Lib.hid (show pdecS l = ([], 11) by rw [HW.out, HV.out, if_neg (fun h => hf h.1)])
    clear HW HV hok hok0 hf hx
    go_enter Tryd.func22, Tryd.ntmps22
    go_wp2_with (go_at_call 48; (with_reducible refine HG1.out.mono ?_); rintro e w1 ⟨rfl, rfl⟩)
    go_ret2
    rw [HR.out]
    exact ⟨_, rfl, OwnG.nil _ _, Below.refl _ _⟩
end Go.Proofs.YtkhihfpdghjfmaaDoor
