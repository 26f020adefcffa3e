/-
  Policy: the reference's Decode.
-/
import Derived.Test.YtkhihfpdghjfmaaDoorQ9
namespace Go.Proofs.YtkhihfpdghjfmaaDoor
open Go.RowKit Go Go.Sort
set_option linter.unusedVariables false
set_option maxRecDepth 20000

theorem bys_from {W : World} {a : Option Addr} {n cap : Nat} {l : List UInt8} (h : Bys W a n cap l) {q : Nat} (hq : q ≤ n) :
    ∃ a', (∀ W', (Instr.slice 34 (.slice a n cap) (some (.int .i64 (q : Int))) none none).run Tryd.prog W' = .ok (.slice a' (n - q) (cap - q)) W') ∧
      (∀ W', (Instr.sliceAt 34 (.slice a n cap) (some (.int .i64 (q : Int))) none none).run Tryd.prog W' = .ok (.slice a' (n - q) (cap - q)) W') ∧ Bys W a' (n - q) (cap - q) (l.drop q) := by
  have hle := h.le
  have he : Tryd.prog.elem 34 = 5 := by kernel_rfl
  obtain ⟨i0, hi, hz0, hz1, hz2⟩ := info_parts Tryd.info5
  have key : ∃ a', (∀ W', (Instr.slice 34 (.slice a n cap) (some (.int .i64 (q : Int))) none none).run Tryd.prog W' = .ok (.slice a' (n - q) (cap - q)) W') ∧ Bys W a' (n - q) (cap - q) (l.drop q) := by
    by_cases hc : cap = q
    · refine ⟨a, fun W' => ?_, h.dropEnd hq hc⟩
      rw [run_slice_l W' 34 a n cap (by kernel_rfl) .i64 (q : Int) (by omega) (by omega), he]
      have hsz : (sizeOf 5).run Tryd.prog W' = .ok 1 W' := by simp [sizeOf, typeInfo, hi, hz1, go_sem]
      rw [hsz]
      simp only [Result.andThen_ok, sliced, Int.toNat_natCast, Nat.mul_one]
      rw [if_pos hc]
    · refine ⟨a.map (fun x => x.add q), fun W' => ?_, h.drop hq⟩
      rw [run_slice_l W' 34 a n cap (by kernel_rfl) .i64 (q : Int) (by omega) (by omega), he]
      have hsz : (sizeOf 5).run Tryd.prog W' = .ok 1 W' := by simp [sizeOf, typeInfo, hi, hz1, go_sem]
      rw [hsz]
      simp only [Result.andThen_ok, sliced, Int.toNat_natCast, Nat.mul_one]
      rw [if_neg hc]
  obtain ⟨a', h1, h2⟩ := key
  refine ⟨a', h1, fun W' => ?_, h2⟩
  rw [run_sliceAt_slice _ _ _ _ _ _ (by kernel_rfl)]
  exact h1 W'

theorem textS_ok (l : List UInt8) (m : Int) (h : (textS l m).2.2 = 0) : ∃ q : Nat, (textS l m).2.1 = (q : Int) ∧ q ≤ l.length ∧ ((textS l m).1.length : Int) ≤ m := by
  unfold textS at h ⊢
  by_cases he : (getS l).2.2 = 0
  · obtain ⟨q, hq, hq1, hq2, hv0, hv1⟩ := getS_ok l he
    rw [if_neg (by omega)] at h ⊢
    by_cases c1 : m < (getS l).1
    · rw [if_pos c1] at h; cases h
    · rw [if_neg c1] at h ⊢
      by_cases c2 : (l.length : Int) - (getS l).2.1 < (getS l).1
      · rw [if_pos c2] at h; cases h
      · rw [if_neg c2]
        refine ⟨q + (getS l).1.toNat, ?_, by omega, ?_⟩
        · simp only []; omega
        · simp only [List.length_take]; omega
  · rw [if_pos he] at h; exact absurd h he

/-- n groups off the head of bytes. -/
def decFrom : Nat → List UInt8 → Option (List Grp)
  | 0, _ => some []
  | n + 1, b => if (textS b 12).2.2 = 0 then (if (getS (b.drop (textS b 12).2.1.toNat)).2.2 = 0 then
      (decFrom n ((b.drop (textS b 12).2.1.toNat).drop (getS (b.drop (textS b 12).2.1.toNat)).2.1.toNat)).map (fun l => ((textS b 12).1, (getS (b.drop (textS b 12).2.1.toNat)).1) :: l) else none) else none
def pdecL (b : List UInt8) : Option (List Grp) := if (getS b).2.2 = 0 ∧ (getS b).1 ≤ 4 then decFrom (getS b).1.toNat (b.drop (getS b).2.1.toNat) else none
def pdecS (b : List UInt8) : List Grp × Int := match pdecL b with
  | none => ([], 11)
  | some l => if pgoodS l = 0 ∧ pbytesS l = b then (l, 0) else ([], 11)
theorem dec_err1 (n : Nat) (b : List UInt8) (h : ¬ (textS b 12).2.2 = 0) : decFrom (n + 1) b = none := by unfold decFrom; rw [if_neg h]
theorem dec_err2 (n : Nat) (b : List UInt8) {t : List UInt8} {q : Nat} (h1 : textS b 12 = (t, (q : Int), 0)) (h : ¬ (getS (b.drop q)).2.2 = 0) : decFrom (n + 1) b = none := by
  unfold decFrom; rw [h1]; simp [h]
theorem dec_step (n : Nat) (b : List UInt8) {t : List UInt8} {p : Int} {q q2 : Nat} (h1 : textS b 12 = (t, (q : Int), 0)) (h2 : getS (b.drop q) = (p, (q2 : Int), 0)) :
    decFrom (n + 1) b = (decFrom n (b.drop (q + q2))).map (fun l => (t, p) :: l) := by
  show (if (textS b 12).2.2 = 0 then (if (getS (b.drop (textS b 12).2.1.toNat)).2.2 = 0 then
      (decFrom n ((b.drop (textS b 12).2.1.toNat).drop (getS (b.drop (textS b 12).2.1.toNat)).2.1.toNat)).map (fun l => ((textS b 12).1, (getS (b.drop (textS b 12).2.1.toNat)).1) :: l) else none) else none) = _
  rw [h1]
  simp only [Int.toNat_natCast, if_true]
  rw [h2]
  simp only [Int.toNat_natCast, if_true, List.drop_drop]

set_option maxRecDepth 100000 in
set_option maxHeartbeats 3200000 in
theorem rpdecode_c {w : World} {a : Option Addr} {n cap : Nat} {l : List UInt8} (hl : Bys w a n cap l) : Calls Tryd.prog 23 #[.slice a n cap] w (GrpsPost (pdecS l) w) := by
  have hlen := hl.len
  have hmx : n ≤ 9223372036854775807 := Nat.le_trans hl.le hl.max
  have HG1 := Lib.hid (rget_c hl)
  have hok := getS_ok l
  have HV := Lib.hid (show pdecL l = if (getS l).2.2 = 0 ∧ (getS l).1 ≤ 4 then decFrom (getS l).1.toNat (l.drop (getS l).2.1.toNat) else none from rfl)
  have HW := Lib.hid (show pdecS l = match pdecL l with
    | none => ([], 11)
    | some l1 => if pgoodS l1 = 0 ∧ pbytesS l1 = l then (l1, 0) else ([], 11) from rfl)
  have HB0 := Lib.hid hl
  obtain ⟨⟨x, k0, f⟩, hx⟩ : ∃ q, getS l = q := ⟨_, rfl⟩
  rw [hx] at HG1 hok HV
  simp only at HG1 hok HV
  clear hl hx
  by_cases hf : f = 0
  · subst hf
    obtain ⟨q0, rfl, hq1, hq2, x0, x1⟩ := hok rfl
    rw [hlen] at hq2
    by_cases h4 : 4 < x
    · have HR := Lib.hid (show pdecS l = ([], 11) by rw [HW.out, HV.out, if_neg (by omega)])
      clear HW HV hok
      go_enter Tryd.func23, Tryd.ntmps23
      go_wp2_with (go_at_call 50; (with_reducible refine HG1.out.mono ?_); rintro e w1 ⟨rfl, rfl⟩)
      go_ret2
      rw [HR.out]
      exact ⟨_, rfl, OwnG.nil _ _, Below.refl _ _⟩
    · obtain ⟨N, rfl⟩ := Int.eq_ofNat_of_zero_le x0
      have hN4 : N ≤ 4 := by omega
      have h4b : ¬ (4 : Int) < (N : Int) := by omega
      rw [if_pos ⟨rfl, by omega⟩, Int.toNat_natCast, Int.toNat_natCast] at HV
      clear hok x0 x1
      go_enter Tryd.func23, Tryd.ntmps23
      go_upto_region 6 with (go_at_call 50; (with_reducible refine HG1.out.mono ?_); rintro e w1 ⟨rfl, rfl⟩)
      clear h4 h4b
      go_loopw [5, 7, 8] (fun va vl vi wr => ∃ (k q : Nat) (acc : List Grp), va = .int .i64 (q : Int) ∧ vi = .int .i64 (k : Int) ∧ k ≤ N ∧ q ≤ n ∧ acc.length = k ∧ OwnG wr w.heap.size vl acc ∧ (∀ g ∈ acc, g.1.length ≤ 12) ∧ pdecL l = (decFrom (N - k) (l.drop q)).map (fun r => acc ++ r) ∧ Below w.heap.size w wr) (fun _ _ i _ => N - (intOf i).toNat)
      case atStart => exact ⟨0, q0, [], rfl, rfl, by omega, by omega, rfl, OwnG.nil _ _, by simp, by rw [HV.out]; cases decFrom N (l.drop q0) <;> rfl, Below.refl _ _⟩
      case round =>
        clear HV
        obtain ⟨k, q, acc, rfl, rfl, hk, hq, hac, ho, hnm, hv, hB⟩ := hrel
        have hB0 := HB0.out.below hB
        by_cases hlt : k < N
        · have hki : (k : Int) < (N : Int) := by omega
          obtain ⟨M, hM⟩ : ∃ M, N - k = M + 1 := ⟨N - k - 1, by omega⟩
          have hM2 : N - (k + 1) = M := by omega
          rw [hM] at hv
          obtain ⟨a1, hs1, hs2, hy1⟩ := bys_from hB0 (q := q) hq
          have hokt := textS_ok (l.drop q) 12
          have HGT := Lib.hid (rgettext_c hy1 12 (by omega) (by omega))
          have hd1 : (l.drop q).length = n - q := by rw [List.length_drop, hlen]
          have he1 := dec_err1 M (l.drop q)
          have he2 := @dec_err2 M (l.drop q)
          have hst := @dec_step M (l.drop q)
          obtain ⟨⟨t, kt, ft⟩, ht⟩ : ∃ z, textS (l.drop q) 12 = z := ⟨_, rfl⟩
          rw [ht] at HGT hokt he1 he2 hst
          simp only at HGT hokt he1
          rw [hd1] at hokt
          by_cases hft : ft = 0
          · subst hft
            obtain ⟨qt, rfl, hqt, htl⟩ := hokt rfl
            have hqq : q + qt ≤ n := by omega
            obtain ⟨a2, hs3, hs4, hy2⟩ := bys_from hB0 (q := q + qt) hqq
            have hcast : ((q + qt : Nat) : Int) = (q : Int) + (qt : Int) := by omega
            rw [hcast] at hs3 hs4
            have hok2 := getS_ok (l.drop (q + qt))
            have HG2 := Lib.hid (rget_c hy2)
            have hd2 : (l.drop (q + qt)).length = n - (q + qt) := by rw [List.length_drop, hlen]
            have hdd : (l.drop q).drop qt = l.drop (q + qt) := by rw [List.drop_drop]
            have hsum1 : (q : Int) + (qt : Int) ≤ 9223372036854775807 := by omega
            have he2 := he2 (q := qt) rfl
            have hst := fun (p : Int) (q2 : Nat) => hst (p := p) (q := qt) (q2 := q2) rfl
            rw [hdd] at he2 hst
            obtain ⟨⟨p, kp, fp⟩, hp⟩ : ∃ z, getS (l.drop (q + qt)) = z := ⟨_, rfl⟩
            rw [hp] at HG2 hok2 he2 hst
            simp only at HG2 hok2 he2
            rw [hd2] at hok2
            by_cases hfp : fp = 0
            · subst hfp
              obtain ⟨qp, rfl, hqp1, hqp, p0, p1⟩ := hok2 rfl
              have hst := hst p qp rfl
              rw [List.drop_drop] at hst
              have hsum2 : (q : Int) + (qt : Int) + (qp : Int) ≤ 9223372036854775807 := by omega
              have hv2 : pdecL l = (decFrom (N - (k + 1)) (l.drop (q + qt + qp))).map (fun r => (acc ++ [(t, p)]) ++ r) := by
                rw [hv, hst, hM2, Nat.add_assoc]
                cases decFrom M (l.drop (q + (qt + qp))) <;> simp
              have hnm2 : ∀ g ∈ acc ++ [(t, p)], g.1.length ≤ 12 := by
                intro g hg
                rcases List.mem_append.1 hg with h | h
                · exact hnm g h
                · simp only [List.mem_singleton] at h
                  subst h
                  show t.length ≤ 12
                  omega
              have hac2 : (acc ++ [(t, p)]).length = k + 1 := by rw [List.length_append, hac]; rfl
              have hqn : q + qt + qp ≤ n := by omega
              have hacl : acc.length ≤ 1000000000 := by omega
              have HV2 := Lib.hid hv2
              have HN := Lib.hid hnm2
              have HA2 := Lib.hid hac2
              have HAC := Lib.hid hacl
              have HQ := Lib.hid hqn
              have HO := Lib.hid ho
              have HB := Lib.hid hB
              have hs0 := hB.size
              clear hv hv2 hnm hnm2 hac hac2 hacl hqn hst he1 he2 hokt hok2 hy1 hy2 hB0 ho hB hdd hd1 hd2 hcast ht hp hM hM2 hqt htl hqp hqp1 hqq
              go_wp2_with (first
                | (go_at_call 51; (with_reducible refine HGT.out.mono ?_); rintro e w1 ⟨rfl, rfl⟩)
                | (go_at_call 50; (with_reducible refine HG2.out.mono ?_); rintro e w2 ⟨rfl, rfl⟩)
                | (at_builtin; go_loud (refine wpList_append_grp rfl (.tmp 56) (.tmp 60) rfl rfl HO.out t rfl rfl HAC.out hs0 ?_; intro v3 w3 ho3 hg3)))
              go_roundw
              case rel => exact ⟨k + 1, q + qt + qp, _, by simp, rfl, by omega, HQ.out, HA2.out, ho3, HN.out, HV2.out, (HB.out.alloc hs0 _).grown hg3 (by simp; omega) (fun k hk => (HO.out.lt k hk).1)⟩
              case measure => simp [intOf]; omega
            · have hfb : (fp != 0) = true := by simpa using hfp
              have HR := Lib.hid (show pdecS l = ([], 11) by rw [HW.out, hv, he2 hfp]; rfl)
              have HB := Lib.hid hB
              clear hv hnm hac hst he1 he2 hokt hok2 hy1 hy2 hB0 ho hB hdd hd1 hd2 hcast ht hp hM hM2 hqt htl hqq hfp HW
              go_wp2_with (first
                | (go_at_call 51; (with_reducible refine HGT.out.mono ?_); rintro e w1 ⟨rfl, rfl⟩)
                | (go_at_call 50; (with_reducible refine HG2.out.mono ?_); rintro e w2 ⟨rfl, rfl⟩))
              go_ret2
              rw [HR.out]
              exact ⟨_, rfl, OwnG.nil _ _, HB.out⟩
          · have hfb : (ft != 0) = true := by simpa using hft
            have HR := Lib.hid (show pdecS l = ([], 11) by rw [HW.out, hv, he1 hft]; rfl)
            have HB := Lib.hid hB
            clear hv hnm hac hst he1 he2 hokt hy1 hB0 ho hB hd1 ht hM hM2 hft HW
            go_wp2_with (go_at_call 51; (with_reducible refine HGT.out.mono ?_); rintro e w1 ⟨rfl, rfl⟩)
            go_ret2
            rw [HR.out]
            exact ⟨_, rfl, OwnG.nil _ _, HB.out⟩
        · obtain rfl : k = N := by omega
          have hv2 : pdecL l = some acc := by rw [hv, Nat.sub_self]; simp [decFrom]
          rw [hv2] at HW
          simp only at HW
          obtain ⟨a1, c1, rfl, hg⟩ := ho.grs
          have hnm9 : ∀ g ∈ acc, g.1.length ≤ 9223372036854775807 := fun g h => Nat.le_trans (hnm g h) (by omega)
          have G := rpgood_c hg hnm9
          have hsch := @schema_names acc
          have HG0 := Lib.hid hg
          have HO := Lib.hid ho
          have HB := Lib.hid hB
          have hle := hg.le
          have hmx1 := hg.max
          rw [hac] at G HG0 HO hle ⊢
          obtain ⟨e, he⟩ : ∃ e, pgoodS acc = e := ⟨_, rfl⟩
          rw [he] at G hsch HW
          have HG := Lib.hid (fun W (h : Below wr.heap.size wr W) => G)
          clear HG
          have HG := Lib.hid (fun W (h : Below wr.heap.size wr W) => (show Calls Tryd.prog 19 #[.slice a1 k c1] W (Tells (.int .i64 e) W) by have := rpgood_c (HG0.out.below h) hnm9; rwa [he] at this))
          have HS := Lib.hid hB0
          clear G he hB0 hB ho hg hv hv2 hac
          have hcv := fun (W : World) (a3 : Option Addr) (c3 : Nat) (m3 : List UInt8) (n3 : Nat) (h3 : Bys W a3 n3 c3 m3) => conv_bys (P := Tryd.prog) h3 Tryd.underlying34 Tryd.underlying5 Tryd.underlying9
          have HCV := Lib.hid hcv
          clear hcv
          by_cases h0 : e = 0
          · subst h0
            obtain ⟨h1, h5, hn2⟩ := hsch rfl
            have hn12 : ∀ g ∈ acc, g.1.length ≤ 12 ∧ (g.2 = 1 ∨ g.2 = 2) := fun g hg => ⟨(name_len (hn2 g hg).1).2, (hn2 g hg).2⟩
            have HT := Lib.hid (fun W (h : Below wr.heap.size wr W) => rpbytes_c (HG0.out.below h) hN4 hn12)
            obtain ⟨X, hX⟩ : ∃ X, pbytesS acc = X := ⟨_, rfl⟩
            rw [hX] at HT HW
            have hcmp := text_same X l
            clear hn2 hn12 hsch hX hnm hnm9 h1 h5
            by_cases hts : X = l
            · have HR := Lib.hid (show pdecS l = (acc, 0) by rw [HW.out, if_pos ⟨rfl, hts⟩])
              rw [decide_eq_true hts] at hcmp
              clear hts HW
              go_upto_region 17 with (fail)
              refine wp_region_flow [none, none, none, none, none, none, none, none, none, none, none, none, none, none, none, none, none, none, none, none, none, none, none, none, none, none, none, none, none, none, none, none, none, none, none, none, none, none, none, none, none, none, none, none, none, none, none, none, none, none, none, none, none, none, none, none, none, none, none, none, none, none, some 0, some 1, some 2, some 3, some 4, some 5, some 6, some 7, some 8, some 9, some 10, none] (fun _ => undef) [(fun v _ => v = .slice a1 k c1), (fun v _ => v = .int .i64 0), (fun v _ => v = .bool false), (fun v _ => v = .bool false), (fun v _ => v = .slice a1 k c1), (fun v W => OwnB W wr.heap.size 5 v X), (fun v _ => v = .string (text X)), (fun v _ => v = .slice a n cap), (fun v _ => v = .string (text l)), (fun v _ => v = .bool false), (fun v _ => v = .bool false)] (by kernel_rfl) (by kernel_rfl) rfl rfl rfl ?_ ?_ ?_
              · intro g hg v X' Y hX hY hv
                simp only [List.mem_cons, List.not_mem_nil, or_false] at hg
                rcases hg with rfl | rfl | rfl | rfl | rfl | rfl | rfl | rfl | rfl | rfl | rfl
                all_goals first
                  | exact hv
                  | exact hv.kept hY
              · simp only [flowOps, and_true]
                refine ⟨?_, ?_, ?_, ?_, ?_, ?_, ?_, ?_, ?_, ?_, ?_⟩
                · intro xs W hW hn
                  simp only [flowAct, List.zipWith_cons_cons, List.zipWith_nil_left]
                  go_wp2_with (fail)
                  exact ⟨rfl, _, rfl, Below.refl _ _, rfl⟩
                · intro xs W hW hn
                  simp [flowNeeds, Region.binds] at hn
                  simp only [flowAct, List.zipWith_cons_cons, List.zipWith_nil_left]
                  simp only [hn]
                  go_wp2_with (go_at_call 19; (with_reducible refine (HG.out _ hW).mono ?_); rintro e9 w9 ⟨rfl, hb9⟩)
                  exact ⟨rfl, _, rfl, hb9, rfl⟩
                · intro xs W hW hn
                  simp [flowNeeds, Region.binds] at hn
                  simp only [flowAct, List.zipWith_cons_cons, List.zipWith_nil_left]
                  simp only [hn]
                  go_wp2_with (fail)
                  exact ⟨rfl, _, rfl, Below.refl _ _, rfl⟩
                · intro xs W hW hn
                  simp [flowNeeds, Region.binds] at hn
                  simp only [flowAct, List.zipWith_cons_cons, List.zipWith_nil_left]
                  simp only [hn]
                  go_wp2_with (fail)
                  exact ⟨rfl, _, rfl, Below.refl _ _, rfl⟩
                · intro xs W hW hn
                  simp [flowNeeds, Region.binds] at hn
                  simp only [flowAct, List.zipWith_cons_cons, List.zipWith_nil_left]
                  simp only [hn]
                  go_wp2_with (fail)
                  exact ⟨rfl, _, rfl, Below.refl _ _, rfl⟩
                · intro xs W hW hn
                  simp [flowNeeds, Region.binds] at hn
                  simp only [flowAct, List.zipWith_cons_cons, List.zipWith_nil_left]
                  simp only [hn]
                  go_wp2_with (go_at_call 47; (with_reducible refine (HT.out _ hW).mono ?_); rintro e9 w9 ⟨v9, rfl, ho9, hb9⟩)
                  exact ⟨rfl, _, rfl, hb9, ho9.mono hW.size⟩
                · intro xs W hW hn
                  simp [flowNeeds, Region.binds] at hn
                  simp only [flowAct, List.zipWith_cons_cons, List.zipWith_nil_left]
                  obtain ⟨ho3, e5⟩ := hn
                  obtain ⟨a3, c3, e3, hy3⟩ := ho3.bys
                  have hcv := HCV.out _ _ _ _ _ hy3
                  simp only [e3, e5]
                  go_wp2_with (fail)
                  exact ⟨rfl, _, rfl, Below.refl _ _, rfl⟩
                · intro xs W hW hn
                  simp [flowNeeds, Region.binds] at hn
                  simp only [flowAct, List.zipWith_cons_cons, List.zipWith_nil_left]
                  simp only [hn]
                  go_wp2_with (fail)
                  exact ⟨rfl, _, rfl, Below.refl _ _, rfl⟩
                · intro xs W hW hn
                  simp [flowNeeds, Region.binds] at hn
                  simp only [flowAct, List.zipWith_cons_cons, List.zipWith_nil_left]
                  have hcv := HCV.out _ _ _ _ _ (HS.out.below hW)
                  simp only [hn]
                  go_wp2_with (fail)
                  exact ⟨rfl, _, rfl, Below.refl _ _, rfl⟩
                · intro xs W hW hn
                  simp [flowNeeds, Region.binds] at hn
                  simp only [flowAct, List.zipWith_cons_cons, List.zipWith_nil_left]
                  simp only [hn]
                  go_wp2_with (fail)
                  exact ⟨rfl, _, rfl, Below.refl _ _, rfl⟩
                · intro xs W hW hn
                  simp [flowNeeds, Region.binds] at hn
                  simp only [flowAct, List.zipWith_cons_cons, List.zipWith_nil_left]
                  simp only [hn]
                  go_wp2_with (fail)
                  exact ⟨rfl, _, rfl, Below.refl _ _, rfl⟩
              · intro xs W hW hall
                simp only [flowAll, and_true, Nat.zero_add, Nat.reduceAdd] at hall
                obtain ⟨-, -, -, -, -, -, -, -, -, -, e10⟩ := hall
                simp only [flowAct, List.zipWith_cons_cons, List.zipWith_nil_left, e10]
                go_wp2
                go_ret2
                rw [HR.out]
                exact ⟨_, rfl, by have := HO.out.kept hW; exact this, HB.out.trans (hW.mono HB.out.size)⟩
            · have HR := Lib.hid (show pdecS l = ([], 11) by rw [HW.out, if_neg (fun h => hts h.2)])
              rw [decide_eq_false hts] at hcmp
              clear hts HW
              go_upto_region 17 with (fail)
              refine wp_region_flow [none, none, none, none, none, none, none, none, none, none, none, none, none, none, none, none, none, none, none, none, none, none, none, none, none, none, none, none, none, none, none, none, none, none, none, none, none, none, none, none, none, none, none, none, none, none, none, none, none, none, none, none, none, none, none, none, none, none, none, none, none, none, some 0, some 1, some 2, some 3, some 4, some 5, some 6, some 7, some 8, some 9, some 10, none] (fun _ => undef) [(fun v _ => v = .slice a1 k c1), (fun v _ => v = .int .i64 0), (fun v _ => v = .bool false), (fun v _ => v = .bool false), (fun v _ => v = .slice a1 k c1), (fun v W => OwnB W wr.heap.size 5 v X), (fun v _ => v = .string (text X)), (fun v _ => v = .slice a n cap), (fun v _ => v = .string (text l)), (fun v _ => v = .bool true), (fun v _ => v = .bool true)] (by kernel_rfl) (by kernel_rfl) rfl rfl rfl ?_ ?_ ?_
              · intro g hg v X' Y hX hY hv
                simp only [List.mem_cons, List.not_mem_nil, or_false] at hg
                rcases hg with rfl | rfl | rfl | rfl | rfl | rfl | rfl | rfl | rfl | rfl | rfl
                all_goals first
                  | exact hv
                  | exact hv.kept hY
              · simp only [flowOps, and_true]
                refine ⟨?_, ?_, ?_, ?_, ?_, ?_, ?_, ?_, ?_, ?_, ?_⟩
                · intro xs W hW hn
                  simp only [flowAct, List.zipWith_cons_cons, List.zipWith_nil_left]
                  go_wp2_with (fail)
                  exact ⟨rfl, _, rfl, Below.refl _ _, rfl⟩
                · intro xs W hW hn
                  simp [flowNeeds, Region.binds] at hn
                  simp only [flowAct, List.zipWith_cons_cons, List.zipWith_nil_left]
                  simp only [hn]
                  go_wp2_with (go_at_call 19; (with_reducible refine (HG.out _ hW).mono ?_); rintro e9 w9 ⟨rfl, hb9⟩)
                  exact ⟨rfl, _, rfl, hb9, rfl⟩
                · intro xs W hW hn
                  simp [flowNeeds, Region.binds] at hn
                  simp only [flowAct, List.zipWith_cons_cons, List.zipWith_nil_left]
                  simp only [hn]
                  go_wp2_with (fail)
                  exact ⟨rfl, _, rfl, Below.refl _ _, rfl⟩
                · intro xs W hW hn
                  simp [flowNeeds, Region.binds] at hn
                  simp only [flowAct, List.zipWith_cons_cons, List.zipWith_nil_left]
                  simp only [hn]
                  go_wp2_with (fail)
                  exact ⟨rfl, _, rfl, Below.refl _ _, rfl⟩
                · intro xs W hW hn
                  simp [flowNeeds, Region.binds] at hn
                  simp only [flowAct, List.zipWith_cons_cons, List.zipWith_nil_left]
                  simp only [hn]
                  go_wp2_with (fail)
                  exact ⟨rfl, _, rfl, Below.refl _ _, rfl⟩
                · intro xs W hW hn
                  simp [flowNeeds, Region.binds] at hn
                  simp only [flowAct, List.zipWith_cons_cons, List.zipWith_nil_left]
                  simp only [hn]
                  go_wp2_with (go_at_call 47; (with_reducible refine (HT.out _ hW).mono ?_); rintro e9 w9 ⟨v9, rfl, ho9, hb9⟩)
                  exact ⟨rfl, _, rfl, hb9, ho9.mono hW.size⟩
                · intro xs W hW hn
                  simp [flowNeeds, Region.binds] at hn
                  simp only [flowAct, List.zipWith_cons_cons, List.zipWith_nil_left]
                  obtain ⟨ho3, e5⟩ := hn
                  obtain ⟨a3, c3, e3, hy3⟩ := ho3.bys
                  have hcv := HCV.out _ _ _ _ _ hy3
                  simp only [e3, e5]
                  go_wp2_with (fail)
                  exact ⟨rfl, _, rfl, Below.refl _ _, rfl⟩
                · intro xs W hW hn
                  simp [flowNeeds, Region.binds] at hn
                  simp only [flowAct, List.zipWith_cons_cons, List.zipWith_nil_left]
                  simp only [hn]
                  go_wp2_with (fail)
                  exact ⟨rfl, _, rfl, Below.refl _ _, rfl⟩
                · intro xs W hW hn
                  simp [flowNeeds, Region.binds] at hn
                  simp only [flowAct, List.zipWith_cons_cons, List.zipWith_nil_left]
                  have hcv := HCV.out _ _ _ _ _ (HS.out.below hW)
                  simp only [hn]
                  go_wp2_with (fail)
                  exact ⟨rfl, _, rfl, Below.refl _ _, rfl⟩
                · intro xs W hW hn
                  simp [flowNeeds, Region.binds] at hn
                  simp only [flowAct, List.zipWith_cons_cons, List.zipWith_nil_left]
                  simp only [hn]
                  go_wp2_with (fail)
                  exact ⟨rfl, _, rfl, Below.refl _ _, rfl⟩
                · intro xs W hW hn
                  simp [flowNeeds, Region.binds] at hn
                  simp only [flowAct, List.zipWith_cons_cons, List.zipWith_nil_left]
                  simp only [hn]
                  go_wp2_with (fail)
                  exact ⟨rfl, _, rfl, Below.refl _ _, rfl⟩
              · intro xs W hW hall
                simp only [flowAll, and_true, Nat.zero_add, Nat.reduceAdd] at hall
                obtain ⟨-, -, -, -, -, -, -, -, -, -, e10⟩ := hall
                simp only [flowAct, List.zipWith_cons_cons, List.zipWith_nil_left, e10]
                go_wp2
                go_ret2
                rw [HR.out]
                exact ⟨_, rfl, OwnG.nil _ _, HB.out.trans (hW.mono HB.out.size)⟩
          · have hne : (e != 0) = true := by simpa using h0
            have HR := Lib.hid (show pdecS l = ([], 11) by rw [HW.out, if_neg (fun h => h0 h.1)])
            clear hsch HW h0 hnm hnm9
            go_upto_region 17 with (fail)
            refine wp_region_flow [none, none, none, none, none, none, none, none, none, none, none, none, none, none, none, none, none, none, none, none, none, none, none, none, none, none, none, none, none, none, none, none, none, none, none, none, none, none, none, none, none, none, none, none, none, none, none, none, none, none, none, none, none, none, none, none, none, none, none, none, none, none, some 0, some 1, some 2, some 3, some 4, some 5, some 6, some 7, some 8, some 9, some 10, none] (fun _ => undef) [(fun v _ => v = .slice a1 k c1), (fun v _ => v = .int .i64 e), (fun v _ => v = .bool true), (fun v _ => v = .bool true), (fun v _ => v = undef), (fun v _ => v = undef), (fun v _ => v = undef), (fun v _ => v = undef), (fun v _ => v = undef), (fun v _ => v = undef), (fun v _ => v = .bool true)] (by kernel_rfl) (by kernel_rfl) rfl rfl rfl ?_ ?_ ?_
            · intro g hg v X' Y hX hY hv
              simp only [List.mem_cons, List.not_mem_nil, or_false] at hg
              rcases hg with rfl | rfl | rfl | rfl | rfl | rfl | rfl | rfl | rfl | rfl | rfl
              all_goals first
                | exact hv
                | exact hv.kept hY
            · simp only [flowOps, and_true]
              refine ⟨?_, ?_, ?_, ?_, ?_, ?_, ?_, ?_, ?_, ?_, ?_⟩
              · intro xs W hW hn
                simp only [flowAct, List.zipWith_cons_cons, List.zipWith_nil_left]
                go_wp2_with (fail)
                exact ⟨rfl, _, rfl, Below.refl _ _, rfl⟩
              · intro xs W hW hn
                simp [flowNeeds, Region.binds] at hn
                simp only [flowAct, List.zipWith_cons_cons, List.zipWith_nil_left]
                simp only [hn]
                go_wp2_with (go_at_call 19; (with_reducible refine (HG.out _ hW).mono ?_); rintro e9 w9 ⟨rfl, hb9⟩)
                exact ⟨rfl, _, rfl, hb9, rfl⟩
              · intro xs W hW hn
                simp [flowNeeds, Region.binds] at hn
                simp only [flowAct, List.zipWith_cons_cons, List.zipWith_nil_left]
                simp only [hn]
                go_wp2_with (fail)
                exact ⟨rfl, _, rfl, Below.refl _ _, rfl⟩
              · intro xs W hW hn
                simp [flowNeeds, Region.binds] at hn
                simp only [flowAct, List.zipWith_cons_cons, List.zipWith_nil_left]
                simp only [hn]
                go_wp2_with (fail)
                exact ⟨rfl, _, rfl, Below.refl _ _, rfl⟩
              · intro xs W hW hn
                simp [flowNeeds, Region.binds] at hn
                simp only [flowAct, List.zipWith_cons_cons, List.zipWith_nil_left]
                simp only [hn]
                go_wp2_with (fail)
                exact ⟨rfl, _, rfl, Below.refl _ _, rfl⟩
              · intro xs W hW hn
                simp [flowNeeds, Region.binds] at hn
                simp only [flowAct, List.zipWith_cons_cons, List.zipWith_nil_left]
                simp only [hn]
                go_wp2_with (fail)
                exact ⟨rfl, _, rfl, Below.refl _ _, rfl⟩
              · intro xs W hW hn
                simp [flowNeeds, Region.binds] at hn
                simp only [flowAct, List.zipWith_cons_cons, List.zipWith_nil_left]
                simp only [hn]
                go_wp2_with (fail)
                exact ⟨rfl, _, rfl, Below.refl _ _, rfl⟩
              · intro xs W hW hn
                simp [flowNeeds, Region.binds] at hn
                simp only [flowAct, List.zipWith_cons_cons, List.zipWith_nil_left]
                simp only [hn]
                go_wp2_with (fail)
                exact ⟨rfl, _, rfl, Below.refl _ _, rfl⟩
              · intro xs W hW hn
                simp [flowNeeds, Region.binds] at hn
                simp only [flowAct, List.zipWith_cons_cons, List.zipWith_nil_left]
                simp only [hn]
                go_wp2_with (fail)
                exact ⟨rfl, _, rfl, Below.refl _ _, rfl⟩
              · intro xs W hW hn
                simp [flowNeeds, Region.binds] at hn
                simp only [flowAct, List.zipWith_cons_cons, List.zipWith_nil_left]
                simp only [hn]
                go_wp2_with (fail)
                exact ⟨rfl, _, rfl, Below.refl _ _, rfl⟩
              · intro xs W hW hn
                simp [flowNeeds, Region.binds] at hn
                simp only [flowAct, List.zipWith_cons_cons, List.zipWith_nil_left]
                simp only [hn]
                go_wp2_with (fail)
                exact ⟨rfl, _, rfl, Below.refl _ _, rfl⟩
            · intro xs W hW hall
              simp only [flowAll, and_true, Nat.zero_add, Nat.reduceAdd] at hall
              obtain ⟨-, -, -, -, -, -, -, -, -, -, e10⟩ := hall
              simp only [flowAct, List.zipWith_cons_cons, List.zipWith_nil_left, e10]
              go_wp2
              go_ret2
              rw [HR.out]
              exact ⟨_, rfl, OwnG.nil _ _, HB.out.trans (hW.mono HB.out.size)⟩
  · have hfb : (f != 0) = true := by simpa using hf
    have HR := Lib.hid (show pdecS l = ([], 11) by rw [HW.out, HV.out, if_neg (fun h => hf h.1)])
    clear HW HV hok hf
    go_enter Tryd.func23, Tryd.ntmps23
    go_wp2_with (go_at_call 50; (with_reducible refine HG1.out.mono ?_); rintro e w1 ⟨rfl, rfl⟩)
    go_ret2
    rw [HR.out]
    exact ⟨_, rfl, OwnG.nil _ _, Below.refl _ _⟩
end Go.Proofs.YtkhihfpdghjfmaaDoor
