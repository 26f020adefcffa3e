/-
  Stamp: the bytes of a stamp; the reference's Put and Get.
-/
import Derived.Test.YtjlolljlhoclhaaDoorW5
import Derived.Test.YtjlolljlhoclhaaDoorRP
import Derived.Test.YtjlolljlhoclhaaDoorNR
import Derived.Test.YtjlolljlhoclhaaDoorBM
namespace Go.Proofs.YtjlolljlhoclhaaDoor
open Go.RowKit Go Go.Sort
set_option linter.unusedVariables false

/-- Bytes with a stamp behind them. -/
def sputS (l : List UInt8) (n s : Int) : List UInt8 := if sgood n s = true then l ++ numB (scode n s) else l
/-- The stamp with which bytes begin. -/
def sgetS (l : List UInt8) : (Int × Int) × Int × Int :=
  if ¬ (getS l).2.2 = 0 then ((0, 0), 0, (getS l).2.2)
  else if (getS l).1 = 0 then ((0, 0), (getS l).2.1, 0)
  else if sgood ((getS l).1 / 2) (1 + (getS l).1 % 2) = true then (((getS l).1 / 2, 1 + (getS l).1 % 2), (getS l).2.1, 0) else ((0, 0), 0, 11)

theorem res_cell_tmp2 {P : Program} {fn : Func} {p q r : Tmp} {ty : TypeId} (h : fn.results = #[.cell p ty, .tmp q, .tmp r]) (tmps : Array Value) (w : World) (g : Nat) (t : TypeId) (cs : Array Value) (fr : Nat × Nat) (d : TypeDesc) (v u : Value)
    (hp : tmps.getD p undef = .pointer (some ⟨g, 0, none⟩)) (hq : tmps.getD q undef = v) (hr : tmps.getD r undef = u) (hg : w.heap[g]? = some (.cells cs t fr))
    (hu : P.underlying ty = some d) (hd : (match d with | .struct _ | .array _ _ => true | _ => false) = true) (hi : (P.info? ty).map (·.size) = some cs.size) :
    (results fn tmps).run P w = .ok (.tuple #[.agg cs, v, u]) w := by
  have hp' : tmps[p]?.getD undef = .pointer (some ⟨g, 0, none⟩) := by simpa using hp
  have hq' : tmps[q]?.getD undef = v := by simpa using hq
  have hr' : tmps[r]?.getD undef = u := by simpa using hr
  simp [results, h, hp', hq', hr', asAddr, run_loadVar_row w g t ty cs fr d hg hu hd hi]

set_option maxHeartbeats 1600000 in
theorem rsput_c {w : World} {a : Option Addr} {m cap : Nat} {l : List UInt8} (hl : Bys w a m cap l) (hn : m ≤ 1000000) (n s : Int) :
    Calls Tryd.prog 22 #[.slice a m cap, .agg #[.int .i64 n, .int .i64 s]] w (BytesPost (sputS l n s) w) := by
  obtain ⟨i0, hi, hz0, hz1, hz2⟩ := info_parts Tryd.info5
  have hp := Pair.new w 23 n s
  have hb := alloc_below w (.cells #[.int .i64 n, .int .i64 s] 23)
  have HL := Lib.hid (hl.below hb)
  have HP := Lib.hid hp
  have HB := Lib.hid hb
  have G := rsgood_c n s
  have C := rscode_c n s
  have l0 := HP.out.c0
  have l1 := HP.out.c1
  have HV := Lib.hid (show sputS l n s = if sgood n s = true then l ++ numB (scode n s) else l from rfl)
  clear hp hb hl
  cases hg : sgood n s with
  | false =>
    rw [hg] at G
    have HG := Lib.hid G
    have hv : sputS l n s = l := by rw [HV.out, if_neg (by simp [hg])]
    rw [hv]
    clear hv HV G C hg
    go_enter Tryd.func22, Tryd.ntmps22
    go_upto_region 1 with (fail)
    generalize w.alloc (.cells #[.int .i64 n, .int .i64 s] 23) = W1 at *
    go_upto_region 2 with (go_at_call 12; (with_reducible refine (HG.out _).mono ?_); rintro e w1 ⟨rfl, hb1⟩)
    have HB1 := Lib.hid (HB.out.trans (hb1.mono HB.out.size))
    have hla := (HL.out.below hb1).below (alloc_below w1 (.cells #[] 5))
    have hoe := OwnB.empty w1 w1.heap.size 5 (Nat.le_refl _)
    clear hb1 l0 l1 HP HL HB
    go_wp2_with (at_builtin; refine wpList_append_bys rfl (.tmp 8) (.tmp 9) 37 rfl Tryd.underlying37 hi hz0 hz1 hz2 rfl rfl hoe rfl hla (by simp; omega) (by simp) ?_; intro v1 w2 ho1 hg1)
    have b1 : Below w1.heap.size w1 w2 := ((Below.refl w1.heap.size w1).alloc (Nat.le_refl _) (.cells #[] 5)).grown hg1 (by simp) (fun k hk => (hoe.lt k hk).1)
    rw [List.nil_append] at ho1
    go_ret
    exact ⟨_, rfl, ho1.mono HB1.out.size, HB1.out.trans (b1.mono HB1.out.size)⟩
  | true =>
    rw [hg] at G
    have hgd : (n = 0 ∧ s = 0) ∨ (1 ≤ n ∧ n ≤ 281474976710656 ∧ (s = 1 ∨ s = 2)) := by simpa [sgood] using hg
    have hbd : 0 ≤ scode n s ∧ scode n s ≤ 4611686018427387903 := by unfold scode; split <;> omega
    have HG := Lib.hid G
    have HC := Lib.hid (C hg)
    have hv : sputS l n s = l ++ numB (scode n s) := by rw [HV.out, if_pos (by simp [hg])]
    rw [hv]
    clear hv HV G C hg hgd
    obtain ⟨c, hc⟩ : ∃ c, scode n s = c := ⟨_, rfl⟩
    rw [hc] at HC hbd ⊢
    clear hc
    have hc0 : -9223372036854775808 ≤ c := by omega
    have hc1 : c ≤ 9223372036854775807 := by omega
    have HR := Lib.hid (fun (W : World) (h : Bys W a m cap l) => rput_c h hn c hc0 hc1)
    go_enter Tryd.func22, Tryd.ntmps22
    go_upto_region 1 with (fail)
    generalize w.alloc (.cells #[.int .i64 n, .int .i64 s] 23) = W1 at *
    go_wp2_with (first
      | (go_at_call 12; (with_reducible refine (HG.out _).mono ?_); rintro e w1 ⟨rfl, hb1⟩; have a0 := (HP.out.kept hb1).c0; have a1 := (HP.out.kept hb1).c1)
      | (go_at_call 40; (with_reducible refine (HC.out _).mono ?_); rintro e w2 ⟨rfl, hb2⟩)
      | (go_at_call 39; (with_reducible refine (HR.out _ ((HL.out.below hb1).below hb2)).mono ?_); rintro e w3 ⟨v, rfl, ho, hb3⟩))
    go_ret
    have h1 := HB.out.trans (hb1.mono HB.out.size)
    have h2 := h1.trans (hb2.mono h1.size)
    exact ⟨_, rfl, ho.mono h2.size, h2.trans (hb3.mono h2.size)⟩

set_option maxHeartbeats 1600000 in
theorem rsget_c {w : World} {a : Option Addr} {m cap : Nat} {l : List UInt8} (hl : Bys w a m cap l) :
    Calls Tryd.prog 20 #[.slice a m cap] w (Tells (.tuple #[.agg #[.int .i64 (sgetS l).1.1, .int .i64 (sgetS l).1.2], .int .i64 (sgetS l).2.1, .int .i64 (sgetS l).2.2]) w) := by
  have ho := Pair.new w 23 0 0
  have hb := alloc_below w (.cells #[.int .i64 0, .int .i64 0] 23)
  have HR := Lib.hid (rget_c (hl.below hb))
  have HV := Lib.hid (show sgetS l = if ¬ (getS l).2.2 = 0 then ((0, 0), 0, (getS l).2.2)
    else if (getS l).1 = 0 then ((0, 0), (getS l).2.1, 0)
    else if sgood ((getS l).1 / 2) (1 + (getS l).1 % 2) = true then (((getS l).1 / 2, 1 + (getS l).1 % 2), (getS l).2.1, 0) else ((0, 0), 0, 11) from rfl)
  have hok := getS_ok l
  have HO := Lib.hid ho
  have HB := Lib.hid hb
  obtain ⟨⟨x, k, f⟩, hx⟩ : ∃ q, getS l = q := ⟨_, rfl⟩
  rw [hx] at HR HV hok
  simp only at HR HV hok
  clear hl ho hb hx
  go_enter Tryd.func20, Tryd.ntmps20
  go_upto_region 1 with (fail)
  generalize w.alloc (.cells #[.int .i64 0, .int .i64 0] 23) = W1 at *
  have o0 := HO.out.c0
  have o1 := HO.out.c1
  have z0 := HO.out.fz 0
  have z1 := HO.out.fz 1
  by_cases hf : f = 0
  · subst hf
    obtain ⟨q, rfl, hq1, hq2, x0, x1⟩ := hok rfl
    clear hok hq2
    go_upto_region 4 with (go_at_call 36; (with_reducible refine HR.out.mono ?_); rintro e w1 ⟨rfl, rfl⟩)
    by_cases hx : x = 0
    · subst hx
      have hv : sgetS l = ((0, 0), (q : Int), 0) := by rw [HV.out, if_neg (by simp), if_pos rfl]
      have HV2 := Lib.hid hv
      have HO2 := Lib.hid (HO.out.alloc (.cells #[.int .i64 0, .int .i64 0] 23))
      have HX2 := Lib.hid (Pair.new W1 23 0 0)
      have HB2 := Lib.hid (HB.out.alloc HB.out.size (.cells #[.int .i64 0, .int .i64 0] 23))
      have G := rsgood_c 0 0
      rw [show sgood 0 0 = true by decide] at G
      have HG := Lib.hid G
      clear hv HV G o0 o1 z0 z1 HR
      go_upto_region 5 with (fail)
      obtain ⟨gx, hgx⟩ : ∃ g, W1.heap.size = g := ⟨_, rfl⟩
      rw [hgx] at HX2 ⊢
      generalize W1.alloc (.cells #[.int .i64 0, .int .i64 0] 23) = W2 at *
      have x0 := HX2.out.c0
      have x1 := HX2.out.c1
      go_wp2_with (go_at_call 12; (with_reducible refine (HG.out _).mono ?_); rintro e w3 ⟨rfl, hb3⟩; have y0 := (HX2.out.kept hb3).c0; have y1 := (HX2.out.kept hb3).c1; have o0 := (HO2.out.kept hb3).c0; have o1 := (HO2.out.kept hb3).c1; have z0 := (HO2.out.kept hb3).fz 0; have z1 := (HO2.out.kept hb3).fz 1)
      refine bodyPost_ret (res_cell_tmp2 rfl _ _ w.heap.size 23 _ (0, 0) _ (.int .i64 (q : Int)) (.int .i64 0) rfl rfl rfl (((HO2.out.kept hb3).set0 _).set1 _) Tryd.underlying23 rfl (size2s _ _)) rfl ⟨by rw [HV2.out], ((HB2.out.trans (hb3.mono HB2.out.size)).setCell (by simp) _).setCell (by simp) _⟩
    · have hx0 : (0 : Int) < x := by omega
      have hdv : Int.tdiv x 2 = x / 2 := Int.tdiv_eq_ediv_of_nonneg (by omega)
      have hmd : Int.tmod x 2 = x % 2 := Int.tmod_eq_emod_of_nonneg (by omega)
      obtain ⟨d, hd⟩ : ∃ d, x / 2 = d := ⟨_, rfl⟩
      obtain ⟨r, hr⟩ : ∃ r, x % 2 = r := ⟨_, rfl⟩
      have hd1 : 0 ≤ d ∧ d ≤ 4611686018427387903 := by omega
      have hr1 : 0 ≤ r ∧ r ≤ 1 := by omega
      rw [hd] at HV hdv
      rw [hr] at HV hmd
      clear hd hr
      have HO2 := Lib.hid (HO.out.alloc (.cells #[.int .i64 0, .int .i64 0] 23))
      have HX2 := Lib.hid (Pair.new W1 23 0 0)
      have HB2 := Lib.hid (HB.out.alloc HB.out.size (.cells #[.int .i64 0, .int .i64 0] 23))
      have hlt := HO.out.lt
      have G := rsgood_c d (1 + r)
      go_upto_region 5 with (fail)
      obtain ⟨gx, hgx⟩ : ∃ g, W1.heap.size = g := ⟨_, rfl⟩
      rw [hgx] at HX2 hlt ⊢
      generalize W1.alloc (.cells #[.int .i64 0, .int .i64 0] 23) = W2 at *
      have HB3 := Lib.hid ((HB2.out.setCell (p := ⟨gx, 0, none⟩) (by simp; omega) (.int .i64 d)).setCell (p := ⟨gx, 1, none⟩) (by simp; omega) (.int .i64 (1 + r)))
      have HO3 := Lib.hid ((HO2.out.other ⟨gx, 0, none⟩ (.int .i64 d) (by simp; omega)).other ⟨gx, 1, none⟩ (.int .i64 (1 + r)) (by simp; omega))
      have HX3 := Lib.hid ((HX2.out.set0 d).set1 (1 + r))
      have u0 := HX2.out.c0
      have u1 := HX2.out.c1
      have t0 := HX2.out.fz 0
      have t1 := HX2.out.fz 1
      clear o0 o1 z0 z1 HR hlt
      go_upto_region 7 with (fail)
      generalize (W2.setCell ⟨gx, 0, none⟩ (.int .i64 d)).setCell ⟨gx, 1, none⟩ (.int .i64 (1 + r)) = W3 at *
      clear u0 u1 t0 t1 HX2 HO2 HB2
      have u0 := HX3.out.c0
      have u1 := HX3.out.c1
      cases hg : sgood d (1 + r) with
      | true =>
        rw [hg] at G HV
        have HG := Lib.hid G
        have hv : sgetS l = ((d, 1 + r), (q : Int), 0) := by rw [HV.out, if_neg (by simp), if_neg hx, if_pos rfl]
        have HV2 := Lib.hid hv
        clear hv HV G hg
        go_wp2_with (go_at_call 12; (with_reducible refine (HG.out _).mono ?_); rintro e w3 ⟨rfl, hb3⟩; have y0 := (HX3.out.kept hb3).c0; have y1 := (HX3.out.kept hb3).c1; have o0 := (HO3.out.kept hb3).c0; have o1 := (HO3.out.kept hb3).c1; have z0 := (HO3.out.kept hb3).fz 0; have z1 := (HO3.out.kept hb3).fz 1)
        refine bodyPost_ret (res_cell_tmp2 rfl _ _ w.heap.size 23 _ (0, 0) _ (.int .i64 (q : Int)) (.int .i64 0) rfl rfl rfl (((HO3.out.kept hb3).set0 _).set1 _) Tryd.underlying23 rfl (size2s _ _)) rfl ⟨by rw [HV2.out], ((HB3.out.trans (hb3.mono HB3.out.size)).setCell (by simp) _).setCell (by simp) _⟩
      | false =>
        rw [hg] at G HV
        have HG := Lib.hid G
        have hv : sgetS l = ((0, 0), 0, 11) := by rw [HV.out, if_neg (by simp), if_neg hx, if_neg (by simp)]
        have HV2 := Lib.hid hv
        clear hv HV G hg
        go_wp2_with (go_at_call 12; (with_reducible refine (HG.out _).mono ?_); rintro e w3 ⟨rfl, hb3⟩; have y0 := (HX3.out.kept hb3).c0; have y1 := (HX3.out.kept hb3).c1; have o0 := (HO3.out.kept hb3).c0; have o1 := (HO3.out.kept hb3).c1; have z0 := (HO3.out.kept hb3).fz 0; have z1 := (HO3.out.kept hb3).fz 1)
        refine bodyPost_ret (res_cell_tmp2 rfl _ _ w.heap.size 23 _ (0, 0) _ (.int .i64 0) (.int .i64 11) rfl rfl rfl (((HO3.out.kept hb3).set0 _).set1 _) Tryd.underlying23 rfl (size2s _ _)) rfl ⟨by rw [HV2.out], ((HB3.out.trans (hb3.mono HB3.out.size)).setCell (by simp) _).setCell (by simp) _⟩
  · have hf1 : (f != 0) = true := by simpa using hf
    have hv : sgetS l = ((0, 0), 0, f) := by rw [HV.out, if_pos hf]
    have HV2 := Lib.hid hv
    clear hv HV hok
    go_wp2_with (go_at_call 36; (with_reducible refine HR.out.mono ?_); rintro e w1 ⟨rfl, rfl⟩)
    refine bodyPost_ret (res_cell_tmp2 rfl _ _ w.heap.size 23 _ (0, 0) _ (.int .i64 0) (.int .i64 f) rfl rfl rfl ((HO.out.set0 _).set1 _) Tryd.underlying23 rfl (size2s _ _)) rfl ⟨by rw [HV2.out], (HB.out.setCell (by simp) _).setCell (by simp) _⟩
end Go.Proofs.YtjlolljlhoclhaaDoor
