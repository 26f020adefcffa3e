/-
  Cell: what is needed of the reference's stamp and vec.
-/
import Derived.Test.YtkjpmdpljdgcjaaDoorV0
import Derived.Test.YtkjpmdpljdgcjaaDoorRP
import Derived.Test.YtkjpmdpljdgcjaaDoorNR
import Derived.Test.YtkjpmdpljdgcjaaDoorBM
import Derived.Test.YtkjpmdpljdgcjaaDoorOM
import Derived.Test.YtkjpmdpljdgcjaaDoorDF
import Derived.Test.YtkjpmdpljdgcjaaDoorDT
import Derived.Lib.MinMax
namespace Go.Proofs.YtkjpmdpljdgcjaaDoor
open Go.RowKit Go Go.Sort
set_option linter.unusedVariables false
set_option maxRecDepth 20000

def sgood (n s : Int) : Bool := decide ((n = 0 ∧ s = 0) ∨ (1 ≤ n ∧ n ≤ 281474976710656 ∧ (s = 1 ∨ s = 2)))
def scode (n s : Int) : Int := if n = 0 then 0 else 2 * n + s - 1
theorem size2s (a b : Int) : (Tryd.prog.info? 48).map (·.size) = some (#[Value.int .i64 a, Value.int .i64 b] : Array Value).size := by
  show _ = some 2
  kernel_rfl
set_option maxHeartbeats 1600000 in
theorem rsgood_c (n s : Int) (w : World) : Calls Tryd.prog 74 #[.agg #[.int .i64 n, .int .i64 s]] w (Tells (.bool (sgood n s)) w) := by
  have hp := Pair.new w 48 n s
  have hb := alloc_below w (.cells #[.int .i64 n, .int .i64 s] 48)
  have h0 := hp.c0
  have h1 := hp.c1
  have HB := Lib.hid hb
  have HV := Lib.hid (show sgood n s = decide ((n = 0 ∧ s = 0) ∨ (1 ≤ n ∧ n ≤ 281474976710656 ∧ (s = 1 ∨ s = 2))) from rfl)
  clear hp hb
  by_cases n0 : n = 0
  · subst n0
    by_cases s0 : s = 0
    · subst s0
      go_enter Tryd.func74, Tryd.ntmps74
      go_wp2
      go_ret
      exact ⟨by rw [HV.out]; simp; try omega, HB.out⟩
    · have e0 : (s == 0) = false := by simpa using s0
      go_enter Tryd.func74, Tryd.ntmps74
      go_wp2
      go_ret
      exact ⟨by rw [HV.out]; simp; try omega, HB.out⟩
  · have e0 : (n == 0) = false := by simpa using n0
    by_cases n1 : 1 ≤ n
    · by_cases n2 : n ≤ 281474976710656
      · by_cases s1 : s = 1
        · subst s1
          go_enter Tryd.func74, Tryd.ntmps74
          go_wp2
          go_ret
          exact ⟨by rw [HV.out]; simp; try omega, HB.out⟩
        · have e1 : (s == 1) = false := by simpa using s1
          by_cases s2 : s = 2
          · subst s2
            go_enter Tryd.func74, Tryd.ntmps74
            go_wp2
            go_ret
            exact ⟨by rw [HV.out]; simp; try omega, HB.out⟩
          · have e2 : (s == 2) = false := by simpa using s2
            go_enter Tryd.func74, Tryd.ntmps74
            go_wp2
            go_ret
            exact ⟨by rw [HV.out]; simp; try omega, HB.out⟩
      · go_enter Tryd.func74, Tryd.ntmps74
        go_wp2
        go_ret
        exact ⟨by rw [HV.out]; simp; try omega, HB.out⟩
    · go_enter Tryd.func74, Tryd.ntmps74
      go_wp2
      go_ret
      exact ⟨by rw [HV.out]; simp; try omega, HB.out⟩
set_option maxHeartbeats 1600000 in
theorem rscode_c (n s : Int) (hg : sgood n s = true) (w : World) : Calls Tryd.prog 110 #[.agg #[.int .i64 n, .int .i64 s]] w (Tells (.int .i64 (scode n s)) w) := by
  have hp := Pair.new w 48 n s
  have hb := alloc_below w (.cells #[.int .i64 n, .int .i64 s] 48)
  have h0 := hp.c0
  have h1 := hp.c1
  have HB := Lib.hid hb
  have HV := Lib.hid (show scode n s = if n = 0 then 0 else 2 * n + s - 1 from rfl)
  have hgd : (n = 0 ∧ s = 0) ∨ (1 ≤ n ∧ n ≤ 281474976710656 ∧ (s = 1 ∨ s = 2)) := by simpa [sgood] using hg
  clear hp hb hg
  by_cases e : n = 0
  · subst e
    go_enter Tryd.func110, Tryd.ntmps110
    go_wp2
    go_ret
    exact ⟨by rw [HV.out]; rfl, HB.out⟩
  · have e0 : (n == 0) = false := by simpa using e
    have b1 : 1 ≤ n ∧ n ≤ 281474976710656 ∧ 1 ≤ s ∧ s ≤ 2 := by omega
    clear hgd
    go_enter Tryd.func110, Tryd.ntmps110
    go_wp2
    go_ret
    exact ⟨by rw [HV.out, if_neg e]; rfl, HB.out⟩
/-- Bytes with a stamp behind them. -/
def sputS (l : List UInt8) (n s : Int) : List UInt8 := if sgood n s = true then l ++ numB (scode n s) else l
/-- The stamp with which bytes begin. -/
def sgetS (l : List UInt8) : (Int × Int) × Int × Int :=
  if ¬ (getS l).2.2 = 0 then ((0, 0), 0, (getS l).2.2)
  else if (getS l).1 = 0 then ((0, 0), (getS l).2.1, 0)
  else if sgood ((getS l).1 / 2) (1 + (getS l).1 % 2) = true then (((getS l).1 / 2, 1 + (getS l).1 % 2), (getS l).2.1, 0) else ((0, 0), 0, 11)
theorem res_cell_tmp2 {P : Program} {fn : Func} {p q r : Tmp} {ty : TypeId} (h : fn.results = #[.cell p ty, .tmp q, .tmp r]) (tmps : Array Value) (w : World) (g : Nat) (t : TypeId) (cs : Array Value) (fr : Nat × Nat) (d : TypeDesc) (v u : Value)
    (hp : tmps.getD p undef = .pointer (some ⟨g, 0, none⟩)) (hq : tmps.getD q undef = v) (hr : tmps.getD r undef = u) (hg : w.heap[g]? = some (.cells cs t fr))
    (hu : P.underlying ty = some d) (hd : (match d with | .struct _ | .array _ _ => true | _ => false) = true) (hi : (P.info? ty).map (·.size) = some cs.size) :
    (results fn tmps).run P w = .ok (.tuple #[.agg cs, v, u]) w := by
  have hp' : tmps[p]?.getD undef = .pointer (some ⟨g, 0, none⟩) := by simpa using hp
  have hq' : tmps[q]?.getD undef = v := by simpa using hq
  have hr' : tmps[r]?.getD undef = u := by simpa using hr
  simp [results, h, hp', hq', hr', asAddr, run_loadVar_row w g t ty cs fr d hg hu hd hi]
set_option maxHeartbeats 1600000 in
theorem rsput_c {w : World} {a : Option Addr} {m cap : Nat} {l : List UInt8} (hl : Bys w a m cap l) (hn : m ≤ 1000000) (n s : Int) :
    Calls Tryd.prog 89 #[.slice a m cap, .agg #[.int .i64 n, .int .i64 s]] w (BytesPost (sputS l n s) w) := by
  obtain ⟨i0, hi, hz0, hz1, hz2⟩ := info_parts Tryd.info5
  have hp := Pair.new w 48 n s
  have hb := alloc_below w (.cells #[.int .i64 n, .int .i64 s] 48)
  have HL := Lib.hid (hl.below hb)
  have HP := Lib.hid hp
  have HB := Lib.hid hb
  have G := rsgood_c n s
  have C := rscode_c n s
  have l0 := HP.out.c0
  have l1 := HP.out.c1
  have HV := Lib.hid (show sputS l n s = if sgood n s = true then l ++ numB (scode n s) else l from rfl)
  clear hp hb hl
  cases hg : sgood n s with
  | false =>
    rw [hg] at G
    have HG := Lib.hid G
    have hv : sputS l n s = l := by rw [HV.out, if_neg (by simp [hg])]
    rw [hv]
    clear hv HV G C hg
    go_enter Tryd.func89, Tryd.ntmps89
    go_upto_region 1 with (fail)
    generalize w.alloc (.cells #[.int .i64 n, .int .i64 s] 48) = W1 at *
    go_upto_region 2 with (go_at_call 74; (with_reducible refine (HG.out _).mono ?_); rintro e w1 ⟨rfl, hb1⟩)
    have HB1 := Lib.hid (HB.out.trans (hb1.mono HB.out.size))
    have hla := (HL.out.below hb1).below (alloc_below w1 (.cells #[] 5))
    have hoe := OwnB.empty w1 w1.heap.size 5 (Nat.le_refl _)
    clear hb1 l0 l1 HP HL HB
    go_wp2_with (at_builtin; refine wpList_append_bys rfl (.tmp 8) (.tmp 9) 59 rfl Tryd.underlying59 hi hz0 hz1 hz2 rfl rfl hoe rfl hla (by simp; omega) (by simp) ?_; intro v1 w2 ho1 hg1)
    have b1 : Below w1.heap.size w1 w2 := ((Below.refl w1.heap.size w1).alloc (Nat.le_refl _) (.cells #[] 5)).grown hg1 (by simp) (fun k hk => (hoe.lt k hk).1)
    rw [List.nil_append] at ho1
    go_ret
    exact ⟨_, rfl, ho1.mono HB1.out.size, HB1.out.trans (b1.mono HB1.out.size)⟩
  | true =>
    rw [hg] at G
    have hgd : (n = 0 ∧ s = 0) ∨ (1 ≤ n ∧ n ≤ 281474976710656 ∧ (s = 1 ∨ s = 2)) := by simpa [sgood] using hg
    have hbd : 0 ≤ scode n s ∧ scode n s ≤ 4611686018427387903 := by unfold scode; split <;> omega
    have HG := Lib.hid G
    have HC := Lib.hid (C hg)
    have hv : sputS l n s = l ++ numB (scode n s) := by rw [HV.out, if_pos (by simp [hg])]
    rw [hv]
    clear hv HV G C hg hgd
    obtain ⟨c, hc⟩ : ∃ c, scode n s = c := ⟨_, rfl⟩
    rw [hc] at HC hbd ⊢
    clear hc
    have hc0 : -9223372036854775808 ≤ c := by omega
    have hc1 : c ≤ 9223372036854775807 := by omega
    have HR := Lib.hid (fun (W : World) (h : Bys W a m cap l) => rput_c h hn c hc0 hc1)
    go_enter Tryd.func89, Tryd.ntmps89
    go_upto_region 1 with (fail)
    generalize w.alloc (.cells #[.int .i64 n, .int .i64 s] 48) = W1 at *
    go_wp2_with (first
      | (go_at_call 74; (with_reducible refine (HG.out _).mono ?_); rintro e w1 ⟨rfl, hb1⟩; have a0 := (HP.out.kept hb1).c0; have a1 := (HP.out.kept hb1).c1)
      | (go_at_call 110; (with_reducible refine (HC.out _).mono ?_); rintro e w2 ⟨rfl, hb2⟩)
      | (go_at_call 87; (with_reducible refine (HR.out _ ((HL.out.below hb1).below hb2)).mono ?_); rintro e w3 ⟨v, rfl, ho, hb3⟩))
    go_ret
    have h1 := HB.out.trans (hb1.mono HB.out.size)
    have h2 := h1.trans (hb2.mono h1.size)
    exact ⟨_, rfl, ho.mono h2.size, h2.trans (hb3.mono h2.size)⟩
set_option maxHeartbeats 1600000 in
theorem rsget_c {w : World} {a : Option Addr} {m cap : Nat} {l : List UInt8} (hl : Bys w a m cap l) :
    Calls Tryd.prog 106 #[.slice a m cap] w (Tells (.tuple #[.agg #[.int .i64 (sgetS l).1.1, .int .i64 (sgetS l).1.2], .int .i64 (sgetS l).2.1, .int .i64 (sgetS l).2.2]) w) := by
  have ho := Pair.new w 48 0 0
  have hb := alloc_below w (.cells #[.int .i64 0, .int .i64 0] 48)
  have HR := Lib.hid (rget_c (hl.below hb))
  have HV := Lib.hid (show sgetS l = if ¬ (getS l).2.2 = 0 then ((0, 0), 0, (getS l).2.2)
    else if (getS l).1 = 0 then ((0, 0), (getS l).2.1, 0)
    else if sgood ((getS l).1 / 2) (1 + (getS l).1 % 2) = true then (((getS l).1 / 2, 1 + (getS l).1 % 2), (getS l).2.1, 0) else ((0, 0), 0, 11) from rfl)
  have hok := getS_ok l
  have HO := Lib.hid ho
  have HB := Lib.hid hb
  obtain ⟨⟨x, k, f⟩, hx⟩ : ∃ q, getS l = q := ⟨_, rfl⟩
  rw [hx] at HR HV hok
  simp only at HR HV hok
  clear hl ho hb hx
  go_enter Tryd.func106, Tryd.ntmps106
  go_upto_region 1 with (fail)
  generalize w.alloc (.cells #[.int .i64 0, .int .i64 0] 48) = W1 at *
  have o0 := HO.out.c0
  have o1 := HO.out.c1
  have z0 := HO.out.fz 0
  have z1 := HO.out.fz 1
  by_cases hf : f = 0
  · subst hf
    obtain ⟨q, rfl, hq1, hq2, x0, x1⟩ := hok rfl
    clear hok hq2
    go_upto_region 4 with (go_at_call 82; (with_reducible refine HR.out.mono ?_); rintro e w1 ⟨rfl, rfl⟩)
    by_cases hx : x = 0
    · subst hx
      have hv : sgetS l = ((0, 0), (q : Int), 0) := by rw [HV.out, if_neg (by simp), if_pos rfl]
      have HV2 := Lib.hid hv
      have HO2 := Lib.hid (HO.out.alloc (.cells #[.int .i64 0, .int .i64 0] 48))
      have HX2 := Lib.hid (Pair.new W1 48 0 0)
      have HB2 := Lib.hid (HB.out.alloc HB.out.size (.cells #[.int .i64 0, .int .i64 0] 48))
      have G := rsgood_c 0 0
      rw [show sgood 0 0 = true by decide] at G
      have HG := Lib.hid G
      clear hv HV G o0 o1 z0 z1 HR
      go_upto_region 5 with (fail)
      obtain ⟨gx, hgx⟩ : ∃ g, W1.heap.size = g := ⟨_, rfl⟩
      rw [hgx] at HX2 ⊢
      generalize W1.alloc (.cells #[.int .i64 0, .int .i64 0] 48) = W2 at *
      have x0 := HX2.out.c0
      have x1 := HX2.out.c1
      go_wp2_with (go_at_call 74; (with_reducible refine (HG.out _).mono ?_); rintro e w3 ⟨rfl, hb3⟩; have y0 := (HX2.out.kept hb3).c0; have y1 := (HX2.out.kept hb3).c1; have o0 := (HO2.out.kept hb3).c0; have o1 := (HO2.out.kept hb3).c1; have z0 := (HO2.out.kept hb3).fz 0; have z1 := (HO2.out.kept hb3).fz 1)
      refine bodyPost_ret (res_cell_tmp2 rfl _ _ w.heap.size 48 _ (0, 0) _ (.int .i64 (q : Int)) (.int .i64 0) rfl rfl rfl (((HO2.out.kept hb3).set0 _).set1 _) Tryd.underlying48 rfl (size2s _ _)) rfl ⟨by rw [HV2.out], ((HB2.out.trans (hb3.mono HB2.out.size)).setCell (by simp) _).setCell (by simp) _⟩
    · have hx0 : (0 : Int) < x := by omega
      have hdv : Int.tdiv x 2 = x / 2 := Int.tdiv_eq_ediv_of_nonneg (by omega)
      have hmd : Int.tmod x 2 = x % 2 := Int.tmod_eq_emod_of_nonneg (by omega)
      obtain ⟨d, hd⟩ : ∃ d, x / 2 = d := ⟨_, rfl⟩
      obtain ⟨r, hr⟩ : ∃ r, x % 2 = r := ⟨_, rfl⟩
      have hd1 : 0 ≤ d ∧ d ≤ 4611686018427387903 := by omega
      have hr1 : 0 ≤ r ∧ r ≤ 1 := by omega
      rw [hd] at HV hdv
      rw [hr] at HV hmd
      clear hd hr
      have HO2 := Lib.hid (HO.out.alloc (.cells #[.int .i64 0, .int .i64 0] 48))
      have HX2 := Lib.hid (Pair.new W1 48 0 0)
      have HB2 := Lib.hid (HB.out.alloc HB.out.size (.cells #[.int .i64 0, .int .i64 0] 48))
      have hlt := HO.out.lt
      have G := rsgood_c d (1 + r)
      go_upto_region 5 with (fail)
      obtain ⟨gx, hgx⟩ : ∃ g, W1.heap.size = g := ⟨_, rfl⟩
      rw [hgx] at HX2 hlt ⊢
      generalize W1.alloc (.cells #[.int .i64 0, .int .i64 0] 48) = W2 at *
      have HB3 := Lib.hid ((HB2.out.setCell (p := ⟨gx, 0, none⟩) (by simp; omega) (.int .i64 d)).setCell (p := ⟨gx, 1, none⟩) (by simp; omega) (.int .i64 (1 + r)))
      have HO3 := Lib.hid ((HO2.out.other ⟨gx, 0, none⟩ (.int .i64 d) (by simp; omega)).other ⟨gx, 1, none⟩ (.int .i64 (1 + r)) (by simp; omega))
      have HX3 := Lib.hid ((HX2.out.set0 d).set1 (1 + r))
      have u0 := HX2.out.c0
      have u1 := HX2.out.c1
      have t0 := HX2.out.fz 0
      have t1 := HX2.out.fz 1
      clear o0 o1 z0 z1 HR hlt
      go_upto_region 7 with (fail)
      generalize (W2.setCell ⟨gx, 0, none⟩ (.int .i64 d)).setCell ⟨gx, 1, none⟩ (.int .i64 (1 + r)) = W3 at *
      clear u0 u1 t0 t1 HX2 HO2 HB2
      have u0 := HX3.out.c0
      have u1 := HX3.out.c1
      cases hg : sgood d (1 + r) with
      | true =>
        rw [hg] at G HV
        have HG := Lib.hid G
        have hv : sgetS l = ((d, 1 + r), (q : Int), 0) := by rw [HV.out, if_neg (by simp), if_neg hx, if_pos rfl]
        have HV2 := Lib.hid hv
        clear hv HV G hg
        go_wp2_with (go_at_call 74; (with_reducible refine (HG.out _).mono ?_); rintro e w3 ⟨rfl, hb3⟩; have y0 := (HX3.out.kept hb3).c0; have y1 := (HX3.out.kept hb3).c1; have o0 := (HO3.out.kept hb3).c0; have o1 := (HO3.out.kept hb3).c1; have z0 := (HO3.out.kept hb3).fz 0; have z1 := (HO3.out.kept hb3).fz 1)
        refine bodyPost_ret (res_cell_tmp2 rfl _ _ w.heap.size 48 _ (0, 0) _ (.int .i64 (q : Int)) (.int .i64 0) rfl rfl rfl (((HO3.out.kept hb3).set0 _).set1 _) Tryd.underlying48 rfl (size2s _ _)) rfl ⟨by rw [HV2.out], ((HB3.out.trans (hb3.mono HB3.out.size)).setCell (by simp) _).setCell (by simp) _⟩
      | false =>
        rw [hg] at G HV
        have HG := Lib.hid G
        have hv : sgetS l = ((0, 0), 0, 11) := by rw [HV.out, if_neg (by simp), if_neg hx, if_neg (by simp)]
        have HV2 := Lib.hid hv
        clear hv HV G hg
        go_wp2_with (go_at_call 74; (with_reducible refine (HG.out _).mono ?_); rintro e w3 ⟨rfl, hb3⟩; have y0 := (HX3.out.kept hb3).c0; have y1 := (HX3.out.kept hb3).c1; have o0 := (HO3.out.kept hb3).c0; have o1 := (HO3.out.kept hb3).c1; have z0 := (HO3.out.kept hb3).fz 0; have z1 := (HO3.out.kept hb3).fz 1)
        refine bodyPost_ret (res_cell_tmp2 rfl _ _ w.heap.size 48 _ (0, 0) _ (.int .i64 0) (.int .i64 11) rfl rfl rfl (((HO3.out.kept hb3).set0 _).set1 _) Tryd.underlying48 rfl (size2s _ _)) rfl ⟨by rw [HV2.out], ((HB3.out.trans (hb3.mono HB3.out.size)).setCell (by simp) _).setCell (by simp) _⟩
  · have hf1 : (f != 0) = true := by simpa using hf
    have hv : sgetS l = ((0, 0), 0, f) := by rw [HV.out, if_pos hf]
    have HV2 := Lib.hid hv
    clear hv HV hok
    go_wp2_with (go_at_call 82; (with_reducible refine HR.out.mono ?_); rintro e w1 ⟨rfl, rfl⟩)
    refine bodyPost_ret (res_cell_tmp2 rfl _ _ w.heap.size 48 _ (0, 0) _ (.int .i64 0) (.int .i64 f) rfl rfl rfl ((HO.out.set0 _).set1 _) Tryd.underlying48 rfl (size2s _ _)) rfl ⟨by rw [HV2.out], (HB.out.setCell (by simp) _).setCell (by simp) _⟩
def vgood (a b : Int) : Bool := decide (0 ≤ a) && (decide (a ≤ 1099511627776) && (decide (0 ≤ b) && decide (b ≤ 1099511627776)))
def vcov (a b c d : Int) : Bool := decide (c ≤ a) && decide (d ≤ b)
set_option maxHeartbeats 1600000 in
theorem rvgood_c (a b : Int) (w : World) : Calls Tryd.prog 73 #[.agg #[.int .i64 a, .int .i64 b]] w (Tells (.bool (vgood a b)) w) := by
  have hp := Pair.new w 44 a b
  have hb := alloc_below w (.cells #[.int .i64 a, .int .i64 b] 44)
  have h0 := hp.c0
  have h1 := hp.c1
  have HB := Lib.hid hb
  have HV := Lib.hid (show vgood a b = (decide (0 ≤ a) && (decide (a ≤ 1099511627776) && (decide (0 ≤ b) && decide (b ≤ 1099511627776)))) from rfl)
  clear hp hb
  by_cases g0 : 0 ≤ a
  · by_cases g1 : a ≤ 1099511627776
    · by_cases g2 : 0 ≤ b
      · by_cases g3 : b ≤ 1099511627776
        · go_enter Tryd.func73, Tryd.ntmps73
          go_wp2
          go_ret
          exact ⟨by rw [HV.out]; simp; omega, HB.out⟩
        · go_enter Tryd.func73, Tryd.ntmps73
          go_wp2
          go_ret
          exact ⟨by rw [HV.out]; simp; omega, HB.out⟩
      · go_enter Tryd.func73, Tryd.ntmps73
        go_wp2
        go_ret
        exact ⟨by rw [HV.out]; simp; omega, HB.out⟩
    · go_enter Tryd.func73, Tryd.ntmps73
      go_wp2
      go_ret
      exact ⟨by rw [HV.out]; simp; omega, HB.out⟩
  · go_enter Tryd.func73, Tryd.ntmps73
    go_wp2
    go_ret
    exact ⟨by rw [HV.out]; simp; omega, HB.out⟩
set_option maxHeartbeats 1600000 in
theorem rvcov_c (a b c d : Int) (w : World) : Calls Tryd.prog 66 #[.agg #[.int .i64 a, .int .i64 b], .agg #[.int .i64 c, .int .i64 d]] w (Tells (.bool (vcov a b c d)) w) := by
  have hp := (Pair.new w 44 a b).alloc (.cells #[.int .i64 c, .int .i64 d] 44)
  have hq := Pair.new (w.alloc (.cells #[.int .i64 a, .int .i64 b] 44)) 44 c d
  rw [World.size_alloc] at hq
  have hb := (alloc_below w (.cells #[.int .i64 a, .int .i64 b] 44)).alloc (by simp) (.cells #[.int .i64 c, .int .i64 d] 44)
  have h0 := hp.c0
  have h1 := hp.c1
  have k0 := hq.c0
  have k1 := hq.c1
  have HB := Lib.hid hb
  have HV := Lib.hid (show vcov a b c d = (decide (c ≤ a) && decide (d ≤ b)) from rfl)
  clear hp hq hb
  by_cases g0 : c ≤ a
  · by_cases g1 : d ≤ b
    · go_enter Tryd.func66, Tryd.ntmps66
      go_wp2
      go_ret
      exact ⟨by rw [HV.out]; simp; omega, HB.out⟩
    · go_enter Tryd.func66, Tryd.ntmps66
      go_wp2
      go_ret
      exact ⟨by rw [HV.out]; simp; omega, HB.out⟩
  · go_enter Tryd.func66, Tryd.ntmps66
    go_wp2
    go_ret
    exact ⟨by rw [HV.out]; simp; omega, HB.out⟩
/-- Both pairs' cells, in every world in which nothing of the old is turned. -/
theorem two_cells {W W' : World} {g1 g2 : Nat} {t1 t2 : TypeId} {a b c d : Int} (h : Pair W g1 t1 a b) (k : Pair W g2 t2 c d) (hb : Below W.heap.size W W') :
    W'.cell? ⟨g1, 0, none⟩ = some (.int .i64 a) ∧ W'.cell? ⟨g1, 1, none⟩ = some (.int .i64 b) ∧ W'.cell? ⟨g2, 0, none⟩ = some (.int .i64 c) ∧ W'.cell? ⟨g2, 1, none⟩ = some (.int .i64 d) :=
  ⟨(h.kept hb).c0, (h.kept hb).c1, (k.kept hb).c0, (k.kept hb).c1⟩
theorem size2 (a b : Int) : (Tryd.prog.info? 44).map (·.size) = some (#[Value.int .i64 a, Value.int .i64 b] : Array Value).size := by
  show _ = some 2
  kernel_rfl
theorem pair_eq {x y x' y' : Int} (h1 : x = x') (h2 : y = y') : Ending.returned (.agg #[.int .i64 x, .int .i64 y]) = .returned (.agg #[.int .i64 x', .int .i64 y']) := by rw [h1, h2]
/-- The greatest counts of a list. -/
def joinS (l : List (Int × Int)) : Int × Int := l.foldl (fun r p => (Max.max r.1 p.1, Max.max r.2 p.2)) (0, 0)
theorem joinS_take (l : List (Int × Int)) (k : Nat) (h : k < l.length) : joinS (l.take (k + 1)) = (Max.max (joinS (l.take k)).1 (l.getD k (0, 0)).1, Max.max (joinS (l.take k)).2 (l.getD k (0, 0)).2) := by
  unfold joinS
  rw [List.take_succ_eq_append_getElem h, List.foldl_append, List.getD_eq_getElem?_getD, List.getElem?_eq_getElem h]
  rfl
set_option maxHeartbeats 1600000 in
theorem rvjoin_c {w : World} {a : Option Addr} {n cap : Nat} {l : List (Int × Int)} (hl : Prs w a n cap l) : Calls Tryd.prog 77 #[.slice a n cap] w (Tells (.agg #[.int .i64 (joinS l).1, .int .i64 (joinS l).2]) w) := by
  have hln := hl.len
  have hnle := hl.le
  have hnm := hl.max
  have hq := (Pair.second w (.cells #[.int .i64 0, .int .i64 0] 44) 44 0 0)
  have ho := (Pair.new w 44 0 0).alloc (.cells #[.int .i64 0, .int .i64 0] 44)
  have hb := second_below w (.cells #[.int .i64 0, .int .i64 0] 44) (.cells #[.int .i64 0, .int .i64 0] 44)
  have HL := Lib.hid hl
  clear hl
  go_enter Tryd.func77, Tryd.ntmps77
  go_upto_region 2 with (fail)
  generalize (w.alloc (.cells #[.int .i64 0, .int .i64 0] 44)).alloc (.cells #[.int .i64 0, .int .i64 0] 44) = W1 at *
  have HQ := Lib.hid hq
  have HO := Lib.hid ho
  have HB := Lib.hid hb
  clear hq ho hb
  go_wp2
  go_loopw [4] (fun i wr => ∃ k : Nat, k ≤ n ∧ i = .int .i64 k ∧ Pair wr (w.heap.size + 1) 44 (joinS (l.take k)).1 (joinS (l.take k)).2 ∧ Pair wr w.heap.size 44 0 0 ∧ Below w.heap.size w wr) (fun i _ => n - (intOf i).toNat)
  case atStart => exact ⟨0, by omega, rfl, HQ.out, HO.out, HB.out⟩
  case round =>
    clear HQ HO HB
    obtain ⟨k, hk, rfl, hq, ho, hB⟩ := hrel
    by_cases hlt : k < n
    · have hki : (k : Int) < (n : Int) := by omega
      have hki2 : (k : Int) < (cap : Int) := by omega
      obtain ⟨b, off, rfl, hcell⟩ : ∃ b off, a = some ⟨b, off, none⟩ ∧ ∀ i, i < n → w.cell? ⟨b, off + i * 2, none⟩ = some (.int .i64 (l.getD i (0, 0)).1) ∧ w.cell? ⟨b, off + i * 2 + 1, none⟩ = some (.int .i64 (l.getD i (0, 0)).2) := by
        rcases HL.out.adr with h0 | h
        · omega
        · exact h
      have HCW := Lib.hid (fun W (h : Below w.heap.size w W) => (show W.cell? ⟨b, off + k * 2, none⟩ = some (.int .i64 (l.getD k (0, 0)).1) ∧ W.cell? ⟨b, off + k * 2 + 1, none⟩ = some (.int .i64 (l.getD k (0, 0)).2) from
        ⟨(h.cell (World.block_lt_of_cell? w _ (hcell k hlt).1)).trans (hcell k hlt).1, (h.cell (World.block_lt_of_cell? w _ (hcell k hlt).2)).trans (hcell k hlt).2⟩))
      have HJ := Lib.hid (joinS_take l k (by omega))
      obtain ⟨x, hx⟩ : ∃ x, l.getD k (0, 0) = x := ⟨_, rfl⟩
      obtain ⟨j, hj⟩ : ∃ j, joinS (l.take k) = j := ⟨_, rfl⟩
      simp only [hx] at HCW
      rw [hx] at HJ
      rw [hj] at hq HJ
      obtain ⟨x0, x1⟩ := x
      obtain ⟨j0, j1⟩ := j
      simp only at HCW HJ hq
      obtain ⟨p0, p1⟩ := HCW.out wr hB
      have q0 := hq.c0
      have q1 := hq.c1
      have z0 := hq.fz 0
      have z1 := hq.fz 1
      have HQ := Lib.hid hq
      have HO := Lib.hid ho
      have HB := Lib.hid hB
      clear hcell hx hj hq ho hB
      go_wp2
      refine wp_region_any (by kernel_rfl) ?_
      refine any_head_tail (C := fun w' => ∃ n, w' = wr.drewN n) 0 9 (by decide) (by rfl) (by kernel_rfl) ⟨1, rfl⟩ ?_
      simp only [List.drop_succ_cons, List.drop_zero, List.take_succ_cons, List.take_zero]
      repeat (go_big_quiet_step (fail))
      refine wpQuiet_nil ?_
      intro _ hw'
      obtain ⟨nq, hw''⟩ := hw'
      subst hw''
      have hbq := drewN_below (Below.refl wr.heap.size wr) nq
      have HQ2 := Lib.hid (HQ.out.kept hbq)
      have HO2 := Lib.hid (HO.out.kept hbq)
      have HB2 := Lib.hid (HB.out.trans (hbq.mono HB.out.size))
      clear hbq q0 q1 z0 z1 p0 p1 HQ HO HB
      generalize wr.drewN nq = W2 at *
      have q0 := HQ2.out.c0
      have z0 := HQ2.out.fz 0
      go_upto_region 6 with (fail)
      have HQ3 := Lib.hid (HQ2.out.set0 (Max.max j0 x0))
      have HO3 := Lib.hid (HO2.out.other ⟨w.heap.size + 1, 0, none⟩ (.int .i64 (Max.max j0 x0)) (by simp))
      have HB3 := Lib.hid (HB2.out.setCell (p := ⟨w.heap.size + 1, 0, none⟩) (by simp) (.int .i64 (Max.max j0 x0)))
      clear q0 z0 HQ2 HO2 HB2
      generalize W2.setCell ⟨w.heap.size + 1, 0, none⟩ (.int .i64 (Max.max j0 x0)) = W3 at *
      have q1 := HQ3.out.c1
      obtain ⟨p0, p1⟩ := HCW.out W3 HB3.out
      refine wp_region_any (by kernel_rfl) ?_
      refine any_head_tail (C := fun w' => ∃ n, w' = W3.drewN n) 0 9 (by decide) (by rfl) (by kernel_rfl) ⟨1, rfl⟩ ?_
      simp only [List.drop_succ_cons, List.drop_zero, List.take_succ_cons, List.take_zero]
      repeat (go_big_quiet_step (fail))
      refine wpQuiet_nil ?_
      intro _ hw'
      obtain ⟨nq, hw''⟩ := hw'
      subst hw''
      have hbq := drewN_below (Below.refl W3.heap.size W3) nq
      have HQ4 := Lib.hid (HQ3.out.kept hbq)
      have HO4 := Lib.hid (HO3.out.kept hbq)
      have HB4 := Lib.hid (HB3.out.trans (hbq.mono HB3.out.size))
      clear hbq q1 p0 p1 HQ3 HO3 HB3
      generalize W3.drewN nq = W4 at *
      have q1 := HQ4.out.c1
      have z1 := HQ4.out.fz 1
      go_wp2
      go_roundw
      case rel => exact ⟨k + 1, by omega, rfl, by rw [HJ.out]; exact HQ4.out.set1 _, HO4.out.other _ _ (by simp), HB4.out.setCell (by simp) _⟩
      case measure => simp [intOf]; omega
    · obtain rfl : k = n := by omega
      rw [List.take_of_length_le (by omega)] at hq
      have q0 := hq.c0
      have q1 := hq.c1
      have o0 := ho.c0
      have o1 := ho.c1
      have z0 := ho.fz 0
      have z1 := ho.fz 1
      have HO := Lib.hid ho
      have HB := Lib.hid hB
      clear hq ho hB
      go_wp2
      refine bodyPost_ret (results_cell_row rfl _ _ w.heap.size 44 _ (0, 0) _ rfl ((HO.out.set0 _).set1 _) Tryd.underlying44 rfl (size2 _ _)) rfl ⟨rfl, (HB.out.setCell (Nat.le_refl _) _).setCell (Nat.le_refl _) _⟩
theorem prs2 (W : World) (a b c d : Int) : Prs (W.alloc (.cells #[.int .i64 a, .int .i64 b, .int .i64 c, .int .i64 d] 44)) (some ⟨W.heap.size, 0, none⟩) 2 2 [(a, b), (c, d)] := by
  have h : (W.alloc (.cells #[.int .i64 a, .int .i64 b, .int .i64 c, .int .i64 d] 44)).heap[W.heap.size]? = some (.cells #[.int .i64 a, .int .i64 b, .int .i64 c, .int .i64 d] 44 (0, 0)) := heap_alloc_new W _
  refine ⟨rfl, Nat.le_refl _, by omega, .inr ⟨W.heap.size, 0, rfl, fun i hi => ?_⟩⟩
  rcases (by omega : i = 0 ∨ i = 1) with rfl | rfl
  · exact ⟨by rw [cell_of_row _ _ _ _ _ _ h]; rfl, by rw [cell_of_row _ _ _ _ _ _ h]; rfl⟩
  · exact ⟨by rw [cell_of_row _ _ _ _ _ _ h]; rfl, by rw [cell_of_row _ _ _ _ _ _ h]; rfl⟩
def vputS (l : List UInt8) (a b : Int) : List UInt8 := if vgood a b = true then l ++ numB a ++ numB b else l
theorem vgood_bd {a b : Int} (h : vgood a b = true) : 0 ≤ a ∧ a ≤ 1099511627776 ∧ 0 ≤ b ∧ b ≤ 1099511627776 := by simpa [vgood] using h
set_option maxRecDepth 100000 in
set_option maxHeartbeats 3200000 in
theorem rvput_c {w : World} {a : Option Addr} {m cap : Nat} {l : List UInt8} (hl : Bys w a m cap l) (hn : m ≤ 100000)  (x y : Int) :
    Calls Tryd.prog 88 #[.slice a m cap, .agg #[.int .i64 x, .int .i64 y]] w (BytesPost (vputS l x y) w) := by
  obtain ⟨i0, hi, hz0, hz1, hz2⟩ := info_parts Tryd.info5
  have hp := Pair.new w 44 x y
  have hb := alloc_below w (.cells #[.int .i64 x, .int .i64 y] 44)
  have hln := hl.len
  have HL := Lib.hid (hl.below hb)
  have HP := Lib.hid hp
  have HB := Lib.hid hb
  have G := rvgood_c x y
  have HV := Lib.hid (show vputS l x y = if vgood x y = true then l ++ numB x ++ numB y else l from rfl)
  have l0 := HP.out.c0
  have l1 := HP.out.c1
  clear hp hb hl
  cases hg : vgood x y with
  | false =>
    rw [hg] at G
    have HG := Lib.hid G
    have hv : vputS l x y = l := by rw [HV.out, if_neg (by simp [hg])]
    rw [hv]
    clear hv HV G hg
    go_enter Tryd.func88, Tryd.ntmps88
    go_upto_region 1 with (fail)
    generalize w.alloc (.cells #[.int .i64 x, .int .i64 y] 44) = W1 at *
    go_upto_region 2 with (go_at_call 73; (with_reducible refine (HG.out _).mono ?_); rintro e w1 ⟨rfl, hb1⟩)
    have HB1 := Lib.hid (HB.out.trans (hb1.mono HB.out.size))
    have hla := (HL.out.below hb1).below (alloc_below w1 (.cells #[] 5))
    have hoe := OwnB.empty w1 w1.heap.size 5 (Nat.le_refl _)
    clear hb1 l0 l1 HP HL HB
    go_wp2_with (at_builtin; refine wpList_append_bys rfl (.tmp 8) (.tmp 9) 59 rfl Tryd.underlying59 hi hz0 hz1 hz2 rfl rfl hoe rfl hla (by simp; omega) (by simp) ?_; intro v1 w2 ho1 hg1)
    have b1 : Below w1.heap.size w1 w2 := ((Below.refl w1.heap.size w1).alloc (Nat.le_refl _) (.cells #[] 5)).grown hg1 (by simp) (fun k hk => (hoe.lt k hk).1)
    rw [List.nil_append] at ho1
    go_ret
    exact ⟨_, rfl, ho1.mono HB1.out.size, HB1.out.trans (b1.mono HB1.out.size)⟩
  | true =>
    rw [hg] at G
    have HG := Lib.hid G
    have hv : vputS l x y = l ++ numB x ++ numB y := by rw [HV.out, if_pos (by simp [hg])]
    rw [hv]
    obtain ⟨x0, x1, y0, y1⟩ := vgood_bd hg
    have hx8 := numB_length x
    obtain ⟨lx, hlx⟩ : ∃ q, l ++ numB x = q := ⟨_, rfl⟩
    have hxl : lx.length ≤ 1000000 := by rw [← hlx, List.length_append]; omega
    obtain ⟨ly, hly⟩ : ∃ q, lx ++ numB y = q := ⟨_, rfl⟩
    rw [hlx, hly]
    clear hv HV G hg
    go_enter Tryd.func88, Tryd.ntmps88
    go_upto_region 1 with (fail)
    generalize w.alloc (.cells #[.int .i64 x, .int .i64 y] 44) = W1 at *
    go_upto_region 3 with (go_at_call 73; (with_reducible refine (HG.out _).mono ?_); rintro e w2 ⟨rfl, hb2⟩)
    have HP2 := Lib.hid (HP.out.kept hb2)
    have HL2 := Lib.hid (HL.out.below hb2)
    have HB2 := Lib.hid (HB.out.trans (hb2.mono HB.out.size))
    clear l0 l1 hb2 HP HL HB
    have HC := Lib.hid (fun W (h : Below w2.heap.size w2 W) => And.intro (HP2.out.kept h).c0 (HP2.out.kept h).c1)
    have HPut := Lib.hid (fun W (h : Below w2.heap.size w2 W) => rput_c (HL2.out.below h) (show m ≤ 1000000 by omega) x (by omega) (by omega) )
    rw [hlx] at HPut
    have HPut2 := Lib.hid (fun (W : World) (h : Below w2.heap.size w2 W) (a' : Option Addr) (c' : Nat) (hy : Bys W a' lx.length c' lx) => rput_c hy hxl y (by omega) (by omega) )
    rw [hly] at HPut2
    clear hlx hly hln
    refine wp_region_flow [none, none, none, none, some 7, none, none, none, none, none, none, some 0, some 1, some 2, some 3, some 4, some 5, some 6] (fun i => if i = 7 then .slice none 0 0 else undef) [(fun v _ => v = .slice a m cap), (fun v _ => v = .pointer (some ⟨w.heap.size, 0, none⟩)), (fun v _ => v = .int .i64 x), (fun v W => OwnB W w.heap.size 5 v lx), (fun v _ => v = .pointer (some ⟨w.heap.size, 1, none⟩)), (fun v _ => v = .int .i64 y), (fun v W => OwnB W w.heap.size 5 v ly), (fun v W => OwnB W w.heap.size 5 v ly)] (by kernel_rfl) (by kernel_rfl) rfl rfl rfl ?_ ?_ ?_
    · intro g hg v X Y hX hY hv
      simp only [List.mem_cons, List.not_mem_nil, or_false] at hg
      rcases hg with rfl | rfl | rfl | rfl | rfl | rfl | rfl | rfl
      all_goals first
        | exact hv
        | exact hv.kept hY
    · simp only [flowOps, and_true]
      refine ⟨?_, ?_, ?_, ?_, ?_, ?_, ?_, ?_⟩
      · intro xs W hW hn
        simp only [flowAct, List.zipWith_cons_cons, List.zipWith_nil_left]
        go_wp2_with (fail)
        exact ⟨rfl, _, rfl, Below.refl _ _, rfl⟩
      · intro xs W hW hn
        obtain ⟨p0, p1⟩ := HC.out W hW
        simp only [flowAct, List.zipWith_cons_cons, List.zipWith_nil_left]
        go_wp2_with (fail)
        exact ⟨rfl, _, rfl, Below.refl _ _, rfl⟩
      · intro xs W hW hn
        obtain ⟨p0, p1⟩ := HC.out W hW
        simp [flowNeeds, Region.binds] at hn
        simp only [flowAct, List.zipWith_cons_cons, List.zipWith_nil_left, hn]
        go_wp2_with (fail)
        exact ⟨rfl, _, rfl, Below.refl _ _, rfl⟩
      · intro xs W hW hn
        simp [flowNeeds, Region.binds] at hn
        simp only [flowAct, List.zipWith_cons_cons, List.zipWith_nil_left, hn]
        go_wp2_with (go_at_call 87; (with_reducible refine (HPut.out _ hW).mono ?_); rintro e w9 ⟨v, rfl, ho, hb9⟩)
        exact ⟨rfl, _, rfl, hb9, ho.mono (Nat.le_trans HB2.out.size hW.size)⟩
      · intro xs W hW hn
        obtain ⟨p0, p1⟩ := HC.out W hW
        simp only [flowAct, List.zipWith_cons_cons, List.zipWith_nil_left]
        go_wp2_with (fail)
        exact ⟨rfl, _, rfl, Below.refl _ _, rfl⟩
      · intro xs W hW hn
        obtain ⟨p0, p1⟩ := HC.out W hW
        simp [flowNeeds, Region.binds] at hn
        simp only [flowAct, List.zipWith_cons_cons, List.zipWith_nil_left, hn]
        go_wp2_with (fail)
        exact ⟨rfl, _, rfl, Below.refl _ _, rfl⟩
      · intro xs W hW hn
        simp [flowNeeds, Region.binds] at hn
        obtain ⟨ho3, e5⟩ := hn
        obtain ⟨a', c', e3, hy3⟩ := ho3.bys
        simp only [flowAct, List.zipWith_cons_cons, List.zipWith_nil_left, e3, e5]
        go_wp2_with (go_at_call 87; (with_reducible refine (HPut2.out _ hW _ _ hy3).mono ?_); rintro e w9 ⟨v, rfl, ho, hb9⟩)
        exact ⟨rfl, _, rfl, hb9, ho.mono (Nat.le_trans HB2.out.size hW.size)⟩
      · intro xs W hW hn
        simp [flowNeeds, Region.binds] at hn
        simp only [flowAct, List.zipWith_cons_cons, List.zipWith_nil_left]
        go_wp2_with (fail)
        exact ⟨rfl, _, rfl, Below.refl _ _, hn.1⟩
    · intro xs W hW hall
      simp only [flowAll, and_true, Nat.zero_add, Nat.reduceAdd] at hall
      obtain ⟨-, -, -, -, -, -, -, e7⟩ := hall
      simp only [flowAct, List.zipWith_cons_cons, List.zipWith_nil_left]
      go_wp2
      go_ret
      exact ⟨_, rfl, e7, HB2.out.trans (hW.mono HB2.out.size)⟩
theorem slice_bys {W : World} {a : Option Addr} {n cap : Nat} {l : List UInt8} (h : Bys W a n cap l) {q : Nat} (hq : q ≤ n) :
    ∃ a', (∀ W', (Instr.slice 59 (.slice a n cap) (some (.int .i64 (q : Int))) none none).run Tryd.prog W' = .ok (.slice a' (n - q) (cap - q)) W') ∧
      (∀ W', (Instr.sliceAt 59 (.slice a n cap) (some (.int .i64 (q : Int))) none none).run Tryd.prog W' = .ok (.slice a' (n - q) (cap - q)) W') ∧ Bys W a' (n - q) (cap - q) (l.drop q) := by
  have hle := h.le
  have he : Tryd.prog.elem 59 = 5 := by kernel_rfl
  obtain ⟨i0, hi, hz0, hz1, hz2⟩ := info_parts Tryd.info5
  have key : ∃ a', (∀ W', (Instr.slice 59 (.slice a n cap) (some (.int .i64 (q : Int))) none none).run Tryd.prog W' = .ok (.slice a' (n - q) (cap - q)) W') ∧ Bys W a' (n - q) (cap - q) (l.drop q) := by
    by_cases hc : cap = q
    · refine ⟨a, fun W' => ?_, h.dropEnd hq hc⟩
      rw [run_slice_l W' 59 a n cap (by kernel_rfl) .i64 (q : Int) (by omega) (by omega), he]
      have hsz : (sizeOf 5).run Tryd.prog W' = .ok 1 W' := by simp [sizeOf, typeInfo, hi, hz1, go_sem]
      rw [hsz]
      simp only [Result.andThen_ok, sliced, Int.toNat_natCast, Nat.mul_one]
      rw [if_pos hc]
    · refine ⟨a.map (fun x => x.add q), fun W' => ?_, h.drop hq⟩
      rw [run_slice_l W' 59 a n cap (by kernel_rfl) .i64 (q : Int) (by omega) (by omega), he]
      have hsz : (sizeOf 5).run Tryd.prog W' = .ok 1 W' := by simp [sizeOf, typeInfo, hi, hz1, go_sem]
      rw [hsz]
      simp only [Result.andThen_ok, sliced, Int.toNat_natCast, Nat.mul_one]
      rw [if_neg hc]
  obtain ⟨a', h1, h2⟩ := key
  refine ⟨a', h1, fun W' => ?_, h2⟩
  rw [run_sliceAt_slice _ _ _ _ _ _ (by kernel_rfl)]
  exact h1 W'
/-- The counts with which bytes begin. -/
def vgetS (l : List UInt8) : (Int × Int) × Int × Int :=
  if ¬ (getS l).2.2 = 0 then ((0, 0), 0, (getS l).2.2)
  else if ¬ (getS (l.drop (getS l).2.1.toNat)).2.2 = 0 then ((0, 0), 0, (getS (l.drop (getS l).2.1.toNat)).2.2)
  else if vgood (getS l).1 (getS (l.drop (getS l).2.1.toNat)).1 = true then (((getS l).1, (getS (l.drop (getS l).2.1.toNat)).1), (getS l).2.1 + (getS (l.drop (getS l).2.1.toNat)).2.1, 0) else ((0, 0), 0, 11)
theorem vget_err1 {l : List UInt8} {x k f : Int} (h : getS l = (x, k, f)) (hf : f ≠ 0) : vgetS l = ((0, 0), 0, f) := by
  unfold vgetS; rw [h]; simp [hf]
theorem vget_err2 {l : List UInt8} {x y k2 f : Int} {q : Nat} (h : getS l = (x, (q : Int), 0)) (h2 : getS (l.drop q) = (y, k2, f)) (hf : f ≠ 0) : vgetS l = ((0, 0), 0, f) := by
  unfold vgetS; rw [h]; simp [h2, hf]
theorem vget_two {l : List UInt8} {x y : Int} {q q2 : Nat} (h : getS l = (x, (q : Int), 0)) (h2 : getS (l.drop q) = (y, (q2 : Int), 0)) :
    vgetS l = if vgood x y = true then ((x, y), (q : Int) + (q2 : Int), 0) else ((0, 0), 0, 11) := by
  unfold vgetS; rw [h]; simp [h2]
set_option maxHeartbeats 1600000 in
theorem rvget_c {w : World} {a : Option Addr} {n cap : Nat} {l : List UInt8} (hl : Bys w a n cap l) :
    Calls Tryd.prog 107 #[.slice a n cap] w (Tells (.tuple #[.agg #[.int .i64 (vgetS l).1.1, .int .i64 (vgetS l).1.2], .int .i64 (vgetS l).2.1, .int .i64 (vgetS l).2.2]) w) := by
  have ho := Pair.new w 44 0 0
  have hb := alloc_below w (.cells #[.int .i64 0, .int .i64 0] 44)
  have hl1 := hl.below hb
  have HR := Lib.hid (rget_c hl1)
  have hok := getS_ok l
  have hlen := hl.len
  have hmx : n ≤ 9223372036854775807 := Nat.le_trans hl.le hl.max
  have HO := Lib.hid ho
  have HB := Lib.hid hb
  clear ho hb hl
  obtain ⟨⟨x, k, f⟩, hx⟩ : ∃ q, getS l = q := ⟨_, rfl⟩
  rw [hx] at HR hok
  simp only at HR hok
  by_cases hf : f = 0
  · subst hf
    obtain ⟨q, rfl, hq1, hq2, x0, x1⟩ := hok rfl
    obtain ⟨a', hs1, hs2, hl2⟩ := slice_bys hl1 (q := q) (by omega)
    have HR2 := Lib.hid (rget_c hl2)
    have hok2 := getS_ok (l.drop q)
    obtain ⟨⟨y, k2, f2⟩, hy⟩ : ∃ z, getS (l.drop q) = z := ⟨_, rfl⟩
    rw [hy] at HR2 hok2
    simp only at HR2 hok2
    have hq3 : q ≤ n := by omega
    clear hl1 hl2 hok
    by_cases hf2 : f2 = 0
    · subst hf2
      obtain ⟨q2, rfl, hq4, hq5, y0, y1⟩ := hok2 rfl
      have HV := Lib.hid (vget_two hx hy)
      have hsum : ((q : Int) + (q2 : Int)) ≤ 9223372036854775807 := by rw [List.length_drop] at hq5; omega
      have G := rvgood_c x y
      clear hok2 hq5 hx hy hlen hmx
      go_enter Tryd.func107, Tryd.ntmps107
      go_upto_region 1 with (fail)
      generalize w.alloc (.cells #[.int .i64 0, .int .i64 0] 44) = W1 at *
      go_upto_region 8 with (first
        | (go_at_call 82; (with_reducible refine HR.out.mono ?_); rintro e w1 ⟨rfl, rfl⟩)
        | (go_at_call 82; (with_reducible refine HR2.out.mono ?_); rintro e w1 ⟨rfl, rfl⟩))
      have HO2 := Lib.hid (HO.out.alloc (.cells #[.int .i64 x, .int .i64 y] 44))
      have hx2 := Pair.new W1 44 x y
      have HB2 := Lib.hid (HB.out.alloc HB.out.size (.cells #[.int .i64 x, .int .i64 y] 44))
      obtain ⟨gx, hgx⟩ : ∃ g, W1.heap.size = g := ⟨_, rfl⟩
      rw [hgx] at hx2 ⊢
      generalize W1.alloc (.cells #[.int .i64 x, .int .i64 y] 44) = W2 at *
      have u0 := hx2.c0
      have u1 := hx2.c1
      have HX2 := Lib.hid hx2
      clear hx2 hgx HO HB
      cases hg : vgood x y with
      | true =>
        rw [hg] at G HV
        have HG := Lib.hid G
        have HV3 := Lib.hid (show vgetS l = ((x, y), (q : Int) + (q2 : Int), 0) by rw [HV.out, if_pos rfl])
        clear G hg HV
        go_wp2_with (go_at_call 73; (with_reducible refine (HG.out _).mono ?_); rintro e w3 ⟨rfl, hb3⟩; have y0 := (HX2.out.kept hb3).c0; have y1 := (HX2.out.kept hb3).c1; have o0 := (HO2.out.kept hb3).c0; have o1 := (HO2.out.kept hb3).c1; have z0 := (HO2.out.kept hb3).fz 0; have z1 := (HO2.out.kept hb3).fz 1)
        refine bodyPost_ret (res_cell_tmp2 rfl _ _ w.heap.size 44 _ (0, 0) _ (.int .i64 ((q : Int) + (q2 : Int))) (.int .i64 0) rfl rfl rfl (((HO2.out.kept hb3).set0 _).set1 _) Tryd.underlying44 rfl (size2 _ _)) rfl ⟨by rw [HV3.out], ((HB2.out.trans (hb3.mono HB2.out.size)).setCell (by simp) _).setCell (by simp) _⟩
      | false =>
        rw [hg] at G HV
        have HG := Lib.hid G
        have HV3 := Lib.hid (show vgetS l = ((0, 0), 0, 11) by rw [HV.out, if_neg (by simp)])
        clear G hg HV
        go_wp2_with (go_at_call 73; (with_reducible refine (HG.out _).mono ?_); rintro e w3 ⟨rfl, hb3⟩; have y0 := (HX2.out.kept hb3).c0; have y1 := (HX2.out.kept hb3).c1; have o0 := (HO2.out.kept hb3).c0; have o1 := (HO2.out.kept hb3).c1; have z0 := (HO2.out.kept hb3).fz 0; have z1 := (HO2.out.kept hb3).fz 1)
        refine bodyPost_ret (res_cell_tmp2 rfl _ _ w.heap.size 44 _ (0, 0) _ (.int .i64 0) (.int .i64 11) rfl rfl rfl (((HO2.out.kept hb3).set0 _).set1 _) Tryd.underlying44 rfl (size2 _ _)) rfl ⟨by rw [HV3.out], ((HB2.out.trans (hb3.mono HB2.out.size)).setCell (by simp) _).setCell (by simp) _⟩
    · have hf1 : (f2 != 0) = true := by simpa using hf2
      have HV2 := Lib.hid (vget_err2 hx hy hf2)
      clear hok2 hx hy hlen hf2 hmx
      go_enter Tryd.func107, Tryd.ntmps107
      go_upto_region 1 with (fail)
      generalize w.alloc (.cells #[.int .i64 0, .int .i64 0] 44) = W1 at *
      have o0 := HO.out.c0
      have o1 := HO.out.c1
      have z0 := HO.out.fz 0
      have z1 := HO.out.fz 1
      go_wp2_with (first
        | (go_at_call 82; (with_reducible refine HR.out.mono ?_); rintro e w1 ⟨rfl, rfl⟩)
        | (go_at_call 82; (with_reducible refine HR2.out.mono ?_); rintro e w1 ⟨rfl, rfl⟩))
      refine bodyPost_ret (res_cell_tmp2 rfl _ _ w.heap.size 44 _ (0, 0) _ (.int .i64 0) (.int .i64 f2) rfl rfl rfl ((HO.out.set0 _).set1 _) Tryd.underlying44 rfl (size2 _ _)) rfl ⟨by rw [HV2.out], (HB.out.setCell (by simp) _).setCell (by simp) _⟩
  · have hf1 : (f != 0) = true := by simpa using hf
    have HV2 := Lib.hid (vget_err1 hx hf)
    clear hok hx hlen hf hl1 hmx
    go_enter Tryd.func107, Tryd.ntmps107
    go_upto_region 1 with (fail)
    generalize w.alloc (.cells #[.int .i64 0, .int .i64 0] 44) = W1 at *
    have o0 := HO.out.c0
    have o1 := HO.out.c1
    have z0 := HO.out.fz 0
    have z1 := HO.out.fz 1
    go_wp2_with (go_at_call 82; (with_reducible refine HR.out.mono ?_); rintro e w1 ⟨rfl, rfl⟩)
    refine bodyPost_ret (res_cell_tmp2 rfl _ _ w.heap.size 44 _ (0, 0) _ (.int .i64 0) (.int .i64 f) rfl rfl rfl ((HO.out.set0 _).set1 _) Tryd.underlying44 rfl (size2 _ _)) rfl ⟨by rw [HV2.out], (HB.out.setCell (by simp) _).setCell (by simp) _⟩
end Go.Proofs.YtkjpmdpljdgcjaaDoor
