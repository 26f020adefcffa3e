/-
  Window: the walks of WindowAgain, WindowFew and WindowOn.
-/
import Derived.Test.YtplanmiggeghfaaWA6
import Derived.Shelf.Abstract
namespace Go.Proofs.Ytplanmiggeghfaa
open Go.RowKit Go Go.Sort Go.Deep
set_option linter.unusedVariables false
set_option maxRecDepth 20000

theorem umod (z M : Int) (h0 : 0 < M) (h1 : M ≤ 4611686018427387904) : ∃ q : Int, wrap64 ((IntKind.u64.wrap z).tmod M) = q ∧ 0 ≤ q ∧ q < M := by
  have e : IntKind.u64.wrap z = z % 18446744073709551616 := by simp [IntKind.wrap, IntKind.signed, IntKind.bits]
  rw [e]
  have h2 : 0 ≤ z % 18446744073709551616 := Int.emod_nonneg _ (by decide)
  rw [Int.tmod_eq_emod_of_nonneg h2]
  have h3 := Int.emod_nonneg (z % 18446744073709551616) (show M ≠ 0 by omega)
  have h4 := Int.emod_lt_of_pos (z % 18446744073709551616) h0
  refine ⟨_, rfl, ?_⟩
  unfold wrap64
  omega
theorem again_1 {k t n at' : Int} {c : Nat} (hk : 1 ≤ k) (hn : 0 ≤ n) (hnm : n ≤ 1099511627776) (ha : 0 ≤ at') (ham : at' ≤ 1099511627776) (hc : (c : Int) = min n k) :
    Wn.err 0 n at' = 0 ∧ Wn.tell ⟨k, t, 0, 0, 0⟩ 0 n at' = ups 1 c ∧ Wn.ask ⟨k, t, 0, 0, 0⟩ 0 n at' = ⟨k, t, 0, (c : Int), if c = 0 then 0 else at'⟩ := by
  have hq : AskOk 0 n at' := ⟨by omega, hn, hnm, ha, ham⟩
  have hf : Wn.frm ⟨k, t, 0, 0, 0⟩ 0 at' = 0 := by unfold Wn.frm Wn.ackd; simp
  have hcn : Wn.cnt ⟨k, t, 0, 0, 0⟩ 0 n at' = c := by unfold Wn.cnt; rw [hf]; unfold Wn.ackd; simp; omega
  refine ⟨if_pos hq, ?_, ?_⟩
  · rw [show Wn.tell ⟨k, t, 0, 0, 0⟩ 0 n at' = Wn.told ⟨k, t, 0, 0, 0⟩ 0 n at' from if_pos hq]
    unfold Wn.told
    rw [hf, hcn]
    rfl
  · rw [show Wn.ask ⟨k, t, 0, 0, 0⟩ 0 n at' = Wn.next ⟨k, t, 0, 0, 0⟩ 0 n at' from if_pos hq]
    unfold Wn.next
    rw [hf, hcn]
    unfold Wn.ackd
    simp
theorem again_2 {k t n at' r l : Int} {c : Nat} (hk : 1 ≤ k) (hn : 0 ≤ n) (hnm : n ≤ 1099511627776) (ha : 0 ≤ at' + r) (ham : at' + r ≤ 1099511627776) (hc : (c : Int) = min n k) (hr : r < t) (hl : l = if c = 0 then 0 else at') :
    Wn.err 0 n (at' + r) = 0 ∧ Wn.tell ⟨k, t, 0, (c : Int), l⟩ 0 n (at' + r) = [] ∧ Wn.ask ⟨k, t, 0, (c : Int), l⟩ 0 n (at' + r) = ⟨k, t, 0, (c : Int), l⟩ := by
  have hq : AskOk 0 n (at' + r) := ⟨by omega, hn, hnm, ha, ham⟩
  have hf : Wn.frm ⟨k, t, 0, (c : Int), l⟩ 0 (at' + r) = (c : Int) := by
    unfold Wn.frm Wn.ackd
    simp only
    by_cases h0 : c = 0
    · subst h0; split <;> simp
    · rw [if_neg h0] at hl
      rw [if_neg (by omega)]
      omega
  have hcn : Wn.cnt ⟨k, t, 0, (c : Int), l⟩ 0 n (at' + r) = 0 := by unfold Wn.cnt; rw [hf]; unfold Wn.ackd; simp; omega
  refine ⟨if_pos hq, ?_, ?_⟩
  · rw [show Wn.tell ⟨k, t, 0, (c : Int), l⟩ 0 n (at' + r) = Wn.told ⟨k, t, 0, (c : Int), l⟩ 0 n (at' + r) from if_pos hq]
    unfold Wn.told
    rw [hcn]
    rfl
  · rw [show Wn.ask ⟨k, t, 0, (c : Int), l⟩ 0 n (at' + r) = Wn.next ⟨k, t, 0, (c : Int), l⟩ 0 n (at' + r) from if_pos hq]
    unfold Wn.next
    rw [hf, hcn]
    unfold Wn.ackd
    simp
theorem again_3 {k t n at' l : Int} {c : Nat} (hk : 1 ≤ k) (ht : 1 ≤ t) (hn : 0 ≤ n) (hnm : n ≤ 1099511627776) (ha : 0 ≤ at') (ham : at' + t ≤ 1099511627776) (hc : (c : Int) = min n k) (hl : l = if c = 0 then 0 else at') :
    Wn.err 0 n (at' + t) = 0 ∧ Wn.tell ⟨k, t, 0, (c : Int), l⟩ 0 n (at' + t) = ups 1 c := by
  have hq : AskOk 0 n (at' + t) := ⟨by omega, hn, hnm, by omega, ham⟩
  have hf : Wn.frm ⟨k, t, 0, (c : Int), l⟩ 0 (at' + t) = 0 := by
    unfold Wn.frm Wn.ackd
    simp only
    by_cases h0 : c = 0
    · subst h0; split <;> simp
    · rw [if_neg h0] at hl
      rw [if_pos (by omega)]
      omega
  have hcn : Wn.cnt ⟨k, t, 0, (c : Int), l⟩ 0 n (at' + t) = c := by unfold Wn.cnt; rw [hf]; unfold Wn.ackd; simp; omega
  refine ⟨if_pos hq, ?_⟩
  rw [show Wn.tell ⟨k, t, 0, (c : Int), l⟩ 0 n (at' + t) = Wn.told ⟨k, t, 0, (c : Int), l⟩ 0 n (at' + t) from if_pos hq]
  unfold Wn.told
  rw [hf, hcn]
  rfl

set_option maxRecDepth 100000 in
set_option maxHeartbeats 6400000 in
theorem wagain_walk (w : World) (size wait have' now early : Int) : Calls Try.prog 8 #[.int .i64 size, .int .i64 wait, .int .i64 have', .int .i64 now, .int .i64 early] w (Tells (.bool true) w) := by
  obtain ⟨k0, hk0, hk1, hk2⟩ := umod size 16 (by omega) (by omega)
  obtain ⟨t0, ht0, ht1, ht2⟩ := umod wait 64 (by omega) (by omega)
  obtain ⟨n, hn0, hn1, hn2⟩ := umod have' 1000 (by omega) (by omega)
  obtain ⟨u, hu0, hu1, hu2⟩ := umod now 1073741824 (by omega) (by omega)
  obtain ⟨k, hk⟩ : ∃ k : Int, 1 + k0 = k := ⟨_, rfl⟩
  obtain ⟨t, ht⟩ : ∃ t : Int, 1 + t0 = t := ⟨_, rfl⟩
  obtain ⟨r, hr0, hr1, hr2⟩ := umod early t (by omega) (by omega)
  obtain ⟨c, hc⟩ : ∃ c : Nat, (c : Int) = min n k := ⟨(min n k).toNat, by omega⟩
  have hwk : IntKind.i64.wrap (1 + k0) = k := by rw [IntKind.wrap_i64]; omega
  have hwt : IntKind.i64.wrap (1 + t0) = t := by rw [IntKind.wrap_i64]; omega
  have hwu : IntKind.u64.wrap t = t := by
    have e : IntKind.u64.wrap t = t % 18446744073709551616 := by simp [IntKind.wrap, IntKind.signed, IntKind.bits]
    rw [e]; omega
  have hwr : IntKind.i64.wrap (u + r) = u + r := by rw [IntKind.wrap_i64]; omega
  have hwv : IntKind.i64.wrap (u + t) = u + t := by rw [IntKind.wrap_i64]; omega
  have htn : (t == 0) = false := by simp; omega
  have htn2 : ¬ t = 0 := by omega
  have hmin : ((c : Int) != min k n) = false := by simp; omega
  obtain ⟨l, hl⟩ : ∃ l : Int, l = if c = 0 then 0 else u := ⟨_, rfl⟩
  obtain ⟨E1, L1, Q1⟩ := again_1 (k := k) (t := t) (n := n) (at' := u) (c := c) (by omega) hn1 (by omega) hu1 (by omega) hc
  obtain ⟨E2, L2, Q2⟩ := again_2 (k := k) (t := t) (n := n) (at' := u) (r := r) (l := l) (c := c) (by omega) hn1 (by omega) (by omega) (by omega) hc hr2 hl
  obtain ⟨E3, L3⟩ := again_3 (k := k) (t := t) (n := n) (at' := u) (l := l) (c := c) (by omega) (by omega) hn1 (by omega) hu1 (by omega) hc hl
  rw [← hl] at Q1
  have hno : newOk k t = true := by unfold newOk; simp; omega
  have hok0 := Wn.new_ok hno
  have hok1 : (⟨k, t, 0, (c : Int), l⟩ : Wn).Ok := by rw [← Q1]; exact hok0.ask _ _ _
  have HN := Lib.hid (fun W => wnew_c k t W hno)
  have HX1 := Lib.hid (fun W g (h : Wnd W g 79 ⟨k, t, 0, 0, 0⟩) => wnext_k h hok0 0 n u E1 L1 (ups_length 1 c) Q1)
  have HX2 := Lib.hid (fun W g (h : Wnd W g 79 ⟨k, t, 0, (c : Int), l⟩) => wnext_k h hok1 0 n (u + r) E2 L2 (show ([] : List Int).length = 0 from rfl) Q2)
  have HX3 := Lib.hid (fun W g (h : Wnd W g 79 ⟨k, t, 0, (c : Int), l⟩) => wnext_k h hok1 0 n (u + t) E3 L3 (ups_length 1 c) rfl)
  clear hno hok0 hok1 E1 L1 Q1 E2 L2 Q2 E3 L3 hl hk ht hk1 hk2 ht1 ht2 hn1 hn2 hu1 hu2 hr1 hr2 hc
  go_enter Try.func8, Try.ntmps8
  go_upto_region 6 with (go_at_call 34; (with_reducible refine (HN.out _).mono ?_); rintro e1 w1 ⟨g, rfl, hg, hk1, hb1⟩; have HG := Lib.hid hg; have HB1 := Lib.hid (But.of (g := g) hb1); have HC1 := Lib.hid hk1; clear hg hb1 hk1)
  go_upto_region 9 with (go_at_call 38; (with_reducible refine (HX1.out _ _ HC1.out).mono ?_); rintro e2 w2 ⟨xa, xc, rfl, ho2, hk2, hb2⟩; have HO2 := Lib.hid ho2; have HC2 := Lib.hid hk2; have HB2 := Lib.hid (HB1.out.trans hb2); clear ho2 hk2 hb2)
  go_upto_region 10 with (go_at_call 38; (with_reducible refine (HX2.out _ _ HC2.out).mono ?_); rintro e3 w3 ⟨ya, yc, rfl, ho3, hk3, hb3⟩; have HO3 := Lib.hid (HO2.out.but hb3 (by have := HC1.out.lt; exact this)); have HC3 := Lib.hid hk3; have HB3 := Lib.hid (HB2.out.trans hb3); clear ho3 hk3 hb3)
  go_upto_region 11 with (go_at_call 38; (with_reducible refine (HX3.out _ _ HC3.out).mono ?_); rintro e4 w4 ⟨za, zc, rfl, ho4, hk4, hb4⟩; have HO4 := Lib.hid (And.intro (HO3.out.but hb4 (by have := HC1.out.lt; exact this)).ns2.2 ho4.ns2.2); have HB4 := Lib.hid (HB3.out.trans hb4); clear ho4 hk4 hb4)
  go_wp2_with (first
    | (go_at_call 40; (with_reducible refine (ints_c HO4.out.1 HO4.out.2).mono ?_); rintro e6 w6 ⟨rfl, hb6⟩; have HB6 := Lib.hid (HB4.out.trans (But.of hb6)); clear hb6)
    | (go_at_call 36; (with_reducible refine (wlives_c _).mono ?_); rintro e8 w8 ⟨rfl, hb8⟩))
  go_ret
  exact ⟨rfl, (HB6.out.base HG.out (Nat.le_refl _)).trans (hb8.mono HB6.out.size)⟩
/-- What Next tells of any question: what WindowFew asks of it. -/
theorem few_all {q : Wn} (h : q.Ok) (ack hav now : Int) : ∃ n : Nat, (q.tell ack hav now).length = n ∧ (n : Int) ≤ q.k ∧ (Wn.err ack hav now = 0 ∨ (Wn.err ack hav now = 2 ∧ n = 0)) ∧ (q.ask ack hav now).k = q.k ∧
    ∃ f : Int, q.tell ack hav now = ups f n ∧ ∀ i : Nat, i < n → (q.ask ack hav now).a < f + (i : Int) ∧ f + (i : Int) ≤ (q.ask ack hav now).a + q.k ∧ f + (i : Int) ≤ hav := by
  by_cases hn : AskOk ack hav now
  · obtain ⟨f1, f2, f3, f4, f5, f6⟩ := h.frm hn
    obtain ⟨c1, c2, c3⟩ := h.cnt hn
    have ht : q.tell ack hav now = q.told ack hav now := if_pos hn
    have ha : q.ask ack hav now = q.next ack hav now := if_pos hn
    rw [ht, ha, show Wn.err ack hav now = 0 from if_pos hn]
    refine ⟨q.cnt ack hav now, by unfold Wn.told; rw [ups_length], by omega, .inl rfl, rfl, q.frm ack now + 1, rfl, fun i hi => ?_⟩
    simp only [Wn.next]
    omega
  · have ht : q.tell ack hav now = [] := if_neg hn
    have ha : q.ask ack hav now = q := if_neg hn
    rw [ht, ha, show Wn.err ack hav now = 2 from if_neg hn]
    exact ⟨0, rfl, by have := h.k0; omega, .inr ⟨rfl, rfl⟩, rfl, 0, rfl, fun i hi => by omega⟩

set_option maxRecDepth 100000 in
set_option maxHeartbeats 6400000 in
theorem wfew_walk {w : World} (size wait : Int) {a : Option Addr} {m cap : Nat} {l : List Ck} (hl : Cks w a m cap l) : Calls Try.prog 7 #[.int .i64 size, .int .i64 wait, .slice a m cap] w (Tells (.bool true) w) := by
  have hle := hl.le
  have hmax := hl.max
  have HL := Lib.hid hl
  clear hl
  obtain ⟨k0, hk0, hk1, hk2⟩ := umod size 16 (by omega) (by omega)
  obtain ⟨t0, ht0, ht1, ht2⟩ := umod wait 64 (by omega) (by omega)
  obtain ⟨k, hk⟩ : ∃ k : Int, 1 + k0 = k := ⟨_, rfl⟩
  obtain ⟨t, ht⟩ : ∃ t : Int, 1 + t0 = t := ⟨_, rfl⟩
  have hwk : IntKind.i64.wrap (1 + k0) = k := by rw [IntKind.wrap_i64]; omega
  have hwt : IntKind.i64.wrap (1 + t0) = t := by rw [IntKind.wrap_i64]; omega
  have hno : newOk k t = true := by unfold newOk; simp; omega
  have HOK := Lib.hid (Wn.new_ok hno)
  have HN := Lib.hid (fun W => wnew_c k t W hno)
  have HKK := Lib.hid (show 1 ≤ k ∧ k ≤ 16 from by omega)
  clear hno hk ht hk1 hk2 ht1 ht2
  have hdd : ∃ d, decide ((1000 : Int) < (m : Int)) = d := ⟨_, rfl⟩
  obtain ⟨d, hd⟩ := hdd
  have HM1 := Lib.hid (show d = false → m ≤ 1000 from fun h => by rw [h] at hd; have : ¬ ((1000 : Int) < (m : Int)) := of_decide_eq_false hd; omega)
  go_enter Try.func7, Try.ntmps7
  go_upto_region 3 with (go_at_call 34; (with_reducible refine (HN.out _).mono ?_); rintro e2 w2 ⟨g, rfl, hg, hk2, hb2⟩; have HG := Lib.hid hg; have HB2 := Lib.hid hb2; have HC2 := Lib.hid hk2; clear hg hk2 hb2)
  clear hk0 ht0 hwk hwt
  cases d
  · have HMM := Lib.hid (HM1.out rfl)
    go_upto_region 5 with (fail)
    go_wp2
    go_loopw [55] (fun i wr => ∃ (j : Nat) (q : Wn), j ≤ m ∧ i = .int .i64 (j : Int) ∧ q.Ok ∧ q.k = k ∧ Wnd wr g 79 q ∧ Below w.heap.size w wr) (fun i _ => m - (intOf i).toNat)
    case atStart => exact ⟨0, _, by omega, rfl, HOK.out, rfl, HC2.out, HB2.out⟩
    case round =>
      clear HB2 HC2 HN HOK HM1 hd
      obtain ⟨j, q, hj, rfl, hok, hqk, hc, hB⟩ := hrel
      have HOK := Lib.hid hok
      have HQK := Lib.hid hqk
      clear hok hqk
      by_cases hlt : j < m
      · have hji : (j : Int) < (m : Int) := by omega
        have hjc : (j : Int) < (cap : Int) := by omega
        obtain ⟨bl, off, rfl, hat⟩ := HL.out.at hlt
        obtain ⟨u, hu⟩ : ∃ u, l.getD j Ck.zero = u := ⟨_, rfl⟩
        rw [hu] at hat
        obtain ⟨kd, ack, hav, now⟩ := u
        obtain ⟨c0, c1, c2, c3⟩ := hat wr hB
        simp only at c0 c1 c2 c3
        have HJM := Lib.hid (show j < m ∧ m ≤ 1000 from ⟨hlt, HMM.out⟩)
        have hbx := alloc_below wr (.cells #[.int .i64 kd, .int .i64 ack, .int .i64 hav, .int .i64 now] 65)
        have HC := Lib.hid (hc.kept hbx)
        have hx := heap_alloc_new wr (.cells #[.int .i64 kd, .int .i64 ack, .int .i64 hav, .int .i64 now] 65)
        have HXN := Lib.hid (show wr.heap.size ≠ g from by have := hc.lt; omega)
        have HB3 := Lib.hid (hB.trans (hbx.mono hB.size))
        clear hat hu hc hB hbx
        go_upto_region 8 with (fail)
        clear c0 c1 c2 c3
        obtain ⟨gx, hgx⟩ : ∃ q, wr.heap.size = q := ⟨_, rfl⟩
        rw [hgx] at hx HXN ⊢
        have HX := Lib.hid hx
        clear hx hgx
        generalize wr.alloc (.cells #[.int .i64 kd, .int .i64 ack, .int .i64 hav, .int .i64 now] 65) = W3 at *
        have c0 : W3.cell? ⟨gx, 0, none⟩ = some (.int .i64 kd) := by rw [cell_of_row _ gx 0 _ _ (0, 0) HX.out]; rfl
        have c1 : W3.cell? ⟨gx, 1, none⟩ = some (.int .i64 ack) := by rw [cell_of_row _ gx 1 _ _ (0, 0) HX.out]; rfl
        have c2 : W3.cell? ⟨gx, 2, none⟩ = some (.int .i64 hav) := by rw [cell_of_row _ gx 2 _ _ (0, 0) HX.out]; rfl
        have c3 : W3.cell? ⟨gx, 3, none⟩ = some (.int .i64 now) := by rw [cell_of_row _ gx 3 _ _ (0, 0) HX.out]; rfl
        by_cases hk1 : kd = 1
        · subst hk1
          clear c1 c2 c3
          have HRS := Lib.hid (wreset_c HC.out (by have := HOK.out.k0; simp; omega))
          go_wp2_with (go_at_call 37; (with_reducible refine HRS.out.mono ?_); rintro e4 w4 ⟨rfl, hk4, hb4⟩; have HC4 := Lib.hid hk4; have HB4 := Lib.hid (HB3.out.trans (hb4.base HG.out HB3.out.size)); clear hk4 hb4)
          go_roundw
          case rel => exact ⟨j + 1, q.back, by have := HJM.out; omega, by go_num, HOK.out.back, HQK.out, HC4.out, HB4.out⟩
          case measure => simp [intOf]; have := HJM.out; omega
        · have e1 : (kd == 1) = false := by simpa using hk1
          obtain ⟨n, hln, hnk, hE, hqk5, f, hL, hall⟩ := few_all HOK.out ack hav now
          have HNX := Lib.hid (wnext_k HC.out HOK.out ack hav now rfl hL (ups_length f n) rfl)
          have HOK5 := Lib.hid (HOK.out.ask ack hav now)
          obtain ⟨E, hE9⟩ : ∃ z, Wn.err ack hav now = z := ⟨_, rfl⟩
          obtain ⟨q5, hq5⟩ : ∃ z, q.ask ack hav now = z := ⟨_, rfl⟩
          rw [hE9] at HNX hE
          rw [hq5] at HNX HOK5 hqk5 hall
          rw [HQK.out] at hqk5 hnk hall
          have HALL := Lib.hid hall
          have HQ5 := Lib.hid hqk5
          have HNN := Lib.hid (show (n : Int) ≤ k ∧ n ≤ 16 from by have := HKK.out; omega)
          have HEE := Lib.hid hE
          clear hE9 hL hln hq5 hk1 hall hqk5 hnk hE
          go_upto_region 11 with (go_at_call 38; (with_reducible refine HNX.out.mono ?_); rintro e4 w4 ⟨xa, xc, rfl, ho4, hk4, hb4⟩; have HC4 := Lib.hid hk4; have HO4 := Lib.hid ho4.ns2.2; have HB4 := Lib.hid (HB3.out.trans (hb4.base HG.out HB3.out.size)); have HX4 := Lib.hid ((hb4.block _ (Array.getElem?_eq_some_iff.1 HX.out).1 (by simpa using HXN.out)).trans HX.out); clear hk4 hb4 ho4)
          clear c0 c1 c2 c3
          have HOPN := Lib.hid (wopen_c HC4.out HOK5.out)
          have hok5 := HOK5.out
          have o1 : ¬ k < q5.s - q5.a := by have := hok5.s1; rw [HQ5.out] at this; omega
          have o2 : ¬ q5.s - q5.a < 0 := by have := hok5.s0; omega
          have o3 : ¬ k < (n : Int) := by have := HNN.out.1; omega
          clear hok5
          have HACK := Lib.hid (fun W (h : Wnd W g 79 q5) => wack_c h (by have := HOK5.out.k0; simp; omega))
          rcases HEE.out with rfl | ⟨rfl, rfl⟩
          · go_upto_region 13 with (go_at_call 43; (with_reducible refine HOPN.out.mono ?_); rintro e5 w5 ⟨rfl, rfl⟩)
            clear o1 o2 o3 e1
            go_wp2
            go_loopw [101] (fun i wr => ∃ (p : Nat), p ≤ n ∧ i = .int .i64 (p : Int) ∧ Below w4.heap.size w4 wr) (fun i _ => n - (intOf i).toNat)
            case atStart => exact ⟨0, by omega, rfl, Below.refl _ _⟩
            case round =>
              obtain ⟨p, hp, rfl, hBi⟩ := hrel
              have HC5 := Lib.hid (HC4.out.kept hBi)
              have HX5 := Lib.hid ((hBi.block _ (Array.getElem?_eq_some_iff.1 HX4.out).1).trans HX4.out)
              have HB5 := Lib.hid (HB4.out.trans (hBi.mono HB4.out.size))
              have HBI := Lib.hid hBi
              clear hBi
              by_cases hlp : p < n
              · have hpi : (p : Int) < (n : Int) := by omega
                have hpc : (p : Int) < (xc : Int) := by have := HO4.out.le; omega
                obtain ⟨b, o9, rfl, hat⟩ := HO4.out.at hlp
                have d1 := hat _ HBI.out
                rw [ups_getD _ _ _ hlp] at d1
                obtain ⟨g1, g2, g3⟩ := HALL.out p hlp
                obtain ⟨x, hx9⟩ : ∃ x, f + (p : Int) = x := ⟨_, rfl⟩
                rw [hx9] at d1 g1 g2 g3
                have n1 : ¬ x ≤ q5.a := by omega
                have n2 : ¬ q5.a + k < x := by omega
                have n3 : ¬ hav < x := by omega
                have hak : IntKind.i64.wrap (q5.a + k) = q5.a + k := by
                  have h1 := HOK5.out.a0; have h2 := HOK5.out.a1; have h3 := HKK.out
                  rw [IntKind.wrap_i64]; omega
                have x2 : (wr).cell? ⟨gx, 2, none⟩ = some (.int .i64 hav) := by rw [cell_of_row _ gx 2 _ _ (0, 0) HX5.out]; rfl
                have HACK5 := Lib.hid (HACK.out _ HC5.out)
                have HPN := Lib.hid (show p < n ∧ n ≤ 16 from ⟨hlp, HNN.out.2⟩)
                by_cases hp0 : p = 0
                · subst hp0
                  have HP0 := Lib.hid (show (0 : Nat) < n from hlp)
                  rw [Nat.add_zero] at d1
                  clear g1 g2 g3 hat hx9 hlp
                  go_wp2_with (go_at_call 41; (with_reducible refine HACK5.out.mono ?_); rintro e6 w6 ⟨rfl, rfl⟩)
                  go_roundw
                  case rel => exact ⟨1, HP0.out, by go_num, HBI.out⟩
                  case measure => simp [intOf]; have := HP0.out; omega
                · obtain ⟨p', hp'⟩ : ∃ p', p = p' + 1 := ⟨p - 1, by omega⟩
                  have hp1 : IntKind.i64.wrap ((p : Int) - 1) = (p' : Int) := by rw [IntKind.wrap_i64]; have := HPN.out; omega
                  have hpp : (0 : Int) < (p : Int) := by omega
                  have hp'i : (p' : Int) < (n : Int) := by omega
                  have hp'c : (p' : Int) < (xc : Int) := by omega
                  have hp'0 : ¬ (p' : Int) < 0 := by omega
                  obtain ⟨b', o9', e9, hat'⟩ := HO4.out.at (k := p') (by omega)
                  injection e9 with e9
                  injection e9 with e91 e92
                  subst e91 e92
                  have d2 := hat' _ HBI.out
                  rw [ups_getD _ _ _ (by omega)] at d2
                  obtain ⟨y, hy9⟩ : ∃ y, f + (p' : Int) = y := ⟨_, rfl⟩
                  rw [hy9] at d2
                  have hyx : IntKind.i64.wrap (y + 1) = x := by
                    have h1 := HOK5.out.a0; have h2 := HOK5.out.a1; have h3 := HKK.out
                    rw [IntKind.wrap_i64]; omega
                  have hxx : (x != x) = false := by simp
                  have hpb : p ≤ 16 := by have := HPN.out; omega
                  clear g1 g2 g3 hat hat' hlp hx9 hy9 hp' hp0
                  go_wp2_with (go_at_call 41; (with_reducible refine HACK5.out.mono ?_); rintro e6 w6 ⟨rfl, rfl⟩)
                  go_roundw
                  case rel => exact ⟨p + 1, HPN.out.1, by go_num, HBI.out⟩
                  case measure => simp [intOf]; have h9 := HPN.out.1; omega
              · obtain rfl : p = n := by omega
                go_wp2
                go_roundw
                case rel => exact ⟨j + 1, q5, by have := HJM.out; omega, by go_num, HOK5.out, HQ5.out, HC5.out, HB5.out⟩
                case measure => simp [intOf]; have := HJM.out; omega
          · go_upto_region 13 with (go_at_call 43; (with_reducible refine HOPN.out.mono ?_); rintro e5 w5 ⟨rfl, rfl⟩)
            clear o1 o2 o3 e1
            go_wp2
            go_loopw [101] (fun i wr => i = .int .i64 (0 : Int) ∧ wr = w4) (fun i _ => 0)
            case atStart => exact ⟨rfl, rfl⟩
            case round =>
              obtain ⟨rfl, rfl⟩ := hrel
              go_wp2
              go_roundw
              case rel => exact ⟨j + 1, q5, by have := HJM.out; omega, by go_num, HOK5.out, HQ5.out, HC4.out, HB4.out⟩
              case measure => simp [intOf]; have := HJM.out; omega
      · obtain rfl : j = m := by omega
        have HB3 := Lib.hid hB
        clear hc
        go_wp2_with (go_at_call 36; (with_reducible refine (wlives_c _).mono ?_); rintro e8 w8 ⟨rfl, hb8⟩)
        go_ret
        exact ⟨rfl, HB3.out.trans (hb8.mono HB3.out.size)⟩
  · go_wp2_with (go_at_call 36; (with_reducible refine (wlives_c _).mono ?_); rintro e8 w8 ⟨rfl, hb8⟩)
    go_ret
    exact ⟨rfl, HB2.out.trans (hb8.mono HB2.out.size)⟩
end Go.Proofs.Ytplanmiggeghfaa
