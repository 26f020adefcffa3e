/-
  Clock: acts that came in; the walk of ClockRises.
-/
import Derived.Test.YtpndpmgbnnpciaaC4
namespace Go.Proofs.Ytpndpmgbnnpciaa
open Go.RowKit Go Go.Sort Go.Deep
set_option linter.unusedVariables false
set_option maxRecDepth 20000

/-- An act: kind, now, stamp. -/
structure Ck where
  kd : Int
  now : Int
  x : Int
  y : Int
def Ck.zero : Ck := ⟨0, 0, 0, 0⟩
structure Cks (w : World) (a : Option Addr) (n cap : Nat) (l : List Ck) : Prop where
  len : l.length = n
  le : n ≤ cap
  max : cap ≤ 9223372036854775807
  adr : cap = 0 ∨ ∃ b off, a = some ⟨b, off, none⟩ ∧ ∀ i, i < n → w.cell? ⟨b, off + i * 4, none⟩ = some (.int .i64 (l.getD i Ck.zero).kd) ∧ w.cell? ⟨b, off + i * 4 + 1, none⟩ = some (.int .i64 (l.getD i Ck.zero).now) ∧ w.cell? ⟨b, off + i * 4 + 2, none⟩ = some (.int .i64 (l.getD i Ck.zero).x) ∧ w.cell? ⟨b, off + i * 4 + 3, none⟩ = some (.int .i64 (l.getD i Ck.zero).y)
theorem Cks.at {w : World} {a : Option Addr} {n cap : Nat} {l : List Ck} (h : Cks w a n cap l) {k : Nat} (hk : k < n) : ∃ b off, a = some ⟨b, off, none⟩ ∧ ∀ W, Below w.heap.size w W → W.cell? ⟨b, off + k * 4, none⟩ = some (.int .i64 (l.getD k Ck.zero).kd) ∧ W.cell? ⟨b, off + k * 4 + 1, none⟩ = some (.int .i64 (l.getD k Ck.zero).now) ∧ W.cell? ⟨b, off + k * 4 + 2, none⟩ = some (.int .i64 (l.getD k Ck.zero).x) ∧ W.cell? ⟨b, off + k * 4 + 3, none⟩ = some (.int .i64 (l.getD k Ck.zero).y) := by
  have := h.le
  rcases h.adr with h4 | ⟨b, off, rfl, hc⟩
  · omega
  · obtain ⟨h0, h1, h2, h3⟩ := hc k hk
    exact ⟨b, off, rfl, fun W hb => ⟨(hb.cell (World.block_lt_of_cell? w _ h0)).trans h0, (hb.cell (World.block_lt_of_cell? w _ h1)).trans h1, (hb.cell (World.block_lt_of_cell? w _ h2)).trans h2, (hb.cell (World.block_lt_of_cell? w _ h3)).trans h3⟩⟩
theorem Cks.below {w w' : World} {a : Option Addr} {n cap : Nat} {l : List Ck} (h : Cks w a n cap l) (hb : Below w.heap.size w w') : Cks w' a n cap l := by
  refine ⟨h.len, h.le, h.max, ?_⟩
  rcases h.adr with h4 | ⟨b, off, rfl, hc⟩
  · exact .inl h4
  · refine .inr ⟨b, off, rfl, fun i hi => ?_⟩
    obtain ⟨h0, h1, h2, h3⟩ := hc i hi
    exact ⟨(hb.cell (World.block_lt_of_cell? w _ h0)).trans h0, (hb.cell (World.block_lt_of_cell? w _ h1)).trans h1, (hb.cell (World.block_lt_of_cell? w _ h2)).trans h2, (hb.cell (World.block_lt_of_cell? w _ h3)).trans h3⟩
theorem trod_ck {H : Type} {enc : TypeId × Value → H} {W : World} {fuel : Nat} {cs : List Value} {x : DataW H × List MemPlace} (h : DataW.trod enc Try.prog W 0 (fun _ => true) true fuel 75 cs = some x) :
    ∃ q : Ck, cs = [.int .i64 q.kd, .int .i64 q.now, .int .i64 q.x, .int .i64 q.y] := by
  obtain ⟨xs, m, _, rfl, hl, hlen, hf⟩ := DataW.trod_struct Try.underlying75 h
  have h4 : Try.prog.cellsOf 75 = 4 := by kernel_rfl
  have h1 : Try.prog.cellsOf 3 = 1 := by kernel_rfl
  have h2 : Try.prog.cellsOf 66 = 2 := by kernel_rfl
  rw [h4] at hl
  match xs, hlen with
  | [y0, y1, y2], _ =>
    have i0 := hf 0 _ rfl
    have i1 := hf 1 _ rfl
    have i2 := hf 2 _ rfl
    match cs, hl with
    | [c0, c1, c2, c3], _ =>
      have j0 : DataW.trod enc Try.prog W 0 (fun _ => true) true m 3 (([c0, c1, c2, c3].drop 0).take (Try.prog.cellsOf 3)) = some y0 := i0
      have j1 : DataW.trod enc Try.prog W 0 (fun _ => true) true m 3 (([c0, c1, c2, c3].drop 1).take (Try.prog.cellsOf 3)) = some y1 := i1
      have j2 : DataW.trod enc Try.prog W 0 (fun _ => true) true m 66 (([c0, c1, c2, c3].drop 2).take (Try.prog.cellsOf 66)) = some y2 := i2
      rw [h1] at j0 j1
      rw [h2] at j2
      obtain ⟨a, ha, _, -⟩ := DataW.trod_int Try.underlying3 j0
      obtain ⟨b, hb, _, -⟩ := DataW.trod_int Try.underlying3 j1
      obtain ⟨c, d, hc, -, -⟩ := stamp_cells (sp := true) j2
      simp at ha hb hc
      subst ha
      subst hb
      obtain ⟨rfl, rfl⟩ := hc
      exact ⟨⟨a, b, c, d⟩, rfl⟩
theorem open_ck {H : Type} {enc : TypeId × Value → H} {W : World} {base : Nat} {v : Value} {d : DataW H} {p : List MemPlace} (hv : Value.okWide Try.prog W .any base 75 v)
    (h : DataW.Trod enc Try.prog W 0 (fun _ => true) true 75 v d p) : ∃ q : Ck, v = .agg #[.int .i64 q.kd, .int .i64 q.now, .int .i64 q.x, .int .i64 q.y] := by
  simp only [Value.okWide, Try.underlying75] at hv
  obtain ⟨cs, rfl, hs, _⟩ := hv
  obtain ⟨m, hm⟩ := h
  obtain ⟨q, hc⟩ := trod_ck hm
  refine ⟨q, ?_⟩
  congr 1
  apply Array.toList_inj.1
  exact hc
theorem open_cks {H : Type} {enc : TypeId × Value → H} {W : World} {a : Option Addr} {len cap : Nat} {d : DataW H} {p : List MemPlace} (h : DataW.Trod enc Try.prog W 0 (fun _ => true) true 67 (.slice a len cap) d p) :
    ∃ l, Cks W a len cap l := by
  have hc : Try.prog.cellsOf 75 = 4 := by kernel_rfl
  obtain ⟨fuel, hf⟩ := h
  rcases open_slice Try.underlying67 hf with ⟨hcs, hx⟩ | ⟨x, l, c, m, n, D, Pl, hcs, _, hl, hm, hmm, hx, hcell⟩
  · simp [Value.cells] at hcs
    obtain ⟨rfl, rfl, rfl⟩ := hcs
    exact ⟨[], ⟨rfl, Nat.le_refl _, by omega, .inl rfl⟩⟩
  · simp [Value.cells] at hcs
    obtain ⟨rfl, rfl, rfl⟩ := hcs
    simp only [if_true] at hmm
    subst hmm
    rw [hc] at hcell
    have key : ∀ i, i < m → ∃ q : Ck, W.cell? (x.add (i * 4)) = some (.int .i64 q.kd) ∧ W.cell? ((x.add (i * 4)).add 1) = some (.int .i64 q.now) ∧ W.cell? ((x.add (i * 4)).add 2) = some (.int .i64 q.x) ∧ W.cell? ((x.add (i * 4)).add 3) = some (.int .i64 q.y) := by
      intro i hi
      obtain ⟨cs', h1, h2⟩ := hcell i hi
      obtain ⟨_, _, h3⟩ := World.cells?_some h1
      obtain ⟨q, rfl⟩ := trod_ck h2
      have k0 := h3 0 (by omega)
      have k1 := h3 1 (by omega)
      have k2 := h3 2 (by omega)
      have k3 := h3 3 (by omega)
      refine ⟨q, ?_, ?_, ?_, ?_⟩
      · simpa [Addr.add] using k0
      · simpa using k1
      · simpa using k2
      · simpa using k3
    haveI : Inhabited Ck := ⟨Ck.zero⟩
    obtain ⟨V, hV⟩ := choose_lt (α := Ck) (p := fun i q => W.cell? (x.add (i * 4)) = some (.int .i64 q.kd) ∧ W.cell? ((x.add (i * 4)).add 1) = some (.int .i64 q.now) ∧ W.cell? ((x.add (i * 4)).add 2) = some (.int .i64 q.x) ∧ W.cell? ((x.add (i * 4)).add 3) = some (.int .i64 q.y)) key
    have hgd : ∀ i, i < len → ((List.range len).map V).getD i Ck.zero = V i := fun i hi => by simp [List.getD, hi]
    refine ⟨(List.range len).map V, ⟨by simp, hl, by unfold maxLen at hm; omega, ?_⟩⟩
    by_cases hz : m = 0
    · exact .inl hz
    · right
      obtain ⟨b, off, spot⟩ := x
      have h0 := (hV 0 (by omega)).1
      have hspot : spot = none := by simpa [Addr.add] using World.cell?_spot h0
      subst hspot
      refine ⟨b, off, rfl, fun i hi => ?_⟩
      rw [hgd i hi]
      obtain ⟨q1, q2, q3, q4⟩ := hV i (by omega)
      have e1 : (⟨b, off, none⟩ : Addr).add (i * 4) = ⟨b, off + i * 4, none⟩ := by
        by_cases h0 : i * 4 = 0
        · rw [h0]; rfl
        · simp [Addr.add, h0]
      rw [e1] at q1 q2 q3 q4
      exact ⟨q1, q2, q3, q4⟩

theorem later2 {n s x y : Int} (h : sgood n s = true) (h2 : sgood x y = true) : laterS [(n, s), (x, y)] = if sless n s x y = true then (x, y) else (n, s) := by
  have hgd : (n = 0 ∧ s = 0) ∨ (1 ≤ n ∧ n ≤ 281474976710656 ∧ (s = 1 ∨ s = 2)) := by simpa [sgood] using h
  have e1 : (if sgood n s = true ∧ sless 0 0 n s = true then (n, s) else ((0, 0) : Int × Int)) = (n, s) := by
    by_cases hl : sless 0 0 n s = true
    · rw [if_pos ⟨h, hl⟩]
    · rw [if_neg (fun hh => hl hh.2)]
      have : ¬ (0 < n ∨ (0 = n ∧ 0 < s)) := by simpa [sless] using hl
      rw [show n = 0 by omega, show s = 0 by omega]
  unfold laterS
  simp only [List.foldl_cons, List.foldl_nil, e1, h2, true_and]
theorem snext_two (n s now k : Int) (hk : k = 1 ∨ k = 2) (hg : sgood n s = true) : (snext n s now k = ((0, 0), 50) ∧ (decide (n < 281474976710656)) = false) ∨
    (∃ x, snext n s now k = ((x, k), 0) ∧ sgood x k = true ∧ sless n s x k = true ∧ min now 1099511627776 ≤ x) := by
  have hgd : (n = 0 ∧ s = 0) ∨ (1 ≤ n ∧ n ≤ 281474976710656 ∧ (s = 1 ∨ s = 2)) := by simpa [sgood] using hg
  unfold snext
  have h1 : ¬ ((k ≠ 1 ∧ k ≠ 2) ∨ sgood n s = false) := fun h => by
    rcases h with h | h
    · omega
    · rw [hg] at h; cases h
  rw [if_neg h1]
  by_cases h2 : 281474976710656 < max (n + 1) (min now 1099511627776)
  · exact .inl ⟨if_pos h2, by simp; omega⟩
  · rw [if_neg h2]
    refine .inr ⟨_, rfl, ?_, ?_, ?_⟩
    · simp only [sgood, decide_eq_true_eq]; omega
    · simp only [sless, decide_eq_true_eq]; omega
    · omega
theorem site_two (z : Int) : ∃ q : Int, wrap64 ((IntKind.u64.wrap z).tmod 2) = q ∧ (q = 0 ∨ q = 1) := by
  have e : IntKind.u64.wrap z = z % 18446744073709551616 := by simp [IntKind.wrap, IntKind.signed, IntKind.bits]
  rw [e]
  have h0 : 0 ≤ z % 18446744073709551616 := Int.emod_nonneg _ (by decide)
  rw [Int.tmod_eq_emod_of_nonneg h0]
  have h1 := Int.emod_nonneg (z % 18446744073709551616) (show (2 : Int) ≠ 0 by omega)
  have h2 := Int.emod_lt_of_pos (z % 18446744073709551616) (show (0 : Int) < 2 by omega)
  refine ⟨_, rfl, ?_⟩
  unfold wrap64
  omega

set_option maxRecDepth 100000 in
set_option maxHeartbeats 6400000 in
theorem ckrises_walk {w : World} (site : Int) {a : Option Addr} {m cap : Nat} {l : List Ck} (hl : Cks w a m cap l) : Calls Try.prog 9 #[.int .i64 site, .slice a m cap] w (Tells (.bool true) w) := by
  have hle := hl.le
  have hmax := hl.max
  have HL := Lib.hid hl
  obtain ⟨k0, hk0, hk1⟩ := site_two site
  obtain ⟨k, hk, hk2⟩ : ∃ k : Int, 1 + k0 = k ∧ (k = 1 ∨ k = 2) := ⟨1 + k0, rfl, by omega⟩
  have hw2 : IntKind.i64.wrap (1 + k0) = k := by rw [IntKind.wrap_i64]; omega
  have hne : (k != 0) = true := by simp; omega
  have HNE := Lib.hid hne
  have HK2 := Lib.hid hk2
  have HN := Lib.hid (fun W => cknew_c k 0 0 W (by unfold cgoodN sgood; simp; omega))
  clear hl hk hk1 hne hk2
  by_cases hm : 1000 < m
  · have hd : decide ((1000 : Int) < (m : Int)) = true := by simp; omega
    go_enter Try.func9, Try.ntmps9
    go_wp2_with (first
      | (go_at_call 40; (with_reducible refine (HN.out _).mono ?_); rintro e1 w1 ⟨g, rfl, hg, hk1, hb1⟩)
      | (go_at_call 42; (with_reducible refine (cklives_c _).mono ?_); rintro e3 w3 ⟨rfl, hb3⟩))
    go_ret
    exact ⟨rfl, hb1.trans (hb3.mono hb1.size)⟩
  · have hd : decide ((1000 : Int) < (m : Int)) = false := by simp; omega
    have hm' : m ≤ 1000 := by omega
    clear hm
    go_enter Try.func9, Try.ntmps9
    go_upto_region 3 with (go_at_call 40; (with_reducible refine (HN.out _).mono ?_); rintro e1 w1 ⟨g, rfl, hg, hk1, hb1⟩)
    have HG := Lib.hid hg
    have HB1 := Lib.hid hb1
    have HC1 := Lib.hid hk1
    clear hg hb1 hk1
    go_upto_region 6 with (fail)
    have HB2 := Lib.hid (HB1.out.alloc HB1.out.size (.cells #[.int .i64 0, .int .i64 0] 66))
    have HC2 := Lib.hid (HC1.out.alloc (.cells #[.int .i64 0, .int .i64 0] 66))
    have HM := Lib.hid (show g ≠ w1.heap.size ∧ w.heap.size ≤ w1.heap.size from ⟨by have := HC1.out.lt; omega, HB1.out.size⟩)
    have hp2 := Pair.new w1 66 0 0
    obtain ⟨gm, hgm⟩ : ∃ q, w1.heap.size = q := ⟨_, rfl⟩
    rw [hgm] at hp2 HM ⊢
    have HP2 := Lib.hid hp2
    clear hp2 hgm
    generalize w1.alloc (.cells #[.int .i64 0, .int .i64 0] 66) = W2 at *
    clear HB1 HC1
    go_wp2
    go_loopw [47] (fun i wr => ∃ (j : Nat) (n s t : Int), j ≤ m ∧ i = .int .i64 (j : Int) ∧ Clk wr g 96 k n s t ∧ Pair wr gm 66 n s ∧ sgood n s = true ∧ 0 ≤ t ∧ t ≤ j ∧ Below w.heap.size w wr) (fun i _ => m - (intOf i).toNat)
    case atStart => exact ⟨0, 0, 0, 0, by omega, rfl, HC2.out, HP2.out, by decide, by omega, by omega, HB2.out⟩
    case round =>
      clear HC2 HP2 HB2
      obtain ⟨j, n, s, t, hj, rfl, hc, hp, hg, ht0, ht1, hB⟩ := hrel
      by_cases hlt : j < m
      · have hji : (j : Int) < (m : Int) := by omega
        have hjc : (j : Int) < (cap : Int) := by omega
        obtain ⟨bl, off, rfl, hat⟩ := HL.out.at hlt
        obtain ⟨q, hq⟩ : ∃ q, l.getD j Ck.zero = q := ⟨_, rfl⟩
        rw [hq] at hat
        obtain ⟨kd, now, x, y⟩ := q
        obtain ⟨c0, c1, c2, c3⟩ := hat wr hB
        simp only at c0 c1 c2 c3
        have HGD := Lib.hid hg
        have HT0 := Lib.hid (show 0 ≤ t ∧ t ≤ (j : Int) from ⟨ht0, ht1⟩)
        have HJM := Lib.hid (show j < m ∧ m ≤ 1000 from ⟨hlt, hm'⟩)
        have hbx := alloc_below wr (.cells #[.int .i64 kd, .int .i64 now, .int .i64 x, .int .i64 y] 75)
        have HC := Lib.hid (hc.kept hbx)
        have HP := Lib.hid (hp.kept hbx)
        have hx := Clk.new wr 75 kd now x y
        have HXN := Lib.hid (show wr.heap.size ≠ g ∧ wr.heap.size ≠ gm from ⟨by have := hc.lt; omega, by have := hp.lt; omega⟩)
        have HB3 := Lib.hid (hB.trans (hbx.mono hB.size))
        clear hat hq hc hp hg ht0 ht1 hB hbx
        go_upto_region 9 with (fail)
        clear c0 c1 c2 c3
        obtain ⟨gx, hgx⟩ : ∃ q, wr.heap.size = q := ⟨_, rfl⟩
        rw [hgx] at hx HXN ⊢
        have HX := Lib.hid hx
        clear hx hgx
        generalize wr.alloc (.cells #[.int .i64 kd, .int .i64 now, .int .i64 x, .int .i64 y] 75) = W3 at *
        obtain ⟨c0, c1, c2, c3⟩ := HX.out.cs
        by_cases hkd : kd = 1
        · subst hkd
          have hmt := ckmeet_c HC.out HNE.out x y
          unfold MeetPost meetN at hmt
          cases hgx : sgood x y with
          | false =>
            simp only [hgx] at hmt
            have HMT := Lib.hid hmt
            clear hmt hgx
            go_wp2_with (first
              | (go_at_call 45; (with_reducible refine HMT.out.mono ?_); rintro e4 w4 ⟨rfl, hk4, hb4⟩))
            go_roundw
            case rel => exact ⟨j + 1, n, s, t, by have := HJM.out; omega, by go_num, hk4, HP.out.but hb4 (Ne.symm HM.out.1), HGD.out, HT0.out.1, by have := HT0.out; omega, HB3.out.trans (hb4.base HG.out HB3.out.size)⟩
            case measure => have := HJM.out; simp [intOf]; omega
          | true =>
            simp only [hgx, if_true, later2 HGD.out hgx] at hmt
            have HGX := Lib.hid hgx
            have hls := sless_c n s x y
            cases hsl : sless n s x y with
            | false =>
              simp only [hsl] at hmt hls
              have HMT := Lib.hid hmt
              have HLS := Lib.hid hls
              clear hmt hls hgx hsl
              go_wp2_with (first
                | (go_at_call 45; (with_reducible refine HMT.out.mono ?_); rintro e4 w4 ⟨rfl, hk4, hb4⟩; have HP4 := Lib.hid (HP.out.but hb4 (Ne.symm HM.out.1)); have HX4 := Lib.hid (HX.out.but hb4 HXN.out.1); clear c0 c1 c2 c3; obtain ⟨c0, c1, c2, c3⟩ := HX4.out.cs; have p0 := HP4.out.c0; have p1 := HP4.out.c1)
                | (go_at_call 51; (with_reducible refine (HLS.out _).mono ?_); rintro e5 w5 ⟨rfl, hb5⟩))
              go_roundw
              case rel =>
                have hB4 := HB3.out.trans (hb4.base HG.out HB3.out.size)
                exact ⟨j + 1, n, s, t, by have := HJM.out; omega, by go_num, hk4.kept hb5, HP4.out.kept hb5, HGD.out, HT0.out.1, by have := HT0.out; omega, hB4.trans (hb5.mono hB4.size)⟩
              case measure => have := HJM.out; simp [intOf]; omega
            | true =>
              simp only [hsl, if_true] at hmt hls
              have HMT := Lib.hid hmt
              have HLS := Lib.hid hls
              clear hmt hls hgx hsl
              go_upto_region 11 with (first
                | (go_at_call 45; (with_reducible refine HMT.out.mono ?_); rintro e4 w4 ⟨rfl, hk4, hb4⟩; have HP4 := Lib.hid (HP.out.but hb4 (Ne.symm HM.out.1)); have HX4 := Lib.hid (HX.out.but hb4 HXN.out.1); clear c0 c1 c2 c3; obtain ⟨c0, c1, c2, c3⟩ := HX4.out.cs; have p0 := HP4.out.c0; have p1 := HP4.out.c1)
                | (go_at_call 51; (with_reducible refine (HLS.out _).mono ?_); rintro e5 w5 ⟨rfl, hb5⟩))
              have hB4 := HB3.out.trans (hb4.base HG.out HB3.out.size)
              have HB5 := Lib.hid (hB4.trans (hb5.mono hB4.size))
              have HP5 := Lib.hid (HP4.out.kept hb5)
              have HX5 := Lib.hid (HX4.out.kept hb5)
              have HC5 := Lib.hid (hk4.kept hb5)
              clear hB4 hb4 hb5 hk4 c0 c1 c2 c3 p0 p1
              obtain ⟨c0, c1, c2, c3⟩ := HX5.out.cs
              have p0 := HP5.out.c0
              have p1 := HP5.out.c1
              have f0 := HP5.out.fz 0
              have f1 := HP5.out.fz 1
              go_wp2
              go_roundw
              case rel => exact ⟨j + 1, x, y, t, by have := HJM.out; omega, by go_num, (HC5.out.other _ _ HM.out.1).other _ _ HM.out.1, (HP5.out.set0 x).set1 y, HGX.out, HT0.out.1, by have := HT0.out; omega, (HB5.out.setCell HM.out.2 _).setCell HM.out.2 _⟩
              case measure => have := HJM.out; simp [intOf]; omega
        · have ek : (kd == 1) = false := by simpa using hkd
          have htk := cktick_c HC.out now HT0.out.1 (by have := HT0.out; have := HJM.out; omega) HNE.out
          unfold TickPost tickN at htk
          rcases snext_two n s now k HK2.out HGD.out with ⟨hx, hn⟩ | ⟨X, hx, hgX, hlX, hmX⟩
          · simp only [hx] at htk
            have HTK := Lib.hid htk
            clear htk hx hkd
            go_wp2_with (first
              | (go_at_call 43; (with_reducible refine HTK.out.mono ?_); rintro e4 w4 ⟨rfl, hk4, hb4⟩; have HP4 := Lib.hid ((HP.out.but hb4 (Ne.symm HM.out.1)).alloc (.cells #[.int .i64 0, .int .i64 0] 66)); have p0 := HP4.out.c0; have p1 := HP4.out.c1))
            go_roundw
            case rel =>
              have hB4 := HB3.out.trans (hb4.base HG.out HB3.out.size)
              exact ⟨j + 1, n, s, t, by have := HJM.out; omega, by go_num, hk4.alloc _, HP4.out, HGD.out, HT0.out.1, by have := HT0.out; omega, hB4.alloc hB4.size _⟩
            case measure => have := HJM.out; simp [intOf]; omega
          · simp only [hx, if_true] at htk
            have hls := sless_c n s X k
            rw [hlX] at hls
            have HLS := Lib.hid hls
            have HTK := Lib.hid htk
            have hmn : decide (X < min now 1099511627776) = false := by simp; omega
            have HGX := Lib.hid hgX
            clear htk hx hkd hls hlX hgX hmX
            go_upto_region 13 with (go_at_call 43; (with_reducible refine HTK.out.mono ?_); rintro e4 w4 ⟨rfl, hk4, hb4⟩)
            have hB4 := HB3.out.trans (hb4.base HG.out HB3.out.size)
            have HB4 := Lib.hid (hB4.alloc hB4.size (.cells #[.int .i64 X, .int .i64 k] 66))
            have HP4 := Lib.hid ((HP.out.but hb4 (Ne.symm HM.out.1)).alloc (.cells #[.int .i64 X, .int .i64 k] 66))
            have HX4 := Lib.hid ((HX.out.but hb4 HXN.out.1).alloc (.cells #[.int .i64 X, .int .i64 k] 66))
            have HC4 := Lib.hid (hk4.alloc (.cells #[.int .i64 X, .int .i64 k] 66))
            have hs4 := Pair.new w4 66 X k
            have HS4 := Lib.hid (show w4.heap.size ≠ gm from by have := HP.out.lt; have := hb4.size; omega)
            obtain ⟨gs, hgs⟩ : ∃ q, w4.heap.size = q := ⟨_, rfl⟩
            rw [hgs] at hs4 HS4 ⊢
            have HY4 := Lib.hid hs4
            clear hs4 hgs hB4 hb4 hk4 c0 c1 c2 c3
            generalize w4.alloc (.cells #[.int .i64 X, .int .i64 k] 66) = W4 at *
            obtain ⟨c0, c1, c2, c3⟩ := HX4.out.cs
            have p0 := HP4.out.c0
            have p1 := HP4.out.c1
            have s0 := HY4.out.c0
            have s1 := HY4.out.c1
            go_upto_region 18 with (go_at_call 51; (with_reducible refine (HLS.out _).mono ?_); rintro e5 w5 ⟨rfl, hb5⟩; have HX5 := Lib.hid (HX4.out.kept hb5); have HY5 := Lib.hid (HY4.out.kept hb5); clear c0 c1 c2 c3 s0 s1; obtain ⟨c0, c1, c2, c3⟩ := HX5.out.cs; have s0 := HY5.out.c0; have s1 := HY5.out.c1)
            have HP5 := Lib.hid (HP4.out.kept hb5)
            have HC5 := Lib.hid (HC4.out.kept hb5)
            have HB5 := Lib.hid (HB4.out.trans (hb5.mono HB4.out.size))
            clear hb5 p0 p1
            have p0 := HP5.out.c0
            have p1 := HP5.out.c1
            have f0 := HP5.out.fz 0
            have f1 := HP5.out.fz 1
            go_wp2
            go_roundw
            case rel => exact ⟨j + 1, X, k, t + 1, by have := HJM.out; omega, by go_num, (HC5.out.other _ _ HM.out.1).other _ _ HM.out.1, (HP5.out.set0 X).set1 k, HGX.out, by have := HT0.out; omega, by have := HT0.out; omega, (HB5.out.setCell HM.out.2 _).setCell HM.out.2 _⟩
            case measure => have := HJM.out; simp [intOf]; omega
      · obtain rfl : j = m := by omega
        have HB3 := Lib.hid hB
        clear hc hp hg ht0 ht1 hB
        go_wp2_with (go_at_call 42; (with_reducible refine (cklives_c _).mono ?_); rintro e8 w8 ⟨rfl, hb8⟩)
        go_ret
        exact ⟨rfl, HB3.out.trans (hb8.mono HB3.out.size)⟩
end Go.Proofs.Ytpndpmgbnnpciaa
