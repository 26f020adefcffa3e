/-
  Window: acts and numbers that came in; the walk of WindowPlays.
-/
import Derived.Test.YtplanmiggeghfaaWA5
import Derived.Shelf.Abstract
import Derived.WideShapes
import Derived.ChangeSame
import Derived.OpenShut
import Derived.Deep.Slices
namespace Go.Proofs.Ytplanmiggeghfaa
open Go.RowKit Go Go.Sort Go.Deep
set_option linter.unusedVariables false
set_option maxRecDepth 20000

theorem tells_same {f : FuncId} {args : Array Value} {w : World} {v : Value} (h : Calls Try.prog f args w (fun e w' => e = .returned v ∧ w = w')) : Calls Try.prog f args w (Tells v w) :=
  h.mono fun e w' ⟨he, hw⟩ => ⟨he, by subst hw; exact Below.refl _ _⟩
/-- An act: kind, now, stamp. -/
structure Ck where
  kd : Int
  now : Int
  x : Int
  y : Int
def Ck.zero : Ck := ⟨0, 0, 0, 0⟩
structure Cks (w : World) (a : Option Addr) (n cap : Nat) (l : List Ck) : Prop where
  len : l.length = n
  le : n ≤ cap
  max : cap ≤ 9223372036854775807
  adr : cap = 0 ∨ ∃ b off, a = some ⟨b, off, none⟩ ∧ ∀ i, i < n → w.cell? ⟨b, off + i * 4, none⟩ = some (.int .i64 (l.getD i Ck.zero).kd) ∧ w.cell? ⟨b, off + i * 4 + 1, none⟩ = some (.int .i64 (l.getD i Ck.zero).now) ∧ w.cell? ⟨b, off + i * 4 + 2, none⟩ = some (.int .i64 (l.getD i Ck.zero).x) ∧ w.cell? ⟨b, off + i * 4 + 3, none⟩ = some (.int .i64 (l.getD i Ck.zero).y)
theorem Cks.at {w : World} {a : Option Addr} {n cap : Nat} {l : List Ck} (h : Cks w a n cap l) {k : Nat} (hk : k < n) : ∃ b off, a = some ⟨b, off, none⟩ ∧ ∀ W, Below w.heap.size w W → W.cell? ⟨b, off + k * 4, none⟩ = some (.int .i64 (l.getD k Ck.zero).kd) ∧ W.cell? ⟨b, off + k * 4 + 1, none⟩ = some (.int .i64 (l.getD k Ck.zero).now) ∧ W.cell? ⟨b, off + k * 4 + 2, none⟩ = some (.int .i64 (l.getD k Ck.zero).x) ∧ W.cell? ⟨b, off + k * 4 + 3, none⟩ = some (.int .i64 (l.getD k Ck.zero).y) := by
  have := h.le
  rcases h.adr with h4 | ⟨b, off, rfl, hc⟩
  · omega
  · obtain ⟨h0, h1, h2, h3⟩ := hc k hk
    exact ⟨b, off, rfl, fun W hb => ⟨(hb.cell (World.block_lt_of_cell? w _ h0)).trans h0, (hb.cell (World.block_lt_of_cell? w _ h1)).trans h1, (hb.cell (World.block_lt_of_cell? w _ h2)).trans h2, (hb.cell (World.block_lt_of_cell? w _ h3)).trans h3⟩⟩
theorem Cks.below {w w' : World} {a : Option Addr} {n cap : Nat} {l : List Ck} (h : Cks w a n cap l) (hb : Below w.heap.size w w') : Cks w' a n cap l := by
  refine ⟨h.len, h.le, h.max, ?_⟩
  rcases h.adr with h4 | ⟨b, off, rfl, hc⟩
  · exact .inl h4
  · refine .inr ⟨b, off, rfl, fun i hi => ?_⟩
    obtain ⟨h0, h1, h2, h3⟩ := hc i hi
    exact ⟨(hb.cell (World.block_lt_of_cell? w _ h0)).trans h0, (hb.cell (World.block_lt_of_cell? w _ h1)).trans h1, (hb.cell (World.block_lt_of_cell? w _ h2)).trans h2, (hb.cell (World.block_lt_of_cell? w _ h3)).trans h3⟩
theorem trod_ck {H : Type} {enc : TypeId × Value → H} {W : World} {fuel : Nat} {cs : List Value} {x : DataW H × List MemPlace} (h : DataW.trod enc Try.prog W 0 (fun _ => true) true fuel 65 cs = some x) :
    ∃ q : Ck, cs = [.int .i64 q.kd, .int .i64 q.now, .int .i64 q.x, .int .i64 q.y] := by
  obtain ⟨xs, m, _, rfl, hl, hlen, hf⟩ := DataW.trod_struct Try.underlying65 h
  have h4 : Try.prog.cellsOf 65 = 4 := by kernel_rfl
  have h1 : Try.prog.cellsOf 3 = 1 := by kernel_rfl
  rw [h4] at hl
  match xs, hlen with
  | [y0, y1, y2, y3], _ =>
    have i0 := hf 0 _ rfl
    have i1 := hf 1 _ rfl
    have i2 := hf 2 _ rfl
    have i3 := hf 3 _ rfl
    match cs, hl with
    | [c0, c1, c2, c3], _ =>
      have j0 : DataW.trod enc Try.prog W 0 (fun _ => true) true m 3 (([c0, c1, c2, c3].drop 0).take (Try.prog.cellsOf 3)) = some y0 := i0
      have j1 : DataW.trod enc Try.prog W 0 (fun _ => true) true m 3 (([c0, c1, c2, c3].drop 1).take (Try.prog.cellsOf 3)) = some y1 := i1
      have j2 : DataW.trod enc Try.prog W 0 (fun _ => true) true m 3 (([c0, c1, c2, c3].drop 2).take (Try.prog.cellsOf 3)) = some y2 := i2
      have j3 : DataW.trod enc Try.prog W 0 (fun _ => true) true m 3 (([c0, c1, c2, c3].drop 3).take (Try.prog.cellsOf 3)) = some y3 := i3
      rw [h1] at j0 j1 j2 j3
      obtain ⟨a, ha, _, -⟩ := DataW.trod_int Try.underlying3 j0
      obtain ⟨b, hb, _, -⟩ := DataW.trod_int Try.underlying3 j1
      obtain ⟨c, hc, _, -⟩ := DataW.trod_int Try.underlying3 j2
      obtain ⟨d, hd, _, -⟩ := DataW.trod_int Try.underlying3 j3
      simp at ha hb hc hd
      subst ha
      subst hb
      subst hc
      subst hd
      exact ⟨⟨a, b, c, d⟩, rfl⟩
theorem open_ck {H : Type} {enc : TypeId × Value → H} {W : World} {base : Nat} {v : Value} {d : DataW H} {p : List MemPlace} (hv : Value.okWide Try.prog W .any base 65 v)
    (h : DataW.Trod enc Try.prog W 0 (fun _ => true) true 65 v d p) : ∃ q : Ck, v = .agg #[.int .i64 q.kd, .int .i64 q.now, .int .i64 q.x, .int .i64 q.y] := by
  simp only [Value.okWide, Try.underlying65] at hv
  obtain ⟨cs, rfl, hs, _⟩ := hv
  obtain ⟨m, hm⟩ := h
  obtain ⟨q, hc⟩ := trod_ck hm
  refine ⟨q, ?_⟩
  congr 1
  apply Array.toList_inj.1
  exact hc
theorem open_cks {H : Type} {enc : TypeId × Value → H} {W : World} {a : Option Addr} {len cap : Nat} {d : DataW H} {p : List MemPlace} (h : DataW.Trod enc Try.prog W 0 (fun _ => true) true 57 (.slice a len cap) d p) :
    ∃ l, Cks W a len cap l := by
  have hc : Try.prog.cellsOf 65 = 4 := by kernel_rfl
  obtain ⟨fuel, hf⟩ := h
  rcases open_slice Try.underlying57 hf with ⟨hcs, hx⟩ | ⟨x, l, c, m, n, D, Pl, hcs, _, hl, hm, hmm, hx, hcell⟩
  · simp [Value.cells] at hcs
    obtain ⟨rfl, rfl, rfl⟩ := hcs
    exact ⟨[], ⟨rfl, Nat.le_refl _, by omega, .inl rfl⟩⟩
  · simp [Value.cells] at hcs
    obtain ⟨rfl, rfl, rfl⟩ := hcs
    simp only [if_true] at hmm
    subst hmm
    rw [hc] at hcell
    have key : ∀ i, i < m → ∃ q : Ck, W.cell? (x.add (i * 4)) = some (.int .i64 q.kd) ∧ W.cell? ((x.add (i * 4)).add 1) = some (.int .i64 q.now) ∧ W.cell? ((x.add (i * 4)).add 2) = some (.int .i64 q.x) ∧ W.cell? ((x.add (i * 4)).add 3) = some (.int .i64 q.y) := by
      intro i hi
      obtain ⟨cs', h1, h2⟩ := hcell i hi
      obtain ⟨_, _, h3⟩ := World.cells?_some h1
      obtain ⟨q, rfl⟩ := trod_ck h2
      have k0 := h3 0 (by omega)
      have k1 := h3 1 (by omega)
      have k2 := h3 2 (by omega)
      have k3 := h3 3 (by omega)
      refine ⟨q, ?_, ?_, ?_, ?_⟩
      · simpa [Addr.add] using k0
      · simpa using k1
      · simpa using k2
      · simpa using k3
    haveI : Inhabited Ck := ⟨Ck.zero⟩
    obtain ⟨V, hV⟩ := choose_lt (α := Ck) (p := fun i q => W.cell? (x.add (i * 4)) = some (.int .i64 q.kd) ∧ W.cell? ((x.add (i * 4)).add 1) = some (.int .i64 q.now) ∧ W.cell? ((x.add (i * 4)).add 2) = some (.int .i64 q.x) ∧ W.cell? ((x.add (i * 4)).add 3) = some (.int .i64 q.y)) key
    have hgd : ∀ i, i < len → ((List.range len).map V).getD i Ck.zero = V i := fun i hi => by simp [List.getD, hi]
    refine ⟨(List.range len).map V, ⟨by simp, hl, by unfold maxLen at hm; omega, ?_⟩⟩
    by_cases hz : m = 0
    · exact .inl hz
    · right
      obtain ⟨b, off, spot⟩ := x
      have h0 := (hV 0 (by omega)).1
      have hspot : spot = none := by simpa [Addr.add] using World.cell?_spot h0
      subst hspot
      refine ⟨b, off, rfl, fun i hi => ?_⟩
      rw [hgd i hi]
      obtain ⟨q1, q2, q3, q4⟩ := hV i (by omega)
      have e1 : (⟨b, off, none⟩ : Addr).add (i * 4) = ⟨b, off + i * 4, none⟩ := by
        by_cases h0 : i * 4 = 0
        · rw [h0]; rfl
        · simp [Addr.add, h0]
      rw [e1] at q1 q2 q3 q4
      exact ⟨q1, q2, q3, q4⟩

theorem open_ns {H : Type} {enc : TypeId × Value → H} {W : World} {a : Option Addr} {len cap : Nat} {d : DataW H} {p : List MemPlace} (h : DataW.Trod enc Try.prog W 0 (fun _ => true) true 68 (.slice a len cap) d p) :
    ∃ l : List Int, Ns W a len cap l := by
  have hc : Try.prog.cellsOf 3 = 1 := by kernel_rfl
  obtain ⟨fuel, hf⟩ := h
  rcases open_slice Try.underlying68 hf with ⟨hcs, hx⟩ | ⟨x, l, c, m, n, D, Pl, hcs, _, hl, hm, hmm, hx, hcell⟩
  · simp [Value.cells] at hcs
    obtain ⟨rfl, rfl, rfl⟩ := hcs
    exact ⟨[], rfl, Nat.le_refl _, by omega, .inl rfl⟩
  · simp [Value.cells] at hcs
    obtain ⟨rfl, rfl, rfl⟩ := hcs
    simp only [if_true] at hmm
    subst hmm
    rw [hc] at hcell
    have key : ∀ i, i < m → ∃ q : Int, W.cell? (x.add (i * 1)) = some (.int .i64 q) := by
      intro i hi
      obtain ⟨cs', h1, h2⟩ := hcell i hi
      obtain ⟨_, h3l, h3⟩ := World.cells?_some h1
      obtain ⟨q, rfl, _, hq⟩ := DataW.trod_int Try.underlying3 h2
      have h4 := h3 0 (by omega)
      refine ⟨q, ?_⟩
      simpa [Addr.add] using h4
    obtain ⟨V, hV⟩ := choose_lt (α := Int) (p := fun i q => W.cell? (x.add (i * 1)) = some (.int .i64 q)) key
    have hgd : ∀ i, i < len → ((List.range len).map V).getD i 0 = V i := fun i hi => by simp [List.getD, hi]
    refine ⟨(List.range len).map V, ⟨by simp, hl, by unfold maxLen at hm; omega, ?_⟩⟩
    · by_cases hz : m = 0
      · exact .inl hz
      · right
        obtain ⟨b, off, spot⟩ := x
        have h0 := hV 0 (by omega)
        have hspot : spot = none := by simpa [Addr.add] using World.cell?_spot h0
        subst hspot
        refine ⟨b, off, rfl, fun i hi => ?_⟩
        rw [hgd i hi]
        have hq := hV i (by omega)
        have e1 : (⟨b, off, none⟩ : Addr).add (i * 1) = ⟨b, off + i, none⟩ := by
          by_cases h0 : i = 0
          · subst h0; rfl
          · simp [Addr.add, h0]
        rw [e1] at hq
        exact hq

set_option maxRecDepth 100000 in
set_option maxHeartbeats 6400000 in
theorem wplays_walk {w : World} (k t : Int) {a : Option Addr} {m cap : Nat} {l : List Ck} (hl : Cks w a m cap l) : Calls Try.prog 6 #[.int .i64 k, .int .i64 t, .slice a m cap] w (Tells (.bool true) w) := by
  have hle := hl.le
  have hmax := hl.max
  have HL := Lib.hid hl
  clear hl
  cases hg : newOk k t with
  | false =>
    have HN := Lib.hid (fun W => wnew_bad k t W hg)
    have HRN := Lib.hid (fun W => rwnew_bad k t W hg)
    clear hg
    go_enter Try.func6, Try.ntmps6
    go_wp2_with (first
      | (go_at_call 34; (with_reducible refine (HN.out _).mono ?_); rintro e2 w2 ⟨rfl, rfl⟩)
      | (go_at_call 35; (with_reducible refine (HRN.out _).mono ?_); rintro e3 w3 ⟨rfl, rfl⟩)
      | (go_at_call 36; (with_reducible refine (wlives_c _).mono ?_); rintro e8 w8 ⟨rfl, hb8⟩))
    go_ret
    exact ⟨rfl, hb8⟩
  | true =>
    have HN := Lib.hid (fun W => wnew_c k t W hg)
    have HRN := Lib.hid (fun W => rwnew_c k t W hg)
    have HOK := Lib.hid (Wn.new_ok hg)
    clear hg
    have hdd : ∃ d, decide ((1000 : Int) < (m : Int)) = d := ⟨_, rfl⟩
    obtain ⟨d, hd⟩ := hdd
    have HM1 := Lib.hid (show d = false → m ≤ 1000 from fun h => by rw [h] at hd; have : ¬ ((1000 : Int) < (m : Int)) := of_decide_eq_false hd; omega)
    go_enter Try.func6, Try.ntmps6
    go_upto_region 3 with (first
      | (go_at_call 34; (with_reducible refine (HN.out _).mono ?_); rintro e2 w2 ⟨g, rfl, hg, hk2, hb2⟩; have HG := Lib.hid hg; have HB2 := Lib.hid hb2; have HC2 := Lib.hid hk2; clear hg hk2 hb2)
      | (go_at_call 35; (with_reducible refine (HRN.out _).mono ?_); rintro e3 w3 ⟨gr, rfl, hg, hk3, hb3⟩; have HGR := Lib.hid (show w.heap.size ≤ gr ∧ g ≠ gr from ⟨by have := HB2.out.size; omega, by have := HC2.out.lt; omega⟩); have HB3 := Lib.hid (HB2.out.trans (hb3.mono HB2.out.size)); have HC3 := Lib.hid (HC2.out.kept hb3); have HR3 := Lib.hid hk3; clear hg hk3 hb3))
    cases d
    · have HMM := Lib.hid (HM1.out rfl)
      go_upto_region 7 with (fail)
      go_wp2
      go_loopw [49] (fun i wr => ∃ (j : Nat) (q : Wn), j ≤ m ∧ i = .int .i64 (j : Int) ∧ q.Ok ∧ Wnd wr g 79 q ∧ Wnd wr gr 67 q ∧ Below w.heap.size w wr) (fun i _ => m - (intOf i).toNat)
      case atStart => exact ⟨0, _, by omega, rfl, HOK.out, HC3.out, HR3.out, HB3.out⟩
      case round =>
        clear HC3 HR3 HB3 HB2 HC2 HN HRN HOK HM1 hd
        obtain ⟨j, q, hj, rfl, hok, hc, hr, hB⟩ := hrel
        have HOK := Lib.hid hok
        clear hok
        by_cases hlt : j < m
        · have hji : (j : Int) < (m : Int) := by omega
          have hjc : (j : Int) < (cap : Int) := by omega
          obtain ⟨bl, off, rfl, hat⟩ := HL.out.at hlt
          obtain ⟨u, hu⟩ : ∃ u, l.getD j Ck.zero = u := ⟨_, rfl⟩
          rw [hu] at hat
          obtain ⟨kd, ack, hav, now⟩ := u
          obtain ⟨c0, c1, c2, c3⟩ := hat wr hB
          simp only at c0 c1 c2 c3
          have HJM := Lib.hid (show j < m ∧ m ≤ 1000 from ⟨hlt, HMM.out⟩)
          have hbx := alloc_below wr (.cells #[.int .i64 kd, .int .i64 ack, .int .i64 hav, .int .i64 now] 65)
          have HC := Lib.hid (hc.kept hbx)
          have HR := Lib.hid (hr.kept hbx)
          have hx := heap_alloc_new wr (.cells #[.int .i64 kd, .int .i64 ack, .int .i64 hav, .int .i64 now] 65)
          have HXN := Lib.hid (show wr.heap.size ≠ g ∧ wr.heap.size ≠ gr from ⟨by have := hc.lt; omega, by have := hr.lt; omega⟩)
          have HB3 := Lib.hid (hB.trans (hbx.mono hB.size))
          clear hat hu hc hr hB hbx
          go_upto_region 10 with (fail)
          clear c0 c1 c2 c3
          obtain ⟨gx, hgx⟩ : ∃ q, wr.heap.size = q := ⟨_, rfl⟩
          rw [hgx] at hx HXN ⊢
          have HX := Lib.hid hx
          clear hx hgx
          generalize wr.alloc (.cells #[.int .i64 kd, .int .i64 ack, .int .i64 hav, .int .i64 now] 65) = W3 at *
          have c0 : W3.cell? ⟨gx, 0, none⟩ = some (.int .i64 kd) := by rw [cell_of_row _ gx 0 _ _ (0, 0) HX.out]; rfl
          have c1 : W3.cell? ⟨gx, 1, none⟩ = some (.int .i64 ack) := by rw [cell_of_row _ gx 1 _ _ (0, 0) HX.out]; rfl
          have c2 : W3.cell? ⟨gx, 2, none⟩ = some (.int .i64 hav) := by rw [cell_of_row _ gx 2 _ _ (0, 0) HX.out]; rfl
          have c3 : W3.cell? ⟨gx, 3, none⟩ = some (.int .i64 now) := by rw [cell_of_row _ gx 3 _ _ (0, 0) HX.out]; rfl
          by_cases hk1 : kd = 1
          · subst hk1
            clear c1 c2 c3
            have HRS := Lib.hid (wreset_c HC.out (by have := HOK.out.k0; simp; omega))
            go_upto_region 13 with (go_at_call 37; (with_reducible refine HRS.out.mono ?_); rintro e4 w4 ⟨rfl, hk4, hb4⟩; have HC4 := Lib.hid hk4; have HR4 := Lib.hid (HR.out.but hb4 (Ne.symm HGR.out.2)); have HB4 := Lib.hid (HB3.out.trans (hb4.base HG.out HB3.out.size)); clear hk4 hb4)
            clear c0 HRS HB3 HR HC HX
            obtain ⟨r0, r1, r2, r3, r4⟩ := HR4.out.cs
            have z3 := HR4.out.fz 3
            go_upto_region 18 with (fail)
            clear r0 r1 r2 r3 r4 z3
            have hr5 := HR4.out.set3 q.a
            have HC5 := Lib.hid (HC4.out.other ⟨gr, 3, none⟩ (.int .i64 q.a) HGR.out.2)
            have HB5 := Lib.hid (HB4.out.setCell (p := ⟨gr, 3, none⟩) HGR.out.1 (.int .i64 q.a))
            generalize w4.setCell ⟨gr, 3, none⟩ (.int .i64 q.a) = W5 at *
            have HR5 := Lib.hid (show Wnd W5 gr 67 q.back from hr5)
            have HOK5 := Lib.hid HOK.out.back
            obtain ⟨q5, hq5⟩ : ∃ z, q.back = z := ⟨_, rfl⟩
            rw [hq5] at HR5 HC5 HOK5
            clear hr5 hq5 HR4 HC4 HB4 HOK
            have hkk : (q5.k != 0) = true := by have := HOK5.out.k0; simp; omega
            have HKK := Lib.hid hkk
            have HA := Lib.hid (fun (d : Nat) (os : Array Obj) => (tells_same (wack_c (HC5.out.kept (below_regrown W5 d os)) HKK.out)).regrown_of)
            have HS := Lib.hid (fun (d : Nat) (os : Array Obj) => (tells_same (wsent_c (HC5.out.kept (below_regrown W5 d os)) HKK.out)).regrown_of)
            have HO := Lib.hid (fun (d : Nat) (os : Array Obj) => (tells_same (wopen_c (HC5.out.kept (below_regrown W5 d os)) HOK5.out)).regrown_of)
            obtain ⟨r0, r1, r2, r3, r4⟩ := HR5.out.cs
            have k2 := cell_regrown r2
            have k3 := cell_regrown r3
            have hsub : IntKind.i64.wrap (q5.s - q5.a) = q5.s - q5.a := by
              have := HOK5.out.s0; have := HOK5.out.s1; have := HOK5.out.k1
              rw [IntKind.wrap_i64]; omega
            have haa : (q5.a != q5.a) = false := by simp
            have hss : (q5.s != q5.s) = false := by simp
            have hoo : (q5.s - q5.a != q5.s - q5.a) = false := by simp
            clear r0 r1 r2 r3 r4 hkk
            go_wp2
            refine wp_region_quiet_below (by kernel_rfl) (by kernel_rfl) ?_
            repeat (go_big_quiet_step (first | with_reducible exact HA.out _ _ | with_reducible exact HS.out _ _ | with_reducible exact HO.out _ _))
            refine wpQuiet_nil ?_
            intro _ hw'
            obtain ⟨⟨dq, osq⟩, hw''⟩ := hw'
            subst hw''
            have HB8 := Lib.hid (HB5.out.trans ((below_regrown W5 dq osq).mono HB5.out.size))
            have HC8 := Lib.hid (HC5.out.kept (below_regrown W5 dq osq))
            have HR8 := Lib.hid (HR5.out.kept (below_regrown W5 dq osq))
            clear k2 k3 haa hss hoo hsub HA HS HO HC5 HR5 HB5
            generalize grow (redrawn W5 dq) osq = W8 at *
            go_wp2
            go_roundw
            case rel => exact ⟨j + 1, q5, by have := HJM.out; omega, by go_num, HOK5.out, HC8.out, HR8.out, HB8.out⟩
            case measure => simp [intOf]; have := HJM.out; omega
          · have e1 : (kd == 1) = false := by simpa using hk1
            have HNX := Lib.hid (wnext_k HC.out HOK.out ack hav now rfl rfl rfl rfl)
            have HRX := Lib.hid (fun W (h : Wnd W gr 67 q) => rwnext_k h HOK.out ack hav now rfl rfl rfl rfl)
            have HOK5 := Lib.hid (HOK.out.ask ack hav now)
            obtain ⟨E, hE⟩ : ∃ z, Wn.err ack hav now = z := ⟨_, rfl⟩
            obtain ⟨L, hL⟩ : ∃ z, q.tell ack hav now = z := ⟨_, rfl⟩
            obtain ⟨n, hn⟩ : ∃ z, L.length = z := ⟨_, rfl⟩
            obtain ⟨q5, hq5⟩ : ∃ z, q.ask ack hav now = z := ⟨_, rfl⟩
            rw [hE, hL, hn, hq5] at HNX HRX
            rw [hq5] at HOK5
            clear hE hL hn hq5 hk1 HOK
            have hEE : (E != E) = false := by simp
            go_upto_region 15 with (go_at_call 38; (with_reducible refine HNX.out.mono ?_); rintro e4 w4 ⟨xa, xc, rfl, ho4, hk4, hb4⟩; have HC4 := Lib.hid hk4; have HO4 := Lib.hid ho4; have HR4 := Lib.hid (HR.out.but hb4 (Ne.symm HGR.out.2)); have HB4 := Lib.hid (HB3.out.trans (hb4.base HG.out HB3.out.size)); have HX4 := Lib.hid ((hb4.block _ (Array.getElem?_eq_some_iff.1 HX.out).1 (by simpa using HXN.out.1)).trans HX.out); clear hk4 hb4 ho4)
            clear c0 c1 c2 c3
            have c1 : w4.cell? ⟨gx, 1, none⟩ = some (.int .i64 ack) := by rw [cell_of_row _ gx 1 _ _ (0, 0) HX4.out]; rfl
            have c2 : w4.cell? ⟨gx, 2, none⟩ = some (.int .i64 hav) := by rw [cell_of_row _ gx 2 _ _ (0, 0) HX4.out]; rfl
            have c3 : w4.cell? ⟨gx, 3, none⟩ = some (.int .i64 now) := by rw [cell_of_row _ gx 3 _ _ (0, 0) HX4.out]; rfl
            go_upto_region 16 with (go_at_call 39; (with_reducible refine (HRX.out _ HR4.out).mono ?_); rintro e5 w5 ⟨ya, yc, rfl, ho5, hk5, hb5⟩; have HR5 := Lib.hid hk5; have HO5 := Lib.hid (And.intro (HO4.out.but hb5 (by have := HR.out.lt; exact this)).ns2.2 ho5.ns2.2); have HC5 := Lib.hid (HC4.out.but hb5 HGR.out.2); have HB5 := Lib.hid (HB4.out.trans (hb5.base HGR.out.1 HB4.out.size)); clear hk5 hb5 ho5)
            clear c1 c2 c3
            go_upto_region 18 with (go_at_call 40; (with_reducible refine (ints_c HO5.out.1 HO5.out.2).mono ?_); rintro e6 w6 ⟨rfl, hb6⟩; have HC6 := Lib.hid (HC5.out.kept hb6); have HR6 := Lib.hid (HR5.out.kept hb6); have HB6 := Lib.hid (HB5.out.trans (hb6.mono HB5.out.size)); clear hb6)
            clear HC5 HR5 HB5 HO5 HC4 HO4 HR4 HB4 HX4 HB3 HR HC HX HNX HRX
            obtain ⟨W5, hW5⟩ : ∃ X, w6 = X := ⟨_, rfl⟩
            rw [hW5] at HC6 HR6 HB6 ⊢
            have HC5 := HC6
            have HR5 := HR6
            have HB5 := HB6
            clear HC6 HR6 HB6 hW5
            have hkk : (q5.k != 0) = true := by have := HOK5.out.k0; simp; omega
            have HKK := Lib.hid hkk
            have HA := Lib.hid (fun (d : Nat) (os : Array Obj) => (tells_same (wack_c (HC5.out.kept (below_regrown W5 d os)) HKK.out)).regrown_of)
            have HS := Lib.hid (fun (d : Nat) (os : Array Obj) => (tells_same (wsent_c (HC5.out.kept (below_regrown W5 d os)) HKK.out)).regrown_of)
            have HO := Lib.hid (fun (d : Nat) (os : Array Obj) => (tells_same (wopen_c (HC5.out.kept (below_regrown W5 d os)) HOK5.out)).regrown_of)
            obtain ⟨r0, r1, r2, r3, r4⟩ := HR5.out.cs
            have k2 := cell_regrown r2
            have k3 := cell_regrown r3
            have hsub : IntKind.i64.wrap (q5.s - q5.a) = q5.s - q5.a := by
              have := HOK5.out.s0; have := HOK5.out.s1; have := HOK5.out.k1
              rw [IntKind.wrap_i64]; omega
            have haa : (q5.a != q5.a) = false := by simp
            have hss : (q5.s != q5.s) = false := by simp
            have hoo : (q5.s - q5.a != q5.s - q5.a) = false := by simp
            clear r0 r1 r2 r3 r4 hkk
            go_wp2
            refine wp_region_quiet_below (by kernel_rfl) (by kernel_rfl) ?_
            repeat (go_big_quiet_step (first | with_reducible exact HA.out _ _ | with_reducible exact HS.out _ _ | with_reducible exact HO.out _ _))
            refine wpQuiet_nil ?_
            intro _ hw'
            obtain ⟨⟨dq, osq⟩, hw''⟩ := hw'
            subst hw''
            have HB8 := Lib.hid (HB5.out.trans ((below_regrown W5 dq osq).mono HB5.out.size))
            have HC8 := Lib.hid (HC5.out.kept (below_regrown W5 dq osq))
            have HR8 := Lib.hid (HR5.out.kept (below_regrown W5 dq osq))
            clear k2 k3 haa hss hoo hsub HA HS HO HC5 HR5 HB5
            generalize grow (redrawn W5 dq) osq = W8 at *
            go_wp2
            go_roundw
            case rel => exact ⟨j + 1, q5, by have := HJM.out; omega, by go_num, HOK5.out, HC8.out, HR8.out, HB8.out⟩
            case measure => simp [intOf]; have := HJM.out; omega
        · obtain rfl : j = m := by omega
          have HB3 := Lib.hid hB
          clear hc hr
          go_wp2_with (go_at_call 36; (with_reducible refine (wlives_c _).mono ?_); rintro e8 w8 ⟨rfl, hb8⟩)
          go_ret
          exact ⟨rfl, HB3.out.trans (hb8.mono HB3.out.size)⟩
    · go_wp2_with (go_at_call 36; (with_reducible refine (wlives_c _).mono ?_); rintro e8 w8 ⟨rfl, hb8⟩)
      go_ret
      exact ⟨rfl, HB3.out.trans (hb8.mono HB3.out.size)⟩
end Go.Proofs.Ytplanmiggeghfaa
