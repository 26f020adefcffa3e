/-
  Window: what Next leaves, of both; the example; the walk of WindowNobody.
-/
import Derived.Test.YtplanmiggeghfaaWA4
import Derived.Shelf.Abstract
namespace Go.Proofs.Ytplanmiggeghfaa
open Go.RowKit Go Go.Sort
set_option linter.unusedVariables false
set_option maxRecDepth 20000

def NK (ty : TypeId) (g n : Nat) (L : List Int) (E : Int) (q' : Wn) (w : World) (e : Ending) (w' : World) : Prop :=
  ∃ a c, e = .returned (.tuple #[.slice a n c, .int .i64 E]) ∧ OwnN w' w.heap.size (.slice a n c) L ∧ Wnd w' g ty q' ∧ But g w w'
theorem OwnN.ns2 {w : World} {B n c : Nat} {a : Option Addr} {l : List Int} (h : OwnN w B (.slice a n c) l) : l.length = n ∧ Ns w a n c l := by
  obtain ⟨a', c', he, hn⟩ := h.ns
  injection he with e1 e2 e3
  subst e1 e2 e3
  exact ⟨rfl, hn⟩
theorem nk_of {ty : TypeId} {w w' : World} {g : Nat} {q : Wn} {ack hav now : Int} {e : Ending} (h : NextPost ty g q ack hav now w e w') {n : Nat} {L : List Int} {E : Int} {q' : Wn} (hE : Wn.err ack hav now = E) (hL : q.tell ack hav now = L) (hn : L.length = n) (hq : q.ask ack hav now = q') : NK ty g n L E q' w e w' := by
  obtain ⟨v, he, ho, hk, hb⟩ := h
  rw [hE] at he
  rw [hL] at ho
  rw [hq] at hk
  obtain ⟨a, c, rfl, -⟩ := ho.ns
  subst hn
  exact ⟨a, c, he, ho, hk, hb⟩
theorem wnext_k {w : World} {g : Nat} {q : Wn} (h : Wnd w g 79 q) (ho : q.Ok) (ack hav now : Int) {n : Nat} {L : List Int} {E : Int} {q' : Wn} (hE : Wn.err ack hav now = E) (hL : q.tell ack hav now = L) (hn : L.length = n) (hq : q.ask ack hav now = q') :
    Calls Try.prog 38 #[.pointer (some ⟨g, 0, none⟩), .int .i64 ack, .int .i64 hav, .int .i64 now] w (NK 79 g n L E q' w) :=
  (wnext_c h ho ack hav now).mono fun _ _ h => nk_of h hE hL hn hq
theorem rwnext_k {w : World} {g : Nat} {q : Wn} (h : Wnd w g 67 q) (ho : q.Ok) (ack hav now : Int) {n : Nat} {L : List Int} {E : Int} {q' : Wn} (hE : Wn.err ack hav now = E) (hL : q.tell ack hav now = L) (hn : L.length = n) (hq : q.ask ack hav now = q') :
    Calls Try.prog 39 #[.pointer (some ⟨g, 0, none⟩), .int .i64 ack, .int .i64 hav, .int .i64 now] w (NK 67 g n L E q' w) :=
  (rwnext_c h ho ack hav now).mono fun _ _ h => nk_of h hE hL hn hq
theorem wl_ok0 : (⟨2, 3, 0, 0, 0⟩ : Wn).Ok := by refine ⟨?_, ?_, ?_, ?_, ?_, ?_, ?_, ?_, ?_, ?_⟩ <;> decide
theorem wl_e0 : Wn.err 0 5 0 = 0 := by decide
theorem wl_t0 : Wn.tell ⟨2, 3, 0, 0, 0⟩ 0 5 0 = [1, 2] := by decide
theorem wl_q0 : Wn.ask ⟨2, 3, 0, 0, 0⟩ 0 5 0 = ⟨2, 3, 0, 2, 0⟩ := by decide
theorem wl_n0 : ([1, 2] : List Int).length = 2 := rfl
theorem wl_ok1 : (⟨2, 3, 0, 2, 0⟩ : Wn).Ok := by refine ⟨?_, ?_, ?_, ?_, ?_, ?_, ?_, ?_, ?_, ?_⟩ <;> decide
theorem wl_e1 : Wn.err 0 5 1 = 0 := by decide
theorem wl_t1 : Wn.tell ⟨2, 3, 0, 2, 0⟩ 0 5 1 = [] := by decide
theorem wl_q1 : Wn.ask ⟨2, 3, 0, 2, 0⟩ 0 5 1 = ⟨2, 3, 0, 2, 0⟩ := by decide
theorem wl_n1 : ([] : List Int).length = 0 := rfl
theorem wl_ok2 : (⟨2, 3, 0, 2, 0⟩ : Wn).Ok := by refine ⟨?_, ?_, ?_, ?_, ?_, ?_, ?_, ?_, ?_, ?_⟩ <;> decide
theorem wl_e2 : Wn.err 1 5 2 = 0 := by decide
theorem wl_t2 : Wn.tell ⟨2, 3, 0, 2, 0⟩ 1 5 2 = [3] := by decide
theorem wl_q2 : Wn.ask ⟨2, 3, 0, 2, 0⟩ 1 5 2 = ⟨2, 3, 1, 3, 2⟩ := by decide
theorem wl_n2 : ([3] : List Int).length = 1 := rfl
theorem wl_ok3 : (⟨2, 3, 1, 3, 2⟩ : Wn).Ok := by refine ⟨?_, ?_, ?_, ?_, ?_, ?_, ?_, ?_, ?_, ?_⟩ <;> decide
theorem wl_e3 : Wn.err 1 5 4 = 0 := by decide
theorem wl_t3 : Wn.tell ⟨2, 3, 1, 3, 2⟩ 1 5 4 = [] := by decide
theorem wl_q3 : Wn.ask ⟨2, 3, 1, 3, 2⟩ 1 5 4 = ⟨2, 3, 1, 3, 2⟩ := by decide
theorem wl_n3 : ([] : List Int).length = 0 := rfl
theorem wl_ok4 : (⟨2, 3, 1, 3, 2⟩ : Wn).Ok := by refine ⟨?_, ?_, ?_, ?_, ?_, ?_, ?_, ?_, ?_, ?_⟩ <;> decide
theorem wl_e4 : Wn.err 1 5 5 = 0 := by decide
theorem wl_t4 : Wn.tell ⟨2, 3, 1, 3, 2⟩ 1 5 5 = [2, 3] := by decide
theorem wl_q4 : Wn.ask ⟨2, 3, 1, 3, 2⟩ 1 5 5 = ⟨2, 3, 1, 3, 5⟩ := by decide
theorem wl_n4 : ([2, 3] : List Int).length = 2 := rfl
theorem wl_ok5 : (⟨2, 3, 1, 3, 5⟩ : Wn).Ok := by refine ⟨?_, ?_, ?_, ?_, ?_, ?_, ?_, ?_, ?_, ?_⟩ <;> decide
theorem wl_new : newOk 2 3 = true := by decide
set_option maxRecDepth 100000 in
set_option maxHeartbeats 6400000 in
theorem wlives_c (w : World) : Calls Try.prog 36 #[] w (Tells (.bool true) w) := by
  have HN := Lib.hid (fun W => wnew_c 2 3 W wl_new)
  go_enter Try.func36, Try.ntmps36
  go_upto_region 4 with (go_at_call 34; (with_reducible refine (HN.out _).mono ?_); rintro e0 w0 ⟨g, rfl, hg, hk0, hb0⟩; have HG := Lib.hid hg; have HK0 := Lib.hid hk0; have HB0 := Lib.hid hb0; clear hg hk0 hb0)
  have HBT0 := Lib.hid (But.of (g := g) HB0.out)
  go_upto_region 5 with (go_at_call 38; (with_reducible refine (wnext_k HK0.out wl_ok0 0 5 0 wl_e0 wl_t0 wl_n0 wl_q0).mono ?_); rintro e1 w1 ⟨va1, vc1, rfl, ho1, hk1, hb1⟩; have HO1 := Lib.hid ho1; have HK1 := Lib.hid hk1; have HBT1 := Lib.hid (HBT0.out.trans hb1); have HBS1 := Lib.hid hb1; clear ho1 hk1 hb1)
  go_upto_region 6 with (go_at_call 38; (with_reducible refine (wnext_k HK1.out wl_ok1 0 5 1 wl_e1 wl_t1 wl_n1 wl_q1).mono ?_); rintro e2 w2 ⟨va2, vc2, rfl, ho2, hk2, hb2⟩; have HO2 := Lib.hid ho2; have HK2 := Lib.hid hk2; have HBT2 := Lib.hid (HBT1.out.trans hb2); have HBS2 := Lib.hid hb2; clear ho2 hk2 hb2)
  go_upto_region 7 with (go_at_call 38; (with_reducible refine (wnext_k HK2.out wl_ok2 1 5 2 wl_e2 wl_t2 wl_n2 wl_q2).mono ?_); rintro e3 w3 ⟨va3, vc3, rfl, ho3, hk3, hb3⟩; have HO3 := Lib.hid ho3; have HK3 := Lib.hid hk3; have HBT3 := Lib.hid (HBT2.out.trans hb3); have HBS3 := Lib.hid hb3; clear ho3 hk3 hb3)
  go_upto_region 8 with (go_at_call 38; (with_reducible refine (wnext_k HK3.out wl_ok3 1 5 4 wl_e3 wl_t3 wl_n3 wl_q3).mono ?_); rintro e4 w4 ⟨va4, vc4, rfl, ho4, hk4, hb4⟩; have HO4 := Lib.hid ho4; have HK4 := Lib.hid hk4; have HBT4 := Lib.hid (HBT3.out.trans hb4); have HBS4 := Lib.hid hb4; clear ho4 hk4 hb4)
  go_upto_region 9 with (go_at_call 38; (with_reducible refine (wnext_k HK4.out wl_ok4 1 5 5 wl_e4 wl_t4 wl_n4 wl_q4).mono ?_); rintro e5 w5 ⟨va5, vc5, rfl, ho5, hk5, hb5⟩; have HO5 := Lib.hid ho5; have HK5 := Lib.hid hk5; have HBT5 := Lib.hid (HBT4.out.trans hb5); have HBS5 := Lib.hid hb5; clear ho5 hk5 hb5)
  have hl3 := HO3.out.ns2.2
  have HL3 := Lib.hid (hl3.le)
  obtain ⟨b3, o3, rfl, hat3⟩ := hl3.at (k := 0) (by omega)
  have hl5 := HO5.out.ns2.2
  obtain ⟨b5, o5, rfl, hat5⟩ := hl5.at (k := 0) (by omega)
  have HO34 := HO3.out.but HBS4.out (by have := HK2.out.lt; exact this)
  have HO35 := HO34.but HBS5.out (by have := HK2.out.lt; exact this)
  obtain ⟨b3', o3', e3', hat3'⟩ := HO35.ns2.2.at (k := 0) (by omega)
  injection e3' with e3'
  injection e3' with e1 e2
  subst e1 e2
  have d3 := hat3' w5 (Below.refl _ _)
  have d5 := hat5 w5 (Below.refl _ _)
  have d3' : w5.cell? ⟨b3, o3 + 0, none⟩ = some (.int .i64 3) := d3
  have d5' : w5.cell? ⟨b5, o5 + 0, none⟩ = some (.int .i64 2) := d5
  rw [Nat.add_zero] at d3' d5'
  have HOP := Lib.hid (wopen_c HK5.out wl_ok5)
  clear hl3 hat3 hl5 hat5 HO34 HO35 hat3' d3 d5
  go_wp2_with (go_at_call 43; (with_reducible refine HOP.out.mono ?_); rintro e9 w9 ⟨rfl, rfl⟩)
  go_ret
  exact ⟨rfl, HBT5.out.base HG.out (Nat.le_refl _)⟩

set_option maxRecDepth 100000 in
set_option maxHeartbeats 6400000 in
theorem wnobody_walk (w : World) (kd ack hav now : Int) : Calls Try.prog 10 #[.agg #[.int .i64 kd, .int .i64 ack, .int .i64 hav, .int .i64 now]] w (Tells (.bool true) w) := by
  have hk0 := heap_alloc_new w (.cells #[.int .i64 kd, .int .i64 ack, .int .i64 hav, .int .i64 now] 65)
  have hb0 := alloc_below w (.cells #[.int .i64 kd, .int .i64 ack, .int .i64 hav, .int .i64 now] 65)
  go_enter Try.func10, Try.ntmps10
  go_upto_region 1 with (fail)
  obtain ⟨B, hB⟩ : ∃ q, w.heap.size = q := ⟨_, rfl⟩
  have HBe := Lib.hid hB
  rw [hB] at hk0 ⊢
  have HB0 := Lib.hid hb0
  clear hB hb0
  generalize w.alloc (.cells #[.int .i64 kd, .int .i64 ack, .int .i64 hav, .int .i64 now] 65) = W1 at *
  have HK0 := Lib.hid hk0
  have hk1 := Wnd.new W1 79 ⟨0, 0, 0, 0, 0⟩
  simp only at hk1
  have hb1 := alloc_below W1 (.cells #[.int .i64 0, .int .i64 0, .int .i64 0, .int .i64 0, .int .i64 0] 79)
  clear hk0
  go_upto_region 2 with (fail)
  obtain ⟨g, hg⟩ : ∃ q, W1.heap.size = q := ⟨_, rfl⟩
  rw [hg] at hk1 ⊢
  have HB1 := Lib.hid (HB0.out.trans (hb1.mono HB0.out.size))
  have HA1 := Lib.hid ((hb1.block _ (Array.getElem?_eq_some_iff.1 HK0.out).1).trans HK0.out)
  have HK1 := Lib.hid hk1
  have hs2 : (W1.alloc (.cells #[.int .i64 0, .int .i64 0, .int .i64 0, .int .i64 0, .int .i64 0] 79)).heap.size = g + 1 := by rw [World.size_alloc, hg]
  clear hk1 hb1 hg
  generalize W1.alloc (.cells #[.int .i64 0, .int .i64 0, .int .i64 0, .int .i64 0, .int .i64 0] 79) = W2 at *
  have hb2 := alloc_below W2 (.cells #[.pointer none, .pointer (some ⟨g, 0, none⟩)] 58)
  have hk2 := heap_alloc_new W2 (.cells #[.pointer none, .pointer (some ⟨g, 0, none⟩)] 58)
  have HK2 := Lib.hid (HK1.out.kept hb2)
  have HA2 := Lib.hid ((hb2.block _ (Array.getElem?_eq_some_iff.1 HA1.out).1).trans HA1.out)
  have HB2 := Lib.hid (HB1.out.trans (hb2.mono HB1.out.size))
  rw [hs2] at hk2
  have HS := Lib.hid hk2
  clear hk2 hb2 hs2 HB0 HK0 HB1 HA1 HK1
  generalize W2.alloc (.cells #[.pointer none, .pointer (some ⟨g, 0, none⟩)] 58) = W3 at *
  go_loopw [11] (fun j wr => ∃ i : Nat, i ≤ 2 ∧ j = .int .i64 (i : Int) ∧ Below W3.heap.size W3 wr) (fun j _ => 2 - (intOf j).toNat)
  case atStart => exact ⟨0, by omega, rfl, Below.refl _ _⟩
  case round =>
    obtain ⟨i, hi, rfl, hb⟩ := hrel
    have hs := (hb.block _ (Array.getElem?_eq_some_iff.1 HS.out).1).trans HS.out
    have ha := (hb.block _ (Array.getElem?_eq_some_iff.1 HA2.out).1).trans HA2.out
    have HKW := Lib.hid (HK2.out.kept hb)
    have HB := Lib.hid hb
    have p0 : wr.cell? ⟨g + 1, 0, none⟩ = some (.pointer none) := by rw [cell_of_row _ (g + 1) 0 _ _ (0, 0) hs]; rfl
    have p1 : wr.cell? ⟨g + 1, 1, none⟩ = some (.pointer (some ⟨g, 0, none⟩)) := by rw [cell_of_row _ (g + 1) 1 _ _ (0, 0) hs]; rfl
    have a1 : wr.cell? ⟨B, 1, none⟩ = some (.int .i64 ack) := by rw [cell_of_row _ B 1 _ _ (0, 0) ha]; rfl
    have a2 : wr.cell? ⟨B, 2, none⟩ = some (.int .i64 hav) := by rw [cell_of_row _ B 2 _ _ (0, 0) ha]; rfl
    have a3 : wr.cell? ⟨B, 3, none⟩ = some (.int .i64 now) := by rw [cell_of_row _ B 3 _ _ (0, 0) ha]; rfl
    clear hs ha hb
    rcases (by omega : i = 0 ∨ i = 1 ∨ i = 2) with rfl | rfl | rfl
    · clear p1
      go_wp2_with (first
        | (go_at_call 38; (with_reducible refine (wnext_nil _ ack hav now).mono ?_); rintro e4 w4 ⟨rfl, rfl⟩)
        | (go_at_call 37; (with_reducible refine (wreset_nil _).mono ?_); rintro e5 w5 ⟨rfl, rfl⟩)
        | (go_at_call 41; (with_reducible refine (wack_nil _).mono ?_); rintro e6 w6 ⟨rfl, rfl⟩)
        | (go_at_call 42; (with_reducible refine (wsent_nil _).mono ?_); rintro e7 w7 ⟨rfl, rfl⟩)
        | (go_at_call 43; (with_reducible refine (wopen_nil _).mono ?_); rintro e8 w8 ⟨rfl, rfl⟩))
      go_roundw
      case rel => exact ⟨1, by omega, by go_num, HB.out⟩
      case measure => simp [intOf]
    · clear p0
      have HZ := Lib.hid (show ((⟨0, 0, 0, 0, 0⟩ : Wn).k != 0) = false from rfl)
      go_wp2_with (first
        | (go_at_call 38; (with_reducible refine (wnext_un HKW.out HZ.out ack hav now).mono ?_); rintro e4 w4 ⟨rfl, rfl⟩)
        | (go_at_call 37; (with_reducible refine (wreset_un HKW.out HZ.out).mono ?_); rintro e5 w5 ⟨rfl, rfl⟩)
        | (go_at_call 41; (with_reducible refine (wack_un HKW.out HZ.out).mono ?_); rintro e6 w6 ⟨rfl, rfl⟩)
        | (go_at_call 42; (with_reducible refine (wsent_un HKW.out HZ.out).mono ?_); rintro e7 w7 ⟨rfl, rfl⟩)
        | (go_at_call 43; (with_reducible refine (wopen_un HKW.out HZ.out).mono ?_); rintro e8 w8 ⟨rfl, rfl⟩))
      go_roundw
      case rel => exact ⟨2, by omega, by go_num, HB.out⟩
      case measure => simp [intOf]
    · clear p0 p1 a1 a2 a3
      go_wp2_with (go_at_call 36; (with_reducible refine (wlives_c _).mono ?_); rintro e8 w8 ⟨rfl, hb8⟩)
      go_ret
      have h1 := HB2.out.trans (HB.out.mono HB2.out.size)
      exact ⟨rfl, h1.trans (hb8.mono h1.size)⟩
end Go.Proofs.Ytplanmiggeghfaa
