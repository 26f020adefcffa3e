/-
  Net: the walks of NetNobody and NetPlays.
-/
import Derived.Test.YtngfohedddcboaaNTF
namespace Go.Proofs.Ytngfohedddcboaa
open Go.RowKit Go Go.Sort Go.Lib Go.Maps
set_option linter.unusedVariables false
set_option maxRecDepth 20000

set_option maxRecDepth 100000 in
set_option maxHeartbeats 12800000 in
theorem nnobody_walk (w : World) (kd frm : Int) (a : Option Addr) (n c : Nat) (i at9 z : Int) : Calls Try.prog 7 #[.agg #[.int .i64 kd, .int .i64 frm, .slice a n c, .int .i64 i, .int .i64 at9, .int .u8 z]] w (Tells (.bool true) w) := by
  have HNB := Lib.hid (fun W => nnew_bad 0 W (.inl (by decide)))
  have HLV := Lib.hid (fun W => nlives_c W)
  have hba := alloc_below w (.cells #[.int .i64 kd, .int .i64 frm, .slice a n c, .int .i64 i, .int .i64 at9, .int .u8 z] 31)
  have hxa := heap_alloc_new w (.cells #[.int .i64 kd, .int .i64 frm, .slice a n c, .int .i64 i, .int .i64 at9, .int .u8 z] 31)
  go_enter Try.func7, Try.ntmps7
  go_upto_region 1 with (fail)
  obtain ⟨gx, hgx⟩ : ∃ z, w.heap.size = z := ⟨_, rfl⟩
  rw [hgx] at hxa ⊢
  have HB1 := Lib.hid hba
  have HX1 := Lib.hid hxa
  clear hba hxa hgx
  generalize w.alloc (.cells #[.int .i64 kd, .int .i64 frm, .slice a n c, .int .i64 i, .int .i64 at9, .int .u8 z] 31) = w1 at *
  have HZ := Lib.hid (heap_alloc_new w1 (.cells #[.int .i64 0, .slice none 0 0, .int .i64 0, .int .i64 0, .int .i64 0, .int .i64 0] 56))
  have hb2 := alloc_below w1 (.cells #[.int .i64 0, .slice none 0 0, .int .i64 0, .int .i64 0, .int .i64 0, .int .i64 0] 56)
  go_wp2
  obtain ⟨gz, hgz⟩ : ∃ z, w1.heap.size = z := ⟨_, rfl⟩
  have hs2 : (w1.alloc (.cells #[.int .i64 0, .slice none 0 0, .int .i64 0, .int .i64 0, .int .i64 0, .int .i64 0] 56)).heap.size = gz + 1 := by simp [hgz]
  rw [hgz] at HZ ⊢
  generalize w1.alloc (.cells #[.int .i64 0, .slice none 0 0, .int .i64 0, .int .i64 0, .int .i64 0, .int .i64 0] 56) = w2 at *
  have hb3 := alloc_below w2 (.cells #[.pointer none, .pointer (some ⟨gz, 0, none⟩)] 23)
  have HP3 := Lib.hid (heap_alloc_new w2 (.cells #[.pointer none, .pointer (some ⟨gz, 0, none⟩)] 23))
  have HZ3 := Lib.hid ((hb3.block gz (Array.getElem?_eq_some_iff.1 HZ.out).1).trans HZ.out)
  have hb13 := hb2.trans (hb3.mono hb2.size)
  have HX3 := Lib.hid ((hb13.block gx (Array.getElem?_eq_some_iff.1 HX1.out).1).trans HX1.out)
  have HB3 := Lib.hid (HB1.out.trans (hb13.mono HB1.out.size))
  rw [hs2] at HP3
  obtain ⟨gp, hgp⟩ : ∃ z, gz + 1 = z := ⟨_, rfl⟩
  rw [hgp] at HP3 ⊢
  clear hb2 hb3 hb13 hgz hgp hs2 HZ HX1 HB1
  generalize w2.alloc (.cells #[.pointer none, .pointer (some ⟨gz, 0, none⟩)] 23) = w3 at *
  have HAC := Lib.hid (fun (W : World) (hW : Below w3.heap.size w3 W) => show W.cell? ⟨gx, 1, none⟩ = some (.int .i64 frm) ∧ W.cell? ⟨gx, 2, none⟩ = some (.slice a n c) ∧ W.cell? ⟨gx, 3, none⟩ = some (.int .i64 i) ∧ W.cell? ⟨gx, 4, none⟩ = some (.int .i64 at9) ∧ W.cell? ⟨gx, 5, none⟩ = some (.int .u8 z) from by
    have hx := (hW.block gx (Array.getElem?_eq_some_iff.1 HX3.out).1).trans HX3.out
    refine ⟨?_, ?_, ?_, ?_, ?_⟩ <;> (rw [cell_of_row W gx _ _ _ (0, 0) hx]; rfl))
  have heqc := fun w => eqC4 0 0 0 0 w
  go_loopw [13] (fun j9 wr => ∃ j : Nat, j ≤ 2 ∧ j9 = .int .i64 (j : Int) ∧ Below w3.heap.size w3 wr) (fun j9 _ => 2 - (RowKit.intOf j9).toNat)
  case atStart => exact ⟨0, by omega, rfl, Below.refl _ _⟩
  case round =>
    obtain ⟨j, hj, rfl, hb⟩ := hrel
    have HB0 := Lib.hid hb
    clear hb
    by_cases hlt : j < 2
    · have hjj : (j : Int) < 2 := by omega
      obtain ⟨p, hp, hun⟩ : ∃ p, wr.cell? ⟨gp, j, none⟩ = some p ∧ UnN w3 p := by
        have hpp := (HB0.out.block gp (Array.getElem?_eq_some_iff.1 HP3.out).1).trans HP3.out
        rcases (by omega : j = 0 ∨ j = 1) with rfl | rfl
        · exact ⟨.pointer none, by rw [cell_of_row wr gp 0 _ _ (0, 0) hpp]; rfl, .inl rfl⟩
        · exact ⟨.pointer (some ⟨gz, 0, none⟩), by rw [cell_of_row wr gp 1 _ _ (0, 0) hpp]; rfl, .inr ⟨gz, rfl, (Array.getElem?_eq_some_iff.1 HZ3.out).1, by rw [cell_of_row w3 gz 0 _ _ (0, 0) HZ3.out]; rfl⟩⟩
      have HU := Lib.hid (fun (W : World) (hW : Below w3.heap.size w3 W) => hun.below hW)
      clear hun
      obtain ⟨a1, a2, a3, a4, a5⟩ := HAC.out _ HB0.out
      go_upto_region 5 with ((go_at_call 20; (with_reducible refine (un_look (HU.out _ HB0.out) i).mono ?_); rintro e1 w4 ⟨rfl, hb9⟩; have HB4 := Lib.hid (HB0.out.trans (hb9.mono HB0.out.size)); clear hb9; obtain ⟨a1, a2, a3, a4, a5⟩ := HAC.out _ HB4.out))
      have HB5 := Lib.hid (HB4.out.trans ((alloc_below w4 (.cells #[.int .i64 0, .string ⟨#[]⟩] 43)).mono HB4.out.size))
      clear hp a1 a2 a3 a4 a5
      generalize w4.alloc (.cells #[.int .i64 0, .string ⟨#[]⟩] 43) = w5 at *
      obtain ⟨a1, a2, a3, a4, a5⟩ := HAC.out _ HB5.out
      go_upto_region 6 with ((go_at_call 17; (with_reducible refine (un_take (HU.out _ HB5.out) i).mono ?_); rintro e1 w6 ⟨rfl, hb9⟩; have HB6 := Lib.hid (HB5.out.trans (hb9.mono HB5.out.size)); clear hb9; obtain ⟨a1, a2, a3, a4, a5⟩ := HAC.out _ HB6.out))
      have HB7 := Lib.hid (HB6.out.trans ((alloc_below w6 (.cells #[.int .i64 0, .string ⟨#[]⟩] 43)).mono HB6.out.size))
      clear a1 a2 a3 a4 a5
      generalize w6.alloc (.cells #[.int .i64 0, .string ⟨#[]⟩] 43) = w7 at *
      obtain ⟨a1, a2, a3, a4, a5⟩ := HAC.out _ HB7.out
      go_wp2_with (first
        | (go_at_call 16; (with_reducible refine (un_send (HU.out _ HB7.out) frm a n c).mono ?_); rintro e1 w8 ⟨rfl, hb9⟩; have HB8 := Lib.hid (HB7.out.trans (hb9.mono HB7.out.size)); clear hb9; obtain ⟨a1, a2, a3, a4, a5⟩ := HAC.out _ HB8.out)
        | (go_at_call 21; (with_reducible refine (un_drop (HU.out _ HB8.out) i).mono ?_); rintro e1 w9 ⟨rfl, hb9⟩; have HB9 := Lib.hid (HB8.out.trans (hb9.mono HB8.out.size)); clear hb9; obtain ⟨a1, a2, a3, a4, a5⟩ := HAC.out _ HB9.out)
        | (go_at_call 18; (with_reducible refine (un_twice (HU.out _ HB9.out) i).mono ?_); rintro e1 wA ⟨rfl, hb9⟩; have HBA := Lib.hid (HB9.out.trans (hb9.mono HB9.out.size)); clear hb9; obtain ⟨a1, a2, a3, a4, a5⟩ := HAC.out _ HBA.out)
        | (go_at_call 19; (with_reducible refine (un_turn (HU.out _ HBA.out) i at9 z).mono ?_); rintro e1 wB ⟨rfl, hb9⟩; have HBB := Lib.hid (HBA.out.trans (hb9.mono HBA.out.size)); clear hb9; obtain ⟨a1, a2, a3, a4, a5⟩ := HAC.out _ HBB.out)
        | (go_at_call 15; (with_reducible refine (un_len (HU.out _ HBB.out)).mono ?_); rintro e1 wC ⟨rfl, hb9⟩; have HBC := Lib.hid (HBB.out.trans (hb9.mono HBB.out.size)); clear hb9; obtain ⟨a1, a2, a3, a4, a5⟩ := HAC.out _ HBC.out)
        | (go_at_call 14; (with_reducible refine (un_counts (HU.out _ HBC.out)).mono ?_); rintro e1 wD ⟨rfl, hb9⟩; have HBD := Lib.hid (HBC.out.trans (hb9.mono HBC.out.size)); clear hb9; obtain ⟨a1, a2, a3, a4, a5⟩ := HAC.out _ HBD.out))
      go_roundw
      case rel => exact ⟨j + 1, by omega, by go_num, HBD.out⟩
      case measure => simp [RowKit.intOf]; omega
    · obtain rfl : j = 2 := by omega
      go_wp2_with (first
        | (go_at_call 8; (with_reducible refine (HNB.out _).mono ?_); rintro e1 w4 ⟨rfl, rfl⟩)
        | (go_at_call 11; (with_reducible refine (HLV.out _).mono ?_); rintro e8 w8 ⟨rfl, hb8⟩))
      go_ret
      exact ⟨rfl, HB3.out.trans ((HB0.out.trans (hb8.mono HB0.out.size)).mono HB3.out.size)⟩
/-- Both nets, apart, laid since w0, with the same packets and counts. -/
def TwN (w0 : World) (q r : Nat) (st : Nt) (W : World) : Prop := ∃ F G, Nk W 56 q st F ∧ Nk W 60 r st G ∧ (∀ k, F k → ¬ G k) ∧ (∀ k, F k → w0.heap.size ≤ k) ∧ (∀ k, G k → w0.heap.size ≤ k) ∧ Below w0.heap.size w0 W
section
variable {w0 W W' : World} {q r nn : Nat} {st s' : Nt}
theorem TwN.b (h : TwN w0 q r st W) : Below w0.heap.size w0 W := by obtain ⟨F, G, -, -, -, -, -, hb⟩ := h; exact hb
theorem TwN.below (h : TwN w0 q r st W) (hb : Below W.heap.size W W') : TwN w0 q r st W' := by
  obtain ⟨F, G, hd, hr, h1, h2, h3, hb0⟩ := h
  exact ⟨F, G, hd.below hb, hr.below hb, h1, h2, h3, hb0.trans (hb.mono hb0.size)⟩
theorem twn_of {F G : Nat → Prop} (h2 : ∀ k, F k → w0.heap.size ≤ k) (h3 : ∀ k, G k → w0.heap.size ≤ k) (hb : Below w0.heap.size w0 W) (h : Nu W F G q r s' s' W') : TwN w0 q r s' W' := by
  obtain ⟨⟨F', G', hd, hr, h1, h4, h5⟩, ht⟩ := h
  exact ⟨F', G', hd, hr, h1, fun k hk => (h4 k hk).elim (h2 k) (fun h => Nat.le_trans hb.size h), fun k hk => (h5 k hk).elim (h3 k) (fun h => Nat.le_trans hb.size h), hb.trans (ht.base hb.size (fun k hk => hk.elim (h2 k) (h3 k)))⟩
theorem twn_do {Wp : World} (h : TwN w0 q r st Wp) (ho : st.Ok nn) (hnn : nn ≤ 100000) (ac : Na) {x : Option Addr} {cx : Nat} (hb : Bys w0 x ac.l.length cx ac.l) (hz0 : 0 ≤ ac.z) (hz1 : ac.z ≤ 255) (hl : ac.l.length ≤ 20000) (hs : st.act ac = s') (o : Obj) :
    Calls Try.prog 12 #[.pointer (some ⟨q, 0, none⟩), .pointer (some ⟨r, 0, none⟩), .agg #[.int .i64 ac.kd, .int .i64 ac.frm, .slice x ac.l.length cx, .int .i64 ac.i, .int .i64 ac.at9, .int .u8 ac.z]] (Wp.alloc o) (fun e W' => e = .returned (.bool true) ∧ TwN w0 q r s' W' ∧ W'.heap[Wp.heap.size]? = (Wp.alloc o).heap[Wp.heap.size]?) := by
  subst hs
  obtain ⟨F, G, hd, hr, h1, h2, h3, hb0⟩ := h
  have hal := alloc_below Wp o
  refine (ndo_c (hd.below hal) (hr.below hal) h1 ho hnn ac (hb.below (hb0.trans (hal.mono hb0.size))) (fun h0 b off e => ?_) hz0 hz1 hl).mono fun e W' ⟨he, hdu⟩ => ⟨he, twn_of h2 h3 (hb0.trans (hal.mono hb0.size)) hdu, hdu.tr.block _ (by simp) (fun hk => hk.elim (fun h => by have := hd.lt h; omega) (fun h => by have := hr.lt h; omega))⟩
  have := hb.blk_lt h0 e
  exact ⟨fun hf => by have := h2 b hf; omega, fun hg => by have := h3 b hg; omega⟩
theorem twn_same (h : TwN w0 q r st W) (ho : st.Ok nn) : Calls Try.prog 13 #[.pointer (some ⟨q, 0, none⟩), .pointer (some ⟨r, 0, none⟩)] W (fun e W' => e = .returned (.bool true) ∧ TwN w0 q r st W') := by
  have h0 := h
  obtain ⟨F, G, hd, hr, h1, h2, h3, hb0⟩ := h
  exact (nsame_c hd hr ho).mono fun e W' ⟨he, hb⟩ => ⟨he, h0.below hb⟩
theorem twn_counts (h : TwN w0 q r st W) (ho : st.Ok nn) : Calls Try.prog 14 #[.pointer (some ⟨q, 0, none⟩)] W (fun e W' => e = .returned (cntV st) ∧ TwN w0 q r st W' ∧ Below W.heap.size W W') := by
  have h0 := h
  obtain ⟨F, G, hd, hr, h1, h2, h3, hb0⟩ := h
  exact (ncounts_c hd ho.m0).mono fun e W' ⟨he, hb⟩ => ⟨he, h0.below hb, hb⟩
theorem twn_len (h : TwN w0 q r st W) (ho : st.Ok nn) : Calls Try.prog 15 #[.pointer (some ⟨q, 0, none⟩)] W (fun e W' => e = .returned (.int .i64 (st.l.length : Int)) ∧ W = W') := by
  obtain ⟨F, G, hd, hr, h1, h2, h3, hb0⟩ := h
  exact nlen_c hd ho.m0
end
/-- Both nets anew. -/
theorem twn_new {w w1 w2 : World} {q r : Nat} {k : Int} {F G : Nat → Prop} (hd : Nk w1 56 q (Nt.new k) F) (hf : ∀ k, F k → w.heap.size ≤ k) (hb : Below w.heap.size w w1) (hr : Nk w2 60 r (Nt.new k) G) (hg : ∀ k, G k → w1.heap.size ≤ k) (hb2 : Below w1.heap.size w1 w2) : TwN w q r (Nt.new k) w2 :=
  ⟨F, G, hd.below hb2, hr, fun k hk h => (by have := hd.lt hk; have := hg k h; omega), hf, fun k hk => Nat.le_trans hb.size (hg k hk), hb.trans (hb2.mono hb.size)⟩
theorem nt_new_ok {k : Int} (h0 : 1 ≤ k) (h1 : k ≤ 64) : (Nt.new k).Ok 0 := by
  refine ⟨h0, h1, ?_, ?_, ?_, ?_, ?_, fun p hp => ?_⟩ <;> simp [Nt.new] at * <;> omega
/-- What acts make of a net. -/
def Nt.acts (st : Nt) (L : List Na) : Nt := L.foldl Nt.act st
theorem nacts_snoc (st : Nt) {L : List Na} {j : Nat} (hj : j < L.length) : st.acts (L.take (j + 1)) = (st.acts (L.take j)).act (L.getD j Na.zero) := by
  unfold Nt.acts
  rw [takeNa_snoc hj, List.foldl_append]
  rfl
set_option maxRecDepth 100000 in
set_option maxHeartbeats 12800000 in
theorem nplays_walk {w : World} (most : Int) {a : Option Addr} {m cap : Nat} {L : List Na} (hl : Nas w a m cap L) : Calls Try.prog 3 #[.int .i64 most, .slice a m cap] w (Tells (.bool true) w) := by
  have hle := hl.le
  have hmax := hl.max
  have HLN := Lib.hid hl.len
  have HL := Lib.hid hl
  have HLV := Lib.hid (fun W => nlives_c W)
  clear hl
  by_cases hbad : most < 1 ∨ 64 < most
  · have HN := Lib.hid (fun W => nnew_bad most W hbad)
    have HRN := Lib.hid (fun W => rnnew_bad most W hbad)
    clear hbad
    go_enter Try.func3, Try.ntmps3
    go_wp2_with (first
      | (go_at_call 8; (with_reducible refine (HN.out _).mono ?_); rintro e1 w1 ⟨rfl, rfl⟩)
      | (go_at_call 9; (with_reducible refine (HRN.out _).mono ?_); rintro e2 w2 ⟨rfl, rfl⟩)
      | (go_at_call 11; (with_reducible refine (HLV.out _).mono ?_); rintro e8 w8 ⟨rfl, hb8⟩))
    go_ret
    exact ⟨rfl, hb8⟩
  · have HN := Lib.hid (fun W => nnew_c most W (by omega) (by omega))
    have HRN := Lib.hid (fun W => rnnew_c most W (by omega) (by omega))
    have HOK0 := Lib.hid (nt_new_ok (k := most) (by omega) (by omega))
    clear hbad
    have HLT := Lib.hid (fun W (hW : Below w.heap.size w W) => nlight_c (HL.out.below hW))
    go_enter Try.func3, Try.ntmps3
    go_upto_region 4 with (first
      | (go_at_call 8; (with_reducible refine (HN.out _).mono ?_); rintro e1 w1 ⟨q, rfl, F1, hd1, hf1, hb1⟩; have HD1 := Lib.hid hd1; have HF1 := Lib.hid hf1; have HB1 := Lib.hid hb1; clear hd1 hf1 hb1)
      | (go_at_call 9; (with_reducible refine (HRN.out _).mono ?_); rintro e2 w2 ⟨r, rfl, G2, hr2, hg2, hb2⟩; have HT2 := Lib.hid (twn_new HD1.out HF1.out HB1.out hr2 hg2 hb2); clear hr2 hg2 hb2))
    go_upto_region 5 with (go_at_call 10; (with_reducible refine (HLT.out _ HT2.out.b).mono ?_); rintro e5 w5 ⟨b5, rfl, hb5, hB5⟩; have HT5 := Lib.hid (HT2.out.below hB5); have HLI := Lib.hid hb5; clear hB5 hb5; cases b5)
    · go_wp2_with (go_at_call 11; (with_reducible refine (HLV.out _).mono ?_); rintro e8 w8 ⟨rfl, hb8⟩)
      go_ret
      exact ⟨rfl, HT5.out.b.trans (hb8.mono HT5.out.b.size)⟩
    · go_wp2
      go_loopw [28] (fun i wr => ∃ (j : Nat) (st : Nt), j ≤ m ∧ i = .int .i64 (j : Int) ∧ TwN w q r st wr ∧ st.Ok j) (fun i _ => m - (RowKit.intOf i).toNat)
      case atStart => exact ⟨0, _, by omega, rfl, HT5.out, HOK0.out⟩
      case round =>
        obtain ⟨j, st, hj, rfl, ht, hok⟩ := hrel
        have HT := Lib.hid ht
        have HOK := Lib.hid hok
        clear ht hok
        by_cases hlt : j < m
        · have hji : (j : Int) < (m : Int) := by omega
          have hjc : (j : Int) < (cap : Int) := by omega
          obtain ⟨bl, off, x, c, rfl, hy, hz0, hz1, hat⟩ := HL.out.place hlt
          have hml : (L.getD j Na.zero).l.length ≤ 20000 := by
            have := (HLI.out (by first | rfl | trivial)).2 _ (by
              rw [List.getD_eq_getElem?_getD, List.getElem?_eq_getElem (by rw [HLN.out]; exact hlt)]
              exact List.getElem_mem _ : L.getD j Na.zero ∈ L)
            omega
          obtain ⟨c0, c1, c2, c3, c4, c5⟩ := hat wr HT.out.b
          obtain ⟨A, hA⟩ : ∃ z, L.getD j Na.zero = z := ⟨_, rfl⟩
          rw [hA] at hy hz0 hz1 hml c0 c1 c2 c3 c4 c5
          obtain ⟨s', hs'⟩ : ∃ z, st.act A = z := ⟨_, rfl⟩
          have HOK' := Lib.hid (show s'.Ok (j + 1) from by rw [← hs']; exact HOK.out.act A)
          have HDO := Lib.hid (fun (Wp : World) (h : TwN w q r st Wp) o => twn_do h HOK.out (by have := (HLI.out (by first | rfl | trivial)).1; omega) A hy hz0 hz1 hml hs' o)
          have HJM := Lib.hid hlt
          have HSA := Lib.hid hs'
          obtain ⟨al, hal⟩ : ∃ z, A.l.length = z := ⟨_, rfl⟩
          obtain ⟨kd, hkd⟩ : ∃ z, A.kd = z := ⟨_, rfl⟩
          obtain ⟨af, haf⟩ : ∃ z, A.frm = z := ⟨_, rfl⟩
          obtain ⟨ai, hai⟩ : ∃ z, A.i = z := ⟨_, rfl⟩
          obtain ⟨aa, haa⟩ : ∃ z, A.at9 = z := ⟨_, rfl⟩
          obtain ⟨az, haz⟩ : ∃ z, A.z = z := ⟨_, rfl⟩
          simp only [hal, hkd, haf, hai, haa, haz] at HDO
          rw [hkd] at c0
          rw [haf] at c1
          rw [hal] at c2
          rw [hai] at c3
          rw [haa] at c4
          rw [haz] at c5
          clear hat hy hz0 hz1 hml hA hs' hal hkd haf hai haa haz hlt
          have hxx := heap_alloc_new wr (.cells #[.int .i64 kd, .int .i64 af, .slice x al c, .int .i64 ai, .int .i64 aa, .int .u8 az] 31)
          go_upto_region 9 with (fail)
          obtain ⟨gx, hgx⟩ : ∃ z, wr.heap.size = z := ⟨_, rfl⟩
          have HDO2 := Lib.hid (HDO.out wr HT.out (.cells #[.int .i64 kd, .int .i64 af, .slice x al c, .int .i64 ai, .int .i64 aa, .int .u8 az] 31))
          rw [hxx, hgx] at HDO2
          rw [hgx] at hxx ⊢
          clear c0 c1 c2 c3 c4 c5 hgx HDO
          generalize wr.alloc (.cells #[.int .i64 kd, .int .i64 af, .slice x al c, .int .i64 ai, .int .i64 aa, .int .u8 az] 31) = W1 at *
          have x0 : W1.cell? ⟨gx, 0, none⟩ = some (.int .i64 kd) := by rw [cell_of_row _ gx 0 _ _ (0, 0) hxx]; rfl
          have x1 : W1.cell? ⟨gx, 1, none⟩ = some (.int .i64 af) := by rw [cell_of_row _ gx 1 _ _ (0, 0) hxx]; rfl
          have x2 : W1.cell? ⟨gx, 2, none⟩ = some (.slice x al c) := by rw [cell_of_row _ gx 2 _ _ (0, 0) hxx]; rfl
          have x3 : W1.cell? ⟨gx, 3, none⟩ = some (.int .i64 ai) := by rw [cell_of_row _ gx 3 _ _ (0, 0) hxx]; rfl
          have x4 : W1.cell? ⟨gx, 4, none⟩ = some (.int .i64 aa) := by rw [cell_of_row _ gx 4 _ _ (0, 0) hxx]; rfl
          have x5 : W1.cell? ⟨gx, 5, none⟩ = some (.int .u8 az) := by rw [cell_of_row _ gx 5 _ _ (0, 0) hxx]; rfl
          clear hxx
          go_wp2_with (first
            | (go_at_call 12; (with_reducible refine HDO2.out.mono ?_); rintro e3 w3 ⟨rfl, ht3, -⟩; have HT3 := Lib.hid ht3; clear ht3)
            | (go_at_call 13; (with_reducible refine (twn_same HT3.out HOK'.out).mono ?_); rintro e4 w4 ⟨rfl, ht4⟩; have HT4 := Lib.hid ht4; clear ht4))
          go_roundw
          case rel => exact ⟨j + 1, s', HJM.out, by go_num, HT4.out, HOK'.out⟩
          case measure => simp [RowKit.intOf]; have := HJM.out; omega
        · obtain rfl : j = m := by omega
          go_wp2_with (go_at_call 11; (with_reducible refine (HLV.out _).mono ?_); rintro e8 w8 ⟨rfl, hb8⟩)
          go_ret
          exact ⟨rfl, HT.out.b.trans (hb8.mono HT.out.b.size)⟩
end Go.Proofs.Ytngfohedddcboaa
