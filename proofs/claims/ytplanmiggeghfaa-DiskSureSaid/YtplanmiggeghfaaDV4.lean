/-
  Disk: both disks behind acts: made; the walk of DiskPlays.
-/
import Derived.Test.YtplanmiggeghfaaDV3
import Derived.Shelf.Abstract
namespace Go.Proofs.Ytplanmiggeghfaa
open Go.RowKit Go Go.Sort Go.Maps Go.WideMaps
set_option linter.unusedVariables false
set_option maxRecDepth 20000

/-- Both disks, apart, laid since w0. -/
def Tw (w0 : World) (q r : Nat) (s1 s2 : Ds) (W : World) : Prop := ∃ F G, Dk W q s1 F ∧ Rk W r s2 G ∧ (∀ k, F k → ¬ G k) ∧ (∀ k, F k → w0.heap.size ≤ k) ∧ (∀ k, G k → w0.heap.size ≤ k) ∧ Below w0.heap.size w0 W
section
variable {w0 W W' : World} {q r : Nat} {s1 s2 s1' s2' : Ds}
theorem Tw.b (h : Tw w0 q r s1 s2 W) : Below w0.heap.size w0 W := by obtain ⟨F, G, -, -, -, -, -, hb⟩ := h; exact hb
theorem Tw.below (h : Tw w0 q r s1 s2 W) (hb : Below W.heap.size W W') : Tw w0 q r s1 s2 W' := by
  obtain ⟨F, G, hd, hr, h1, h2, h3, hb0⟩ := h
  exact ⟨F, G, hd.below hb, hr.below hb, h1, h2, h3, hb0.trans (hb.mono hb0.size)⟩
theorem tw_of {F G : Nat → Prop} (h2 : ∀ k, F k → w0.heap.size ≤ k) (h3 : ∀ k, G k → w0.heap.size ≤ k) (hb : Below w0.heap.size w0 W) (h : Du W F G q r s1' s2' W') : Tw w0 q r s1' s2' W' := by
  obtain ⟨⟨F', G', hd, hr, h1, h4, h5⟩, ht⟩ := h
  exact ⟨F', G', hd, hr, h1, fun k hk => (h4 k hk).elim (h2 k) (fun h => Nat.le_trans hb.size h), fun k hk => (h5 k hk).elim (h3 k) (fun h => Nat.le_trans hb.size h), hb.trans (ht.base hb.size (fun k hk => hk.elim (h2 k) (h3 k)))⟩
theorem tw_call {f : FuncId} {args : Array Value} {v : Value} (h : Tw w0 q r s1 s2 W) (hc : ∀ F G, Du W F G q r s1 s2 W → Calls Try.prog f args W (fun e W' => e = .returned v ∧ Du W F G q r s1' s2' W')) : Calls Try.prog f args W (fun e W' => e = .returned v ∧ Tw w0 q r s1' s2' W') := by
  obtain ⟨F, G, hd, hr, h1, h2, h3, hb⟩ := h
  exact (hc F G (Du.start hd hr h1)).mono fun e W' ⟨he, hdu⟩ => ⟨he, tw_of h2 h3 hb hdu⟩
theorem tw_do {st : Ds} {Wp : World} (h : Tw w0 q r st st Wp) (ac : Dc) {x : Option Addr} {cx : Nat} (hb : Bys w0 x ac.l.length cx ac.l) (hnm : ac.nm.length ≤ 9223372036854775807) (hnn : ac.n ≤ 9223372036854775807) (hl : ac.l.length ≤ 20000) {s' : Ds} (hs : (st.act ac).2 = s') (o : Obj) :
    Calls Try.prog 17 #[.pointer (some ⟨q, 0, none⟩), .pointer (some ⟨r, 0, none⟩), .agg #[.int .i64 ac.kd, .string (text ac.nm), .slice x ac.l.length cx, .int .i64 ac.n, .int .i64 ac.kp]] (Wp.alloc o) (fun e W' => e = .returned (.bool true) ∧ Tw w0 q r s' s' W' ∧ W'.heap[Wp.heap.size]? = (Wp.alloc o).heap[Wp.heap.size]?) := by
  subst hs
  obtain ⟨F, G, hd, hr, h1, h2, h3, hb0⟩ := h
  have hal := alloc_below Wp o
  refine (ddo_c (hd.below hal) (hr.below hal) h1 ac (hb.below (hb0.trans (hal.mono hb0.size))) (fun h0 b off e => ?_) hnm hnn hl).mono fun e W' ⟨he, hdu⟩ => ⟨he, tw_of h2 h3 (hb0.trans (hal.mono hb0.size)) hdu, hdu.tr.block _ (by simp) (fun hk => hk.elim (fun h => by have := hd.lt h; omega) (fun h => by have := hr.lt h; omega))⟩
  have := hb.blk_lt h0 e
  exact ⟨fun hf => by have := h2 b hf; omega, fun hg => by have := h3 b hg; omega⟩
theorem tw_same {st : Ds} (h : Tw w0 q r st st W) : Calls Try.prog 18 #[.pointer (some ⟨q, 0, none⟩), .pointer (some ⟨r, 0, none⟩)] W (fun e W' => e = .returned (.bool true) ∧ Tw w0 q r st st W' ∧ Below W.heap.size W W') := by
  have h0 := h
  obtain ⟨F, G, hd, hr, h1, h2, h3, hb0⟩ := h
  exact (dsame_c hd hr).mono fun e W' ⟨he, hb⟩ => ⟨he, h0.below hb, hb⟩
theorem tw_read (h : Tw w0 q r s1 s2 W) (nm : List UInt8) (hn : nm.length ≤ 9223372036854775807) {l : List UInt8} {E : Int} (hl : (s1.read nm).1.getD [] = l) (hE : (s1.read nm).2 = E) : Calls Try.prog 19 #[.pointer (some ⟨q, 0, none⟩), .string (text nm)] W (fun e W' => RdOut W l E e W' ∧ Tw w0 q r s1 s2 W') := by
  subst hl hE
  have h0 := h
  obtain ⟨F, G, hd, hr, h1, h2, h3, hb0⟩ := h
  exact (dread_c hd nm hn).mono fun e W' hp => ⟨rd_out hp, h0.below (by obtain ⟨v, -, hb, -⟩ := hp; exact hb)⟩
theorem tw_rread (h : Tw w0 q r s1 s2 W) (nm : List UInt8) {l : List UInt8} {E : Int} (hl : (s2.read nm).1.getD [] = l) (hE : (s2.read nm).2 = E) : Calls Try.prog 20 #[.pointer (some ⟨r, 0, none⟩), .string (text nm)] W (fun e W' => RdOut W l E e W' ∧ Tw w0 q r s1 s2 W') := by
  subst hl hE
  have h0 := h
  obtain ⟨F, G, hd, hr, h1, h2, h3, hb0⟩ := h
  exact (rread_c hr nm).mono fun e W' hp => ⟨rd_out hp, h0.below (by obtain ⟨v, -, hb, -⟩ := hp; exact hb)⟩
end
/-- Both disks anew. -/
theorem tw_new {w w1 w2 : World} {q r : Nat} {room : Int} {F G : Nat → Prop} (hd : Dk w1 q (Ds.new room) F) (hf : ∀ k, F k → w.heap.size ≤ k) (hb : Below w.heap.size w w1) (hr : Rk w2 r (Ds.new room) G) (hg : ∀ k, G k → w1.heap.size ≤ k) (hb2 : Below w1.heap.size w1 w2) : Tw w q r (Ds.new room) (Ds.new room) w2 :=
  ⟨F, G, hd.below hb2, hr, fun k hk h => (by have := hd.lt hk; have := hg k h; omega), hf, fun k hk => Nat.le_trans hb.size (hg k hk), hb.trans (hb2.mono hb.size)⟩
/-- What acts make of a disk. -/
def Ds.acts (st : Ds) (L : List Dc) : Ds := L.foldl (fun s a => (s.act a).2) st
theorem acts_snoc (st : Ds) {L : List Dc} {j : Nat} (hj : j < L.length) : st.acts (L.take (j + 1)) = ((st.acts (L.take j)).act (L.getD j Dc.zero)).2 := by
  unfold Ds.acts
  rw [takeDc_snoc hj, List.foldl_append]
  rfl
set_option maxRecDepth 100000 in
set_option maxHeartbeats 12800000 in
theorem dplays_walk {w : World} (room : Int) {a : Option Addr} {m cap : Nat} {L : List Dc} (hl : Dcs w a m cap L) (nn : List UInt8) (hnn : nn.length ≤ 9223372036854775807) : Calls Try.prog 3 #[.int .i64 room, .slice a m cap, .string (text nn)] w (Tells (.bool true) w) := by
  have hle := hl.le
  have hmax := hl.max
  have HLN := Lib.hid hl.len
  have HL := Lib.hid hl
  obtain ⟨gb, hgb⟩ : ∃ b, goodNm nn = b := ⟨_, rfl⟩
  have HG1 := Lib.hid (fun W => dgood_c nn hnn W)
  have HG2 := Lib.hid (fun W => rgood_c nn hnn W)
  rw [hgb] at HG1 HG2
  obtain ⟨nl, hnl⟩ : ∃ z, nn.length = z := ⟨_, rfl⟩
  have hsz : ((text nn).size : Int) = (nl : Int) := by rw [text_sizeD, hnl]
  obtain ⟨tn, htn⟩ : ∃ z, text nn = z := ⟨_, rfl⟩
  rw [htn] at HG1 HG2 hsz ⊢
  have hgg : (gb != gb) = false := by simp
  clear hl hgb htn hnl hnn
  by_cases hbad : room < 0 ∨ 1073741824 < room
  · have HN := Lib.hid (fun W => dnew_bad room W hbad)
    have HRN := Lib.hid (fun W => rnew_bad room W hbad)
    clear hbad
    obtain ⟨d, hd⟩ : ∃ d, decide ((nl : Int) < 1000) = d := ⟨_, rfl⟩
    cases d
    · go_enter Try.func3, Try.ntmps3
      go_wp2_with (first
        | (go_at_call 11; (with_reducible refine (HN.out _).mono ?_); rintro e1 w1 ⟨rfl, rfl⟩)
        | (go_at_call 12; (with_reducible refine (HRN.out _).mono ?_); rintro e2 w2 ⟨rfl, rfl⟩)
        | (go_at_call 16; (with_reducible refine (dlives_c _).mono ?_); rintro e8 w8 ⟨rfl, hb8⟩))
      go_ret
      exact ⟨rfl, hb8⟩
    · go_enter Try.func3, Try.ntmps3
      go_wp2_with (first
        | (go_at_call 11; (with_reducible refine (HN.out _).mono ?_); rintro e1 w1 ⟨rfl, rfl⟩)
        | (go_at_call 12; (with_reducible refine (HRN.out _).mono ?_); rintro e2 w2 ⟨rfl, rfl⟩)
        | (go_at_call 13; (with_reducible refine (HG1.out _).mono ?_); rintro e3 w3 ⟨rfl, hb3⟩; have HB3 := Lib.hid hb3; clear hb3)
        | (go_at_call 14; (with_reducible refine (HG2.out _).mono ?_); rintro e4 w4 ⟨rfl, rfl⟩)
        | (go_at_call 16; (with_reducible refine (dlives_c _).mono ?_); rintro e8 w8 ⟨rfl, hb8⟩))
      go_ret
      exact ⟨rfl, HB3.out.trans (hb8.mono HB3.out.size)⟩
  · have HN := Lib.hid (fun W => dnew_c room W (by omega) (by omega))
    have HRN := Lib.hid (fun W => rnew_c room W (by omega) (by omega))
    clear hbad
    obtain ⟨d, hd⟩ : ∃ d, decide ((nl : Int) < 1000) = d := ⟨_, rfl⟩
    have HLT := Lib.hid (fun W (hW : Below w.heap.size w W) => dlight_c (HL.out.below hW))
    cases d
    · go_enter Try.func3, Try.ntmps3
      go_upto_region 4 with (first
        | (go_at_call 11; (with_reducible refine (HN.out _).mono ?_); rintro e1 w1 ⟨q, rfl, F1, hd1, hf1, hb1⟩; have HD1 := Lib.hid hd1; have HF1 := Lib.hid hf1; have HB1 := Lib.hid hb1; clear hd1 hf1 hb1)
        | (go_at_call 12; (with_reducible refine (HRN.out _).mono ?_); rintro e2 w2 ⟨r, rfl, G2, hr2, hg2, hb2⟩; have HT2 := Lib.hid (tw_new HD1.out HF1.out HB1.out hr2 hg2 hb2); clear hr2 hg2 hb2))
      have HT3 := HT2
      go_upto_region 5 with (go_at_call 15; (with_reducible refine (HLT.out _ HT3.out.b).mono ?_); rintro e5 w5 ⟨b5, rfl, hb5, hB5⟩; have HT5 := Lib.hid (HT3.out.below hB5); have HLI := Lib.hid hb5; clear hB5 hb5; cases b5)
      · go_wp2_with (go_at_call 16; (with_reducible refine (dlives_c _).mono ?_); rintro e8 w8 ⟨rfl, hb8⟩)
        go_ret
        exact ⟨rfl, HT5.out.b.trans (hb8.mono HT5.out.b.size)⟩
      · go_wp2
        go_loopw [46] (fun i wr => ∃ (j : Nat) (st : Ds), j ≤ m ∧ i = .int .i64 (j : Int) ∧ Tw w q r st st wr) (fun i _ => m - (intOf i).toNat)
        case atStart => exact ⟨0, _, by omega, rfl, HT5.out⟩
        case round =>
          obtain ⟨j, st, hj, rfl, ht⟩ := hrel
          have HT := Lib.hid ht
          clear ht
          by_cases hlt : j < m
          · have hji : (j : Int) < (m : Int) := by omega
            have hjc : (j : Int) < (cap : Int) := by omega
            obtain ⟨bl, off, x, c, rfl, hy, hk1, hn1, hat⟩ := HL.out.place hlt
            have hml : (L.getD j Dc.zero).l.length ≤ 20000 := HLI.out (by first | rfl | trivial) _ (by
              rw [List.getD_eq_getElem?_getD, List.getElem?_eq_getElem (by rw [HLN.out]; exact hlt)]
              exact List.getElem_mem _)
            obtain ⟨c0, c1, c2, c3, c4⟩ := hat wr HT.out.b
            obtain ⟨A, hA⟩ : ∃ z, L.getD j Dc.zero = z := ⟨_, rfl⟩
            rw [hA] at hy hk1 hn1 hml c0 c1 c2 c3 c4
            obtain ⟨s', hs'⟩ : ∃ z, (st.act A).2 = z := ⟨_, rfl⟩
            have HDO := Lib.hid (fun o => tw_do HT.out A hy hk1 hn1.2 hml hs' o)
            have HNA := Lib.hid (And.intro hk1 hs')
            have HJM := Lib.hid hlt
            have HAA := Lib.hid hA
            obtain ⟨tx, htx⟩ : ∃ z, text A.nm = z := ⟨_, rfl⟩
            have HTX := Lib.hid htx
            obtain ⟨al, hal⟩ : ∃ z, A.l.length = z := ⟨_, rfl⟩
            obtain ⟨kd, hkd⟩ : ∃ z, A.kd = z := ⟨_, rfl⟩
            obtain ⟨an, han⟩ : ∃ z, A.n = z := ⟨_, rfl⟩
            obtain ⟨ak, hak⟩ : ∃ z, A.kp = z := ⟨_, rfl⟩
            rw [htx, hal, hkd, han, hak] at HDO
            rw [htx] at c1
            rw [hal] at c2
            rw [hkd] at c0
            rw [han] at c3
            rw [hak] at c4
            clear hat hy hk1 hn1 hml hA hs' htx hal hkd han hak hlt
            have hbx := alloc_below wr (.cells #[.int .i64 kd, .string tx, .slice x al c, .int .i64 an, .int .i64 ak] 32)
            have hxx := heap_alloc_new wr (.cells #[.int .i64 kd, .string tx, .slice x al c, .int .i64 an, .int .i64 ak] 32)
            have HT1 := Lib.hid (HT.out.below hbx)
            go_upto_region 9 with (fail)
            obtain ⟨gx, hgx⟩ : ∃ z, wr.heap.size = z := ⟨_, rfl⟩
            have HDO := Lib.hid (HDO.out (.cells #[.int .i64 kd, .string tx, .slice x al c, .int .i64 an, .int .i64 ak] 32))
            rw [hxx, hgx] at HDO
            rw [hgx] at hxx ⊢
            clear c0 c1 c2 c3 c4 hbx hgx
            generalize wr.alloc (.cells #[.int .i64 kd, .string tx, .slice x al c, .int .i64 an, .int .i64 ak] 32) = W1 at *
            have HXX := Lib.hid hxx
            have x0 : W1.cell? ⟨gx, 0, none⟩ = some (.int .i64 kd) := by rw [cell_of_row _ gx 0 _ _ (0, 0) hxx]; rfl
            have x1 : W1.cell? ⟨gx, 1, none⟩ = some (.string tx) := by rw [cell_of_row _ gx 1 _ _ (0, 0) hxx]; rfl
            have x2 : W1.cell? ⟨gx, 2, none⟩ = some (.slice x al c) := by rw [cell_of_row _ gx 2 _ _ (0, 0) hxx]; rfl
            have x3 : W1.cell? ⟨gx, 3, none⟩ = some (.int .i64 an) := by rw [cell_of_row _ gx 3 _ _ (0, 0) hxx]; rfl
            have x4 : W1.cell? ⟨gx, 4, none⟩ = some (.int .i64 ak) := by rw [cell_of_row _ gx 4 _ _ (0, 0) hxx]; rfl
            clear hxx
            obtain ⟨E, hE⟩ : ∃ z, (s'.read A.nm).2 = z := ⟨_, rfl⟩
            obtain ⟨l, hl⟩ : ∃ z, (s'.read A.nm).1.getD [] = z := ⟨_, rfl⟩
            obtain ⟨ll, hll⟩ : ∃ z, l.length = z := ⟨_, rfl⟩
            have HLL := Lib.hid hll
            have HR1 := Lib.hid (fun W (h : Tw w q r s' s' W) => tw_read h A.nm HNA.out.1 hl hE)
            have HR2 := Lib.hid (fun W (h : Tw w q r s' s' W) => tw_rread h A.nm hl hE)
            rw [HTX.out] at HR1 HR2
            clear hE hl hll
            go_upto_region 11 with (first
              | (go_at_call 17; (with_reducible refine HDO.out.mono ?_); rintro e3 w3 ⟨rfl, ht3, hx3⟩; have HT3 := Lib.hid ht3; have HX3 := Lib.hid hx3; clear ht3 hx3)
              | (go_at_call 18; (with_reducible refine (tw_same HT3.out).mono ?_); rintro e4 w4 ⟨rfl, ht4, hb4⟩; have HT4 := Lib.hid ht4; have HX4 := Lib.hid ((hb4.block _ (Array.getElem?_eq_some_iff.1 HX3.out).1).trans HX3.out); clear ht4 hb4))
            clear x0 x1 x2 x3 x4
            have x1 : w4.cell? ⟨gx, 1, none⟩ = some (.string tx) := by rw [cell_of_row _ gx 1 _ _ (0, 0) HX4.out]; rfl
            go_upto_region 12 with (go_at_call 19; (with_reducible refine (HR1.out _ HT4.out).mono ?_); rintro e5 w6 ⟨⟨a5, m5, c5, rfl, hm5, hb5, hy5, -, -, hl5⟩, ht5⟩; rw [HLL.out] at hm5; subst hm5; have HY5 := Lib.hid hy5; have HT6 := Lib.hid ht5; have HX6 := Lib.hid ((hb5.block _ (Array.getElem?_eq_some_iff.1 HX4.out).1).trans HX4.out); clear hb5 hy5 hl5 ht5)
            clear x1
            have x1 : w6.cell? ⟨gx, 1, none⟩ = some (.string tx) := by rw [cell_of_row _ gx 1 _ _ (0, 0) HX6.out]; rfl
            go_upto_region 13 with (go_at_call 20; (with_reducible refine (HR2.out _ HT6.out).mono ?_); rintro e7 w7 ⟨⟨a6, m6, c6, rfl, hm6, hb6, hy6, -, -, hl6⟩, ht7⟩; rw [HLL.out] at hm6; subst hm6; have HY5' := Lib.hid (HY5.out.below hb6); have HY6 := Lib.hid hy6; have HT7 := Lib.hid ht7; clear hb6 hy6 hl6 ht7)
            clear x1
            have cv1 : (convert 30 9 (.slice a5 m6 c5)).run Try.prog w7 = .ok (.string (text l)) w7 := conv_bys HY5'.out Try.underlying30 Try.underlying5 Try.underlying9
            have cv2 : (convert 30 9 (.slice a6 m6 c6)).run Try.prog w7 = .ok (.string (text l)) w7 := conv_bys HY6.out Try.underlying30 Try.underlying5 Try.underlying9
            obtain ⟨tl, htl⟩ : ∃ z, text l = z := ⟨_, rfl⟩
            rw [htl] at cv1 cv2
            have hee : (E != E) = false := by simp
            have hss : (tl.toList == tl.toList) = true := by simp
            clear htl
            go_wp2
            go_roundw
            case rel => exact ⟨j + 1, s', HJM.out, by go_num, HT7.out⟩
            case measure => simp [intOf]; have := HJM.out; omega
          · obtain rfl : j = m := by omega
            go_wp2_with (go_at_call 16; (with_reducible refine (dlives_c _).mono ?_); rintro e8 w8 ⟨rfl, hb8⟩)
            go_ret
            exact ⟨rfl, HT.out.b.trans (hb8.mono HT.out.b.size)⟩
    · go_enter Try.func3, Try.ntmps3
      go_upto_region 4 with (first
        | (go_at_call 11; (with_reducible refine (HN.out _).mono ?_); rintro e1 w1 ⟨q, rfl, F1, hd1, hf1, hb1⟩; have HD1 := Lib.hid hd1; have HF1 := Lib.hid hf1; have HB1 := Lib.hid hb1; clear hd1 hf1 hb1)
        | (go_at_call 12; (with_reducible refine (HRN.out _).mono ?_); rintro e2 w2 ⟨r, rfl, G2, hr2, hg2, hb2⟩; have HT2 := Lib.hid (tw_new HD1.out HF1.out HB1.out hr2 hg2 hb2); clear hr2 hg2 hb2)
        | (go_at_call 13; (with_reducible refine (HG1.out _).mono ?_); rintro e3 w3 ⟨rfl, hb3⟩; have HT3 := Lib.hid (HT2.out.below hb3); clear hb3)
        | (go_at_call 14; (with_reducible refine (HG2.out _).mono ?_); rintro e4 w4 ⟨rfl, rfl⟩))
      skip
      go_upto_region 5 with (go_at_call 15; (with_reducible refine (HLT.out _ HT3.out.b).mono ?_); rintro e5 w5 ⟨b5, rfl, hb5, hB5⟩; have HT5 := Lib.hid (HT3.out.below hB5); have HLI := Lib.hid hb5; clear hB5 hb5; cases b5)
      · go_wp2_with (go_at_call 16; (with_reducible refine (dlives_c _).mono ?_); rintro e8 w8 ⟨rfl, hb8⟩)
        go_ret
        exact ⟨rfl, HT5.out.b.trans (hb8.mono HT5.out.b.size)⟩
      · go_wp2
        go_loopw [46] (fun i wr => ∃ (j : Nat) (st : Ds), j ≤ m ∧ i = .int .i64 (j : Int) ∧ Tw w q r st st wr) (fun i _ => m - (intOf i).toNat)
        case atStart => exact ⟨0, _, by omega, rfl, HT5.out⟩
        case round =>
          obtain ⟨j, st, hj, rfl, ht⟩ := hrel
          have HT := Lib.hid ht
          clear ht
          by_cases hlt : j < m
          · have hji : (j : Int) < (m : Int) := by omega
            have hjc : (j : Int) < (cap : Int) := by omega
            obtain ⟨bl, off, x, c, rfl, hy, hk1, hn1, hat⟩ := HL.out.place hlt
            have hml : (L.getD j Dc.zero).l.length ≤ 20000 := HLI.out (by first | rfl | trivial) _ (by
              rw [List.getD_eq_getElem?_getD, List.getElem?_eq_getElem (by rw [HLN.out]; exact hlt)]
              exact List.getElem_mem _)
            obtain ⟨c0, c1, c2, c3, c4⟩ := hat wr HT.out.b
            obtain ⟨A, hA⟩ : ∃ z, L.getD j Dc.zero = z := ⟨_, rfl⟩
            rw [hA] at hy hk1 hn1 hml c0 c1 c2 c3 c4
            obtain ⟨s', hs'⟩ : ∃ z, (st.act A).2 = z := ⟨_, rfl⟩
            have HDO := Lib.hid (fun o => tw_do HT.out A hy hk1 hn1.2 hml hs' o)
            have HNA := Lib.hid (And.intro hk1 hs')
            have HJM := Lib.hid hlt
            have HAA := Lib.hid hA
            obtain ⟨tx, htx⟩ : ∃ z, text A.nm = z := ⟨_, rfl⟩
            have HTX := Lib.hid htx
            obtain ⟨al, hal⟩ : ∃ z, A.l.length = z := ⟨_, rfl⟩
            obtain ⟨kd, hkd⟩ : ∃ z, A.kd = z := ⟨_, rfl⟩
            obtain ⟨an, han⟩ : ∃ z, A.n = z := ⟨_, rfl⟩
            obtain ⟨ak, hak⟩ : ∃ z, A.kp = z := ⟨_, rfl⟩
            rw [htx, hal, hkd, han, hak] at HDO
            rw [htx] at c1
            rw [hal] at c2
            rw [hkd] at c0
            rw [han] at c3
            rw [hak] at c4
            clear hat hy hk1 hn1 hml hA hs' htx hal hkd han hak hlt
            have hbx := alloc_below wr (.cells #[.int .i64 kd, .string tx, .slice x al c, .int .i64 an, .int .i64 ak] 32)
            have hxx := heap_alloc_new wr (.cells #[.int .i64 kd, .string tx, .slice x al c, .int .i64 an, .int .i64 ak] 32)
            have HT1 := Lib.hid (HT.out.below hbx)
            go_upto_region 9 with (fail)
            obtain ⟨gx, hgx⟩ : ∃ z, wr.heap.size = z := ⟨_, rfl⟩
            have HDO := Lib.hid (HDO.out (.cells #[.int .i64 kd, .string tx, .slice x al c, .int .i64 an, .int .i64 ak] 32))
            rw [hxx, hgx] at HDO
            rw [hgx] at hxx ⊢
            clear c0 c1 c2 c3 c4 hbx hgx
            generalize wr.alloc (.cells #[.int .i64 kd, .string tx, .slice x al c, .int .i64 an, .int .i64 ak] 32) = W1 at *
            have HXX := Lib.hid hxx
            have x0 : W1.cell? ⟨gx, 0, none⟩ = some (.int .i64 kd) := by rw [cell_of_row _ gx 0 _ _ (0, 0) hxx]; rfl
            have x1 : W1.cell? ⟨gx, 1, none⟩ = some (.string tx) := by rw [cell_of_row _ gx 1 _ _ (0, 0) hxx]; rfl
            have x2 : W1.cell? ⟨gx, 2, none⟩ = some (.slice x al c) := by rw [cell_of_row _ gx 2 _ _ (0, 0) hxx]; rfl
            have x3 : W1.cell? ⟨gx, 3, none⟩ = some (.int .i64 an) := by rw [cell_of_row _ gx 3 _ _ (0, 0) hxx]; rfl
            have x4 : W1.cell? ⟨gx, 4, none⟩ = some (.int .i64 ak) := by rw [cell_of_row _ gx 4 _ _ (0, 0) hxx]; rfl
            clear hxx
            obtain ⟨E, hE⟩ : ∃ z, (s'.read A.nm).2 = z := ⟨_, rfl⟩
            obtain ⟨l, hl⟩ : ∃ z, (s'.read A.nm).1.getD [] = z := ⟨_, rfl⟩
            obtain ⟨ll, hll⟩ : ∃ z, l.length = z := ⟨_, rfl⟩
            have HLL := Lib.hid hll
            have HR1 := Lib.hid (fun W (h : Tw w q r s' s' W) => tw_read h A.nm HNA.out.1 hl hE)
            have HR2 := Lib.hid (fun W (h : Tw w q r s' s' W) => tw_rread h A.nm hl hE)
            rw [HTX.out] at HR1 HR2
            clear hE hl hll
            go_upto_region 11 with (first
              | (go_at_call 17; (with_reducible refine HDO.out.mono ?_); rintro e3 w3 ⟨rfl, ht3, hx3⟩; have HT3 := Lib.hid ht3; have HX3 := Lib.hid hx3; clear ht3 hx3)
              | (go_at_call 18; (with_reducible refine (tw_same HT3.out).mono ?_); rintro e4 w4 ⟨rfl, ht4, hb4⟩; have HT4 := Lib.hid ht4; have HX4 := Lib.hid ((hb4.block _ (Array.getElem?_eq_some_iff.1 HX3.out).1).trans HX3.out); clear ht4 hb4))
            clear x0 x1 x2 x3 x4
            have x1 : w4.cell? ⟨gx, 1, none⟩ = some (.string tx) := by rw [cell_of_row _ gx 1 _ _ (0, 0) HX4.out]; rfl
            go_upto_region 12 with (go_at_call 19; (with_reducible refine (HR1.out _ HT4.out).mono ?_); rintro e5 w6 ⟨⟨a5, m5, c5, rfl, hm5, hb5, hy5, -, -, hl5⟩, ht5⟩; rw [HLL.out] at hm5; subst hm5; have HY5 := Lib.hid hy5; have HT6 := Lib.hid ht5; have HX6 := Lib.hid ((hb5.block _ (Array.getElem?_eq_some_iff.1 HX4.out).1).trans HX4.out); clear hb5 hy5 hl5 ht5)
            clear x1
            have x1 : w6.cell? ⟨gx, 1, none⟩ = some (.string tx) := by rw [cell_of_row _ gx 1 _ _ (0, 0) HX6.out]; rfl
            go_upto_region 13 with (go_at_call 20; (with_reducible refine (HR2.out _ HT6.out).mono ?_); rintro e7 w7 ⟨⟨a6, m6, c6, rfl, hm6, hb6, hy6, -, -, hl6⟩, ht7⟩; rw [HLL.out] at hm6; subst hm6; have HY5' := Lib.hid (HY5.out.below hb6); have HY6 := Lib.hid hy6; have HT7 := Lib.hid ht7; clear hb6 hy6 hl6 ht7)
            clear x1
            have cv1 : (convert 30 9 (.slice a5 m6 c5)).run Try.prog w7 = .ok (.string (text l)) w7 := conv_bys HY5'.out Try.underlying30 Try.underlying5 Try.underlying9
            have cv2 : (convert 30 9 (.slice a6 m6 c6)).run Try.prog w7 = .ok (.string (text l)) w7 := conv_bys HY6.out Try.underlying30 Try.underlying5 Try.underlying9
            obtain ⟨tl, htl⟩ : ∃ z, text l = z := ⟨_, rfl⟩
            rw [htl] at cv1 cv2
            have hee : (E != E) = false := by simp
            have hss : (tl.toList == tl.toList) = true := by simp
            clear htl
            go_wp2
            go_roundw
            case rel => exact ⟨j + 1, s', HJM.out, by go_num, HT7.out⟩
            case measure => simp [intOf]; have := HJM.out; omega
          · obtain rfl : j = m := by omega
            go_wp2_with (go_at_call 16; (with_reducible refine (dlives_c _).mono ?_); rintro e8 w8 ⟨rfl, hb8⟩)
            go_ret
            exact ⟨rfl, HT.out.b.trans (hb8.mono HT.out.b.size)⟩
end Go.Proofs.Ytplanmiggeghfaa
