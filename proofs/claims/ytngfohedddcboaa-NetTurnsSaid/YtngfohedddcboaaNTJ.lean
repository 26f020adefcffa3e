/-
  Net: the walk of NetOrder.
-/
import Derived.Test.YtngfohedddcboaaNTH
namespace Go.Proofs.Ytngfohedddcboaa
open Go.RowKit Go Go.Sort Go.Lib Go.Maps
set_option linter.unusedVariables false
set_option maxRecDepth 20000

/-- A net and a list of packets beside it, apart, both laid since w0. -/
def OrdN (w0 : World) (g : Nat) (st : Nt) (v : Value) (l : List Pk) (W : World) : Prop := ∃ F, Nk W 56 g st F ∧ (∀ k, F k → w0.heap.size ≤ k) ∧ OwnL 2 43 Pk.arr W w0.heap.size v l ∧ (∀ k, v.ownBlock = some k → ¬ F k) ∧ Below w0.heap.size w0 W
section
variable {w0 W W' : World} {g nn : Nat} {st : Nt} {v : Value} {l : List Pk}
theorem OrdN.b (h : OrdN w0 g st v l W) : Below w0.heap.size w0 W := by obtain ⟨F, -, -, -, -, hb⟩ := h; exact hb
theorem OrdN.below (h : OrdN w0 g st v l W) (hb : Below W.heap.size W W') : OrdN w0 g st v l W' := by
  obtain ⟨F, hd, hf, ho, ha, hb0⟩ := h
  exact ⟨F, hd.below hb, hf, ho.kept hb, ha, hb0.trans (hb.mono hb0.size)⟩
theorem OrdN.call {r : Value} {q' : Nt} {F : Nat → Prop} {e : Ending} (hf : ∀ k, F k → w0.heap.size ≤ k) (ho : OwnL 2 43 Pk.arr W w0.heap.size v l) (ha : ∀ k, v.ownBlock = some k → ¬ F k) (hb0 : Below w0.heap.size w0 W) (h : NPost 56 g F r q' W e W') : e = .returned r ∧ OrdN w0 g q' v l W' := by
  obtain ⟨he, F', hn, ht, hf'⟩ := h
  refine ⟨he, F', hn, fun k hk => (hf' k hk).elim (hf k) (fun h => Nat.le_trans hb0.size h), ho.of_block (fun k hk => ht.block k (ho.lt k hk).2 (ha k hk)), fun k hk hk' => ?_, hb0.trans (ht.base hb0.size hf)⟩
  rcases hf' k hk' with h1 | h1
  · exact ha k hk h1
  · have := (ho.lt k hk).2; omega
theorem ord_send {Wp : World} (h : OrdN w0 g st v l Wp) (hok : st.Ok nn) (hnn : nn ≤ 100000) (frm : Int) {a : Option Addr} {n cap : Nat} {d : List UInt8} (hb : Bys w0 a n cap d) (o : Obj) : Calls Try.prog 16 #[.pointer (some ⟨g, 0, none⟩), .int .i64 frm, .slice a n cap] (Wp.alloc o) (fun e W' => e = .returned (.int .i64 (st.send frm d).1) ∧ OrdN w0 g (st.send frm d).2 v l W' ∧ W'.heap[Wp.heap.size]? = (Wp.alloc o).heap[Wp.heap.size]?) := by
  obtain ⟨F, hd, hf, ho, ha, hb0⟩ := h
  have hal := alloc_below Wp o
  have hb1 := hb0.trans (hal.mono hb0.size)
  refine (nsend_c (hd.below hal) hok hnn frm (hb.below hb1)).mono fun e W' hp => ?_
  have hp2 := OrdN.call hf (ho.kept hal) ha hb1 hp
  obtain ⟨-, F', -, ht, -⟩ := hp
  exact ⟨hp2.1, hp2.2, ht.block _ (by simp) (fun hk => by have := hd.lt hk; omega)⟩
theorem ord_take {Wp : World} (h : OrdN w0 g st v l Wp) (hok : st.Ok nn) (hnn : nn ≤ 100000) (i : Int) (o : Obj) : Calls Try.prog 17 #[.pointer (some ⟨g, 0, none⟩), .int .i64 i] (Wp.alloc o) (fun e W' => e = .returned (.tuple #[.agg (st.look i).1.arr, .int .i64 (st.look i).2]) ∧ OrdN w0 g (st.took i) v l W' ∧ W'.heap[Wp.heap.size]? = (Wp.alloc o).heap[Wp.heap.size]?) := by
  obtain ⟨F, hd, hf, ho, ha, hb0⟩ := h
  have hal := alloc_below Wp o
  have hb1 := hb0.trans (hal.mono hb0.size)
  refine (ntake_c (hd.below hal) hok hnn i).mono fun e W' hp => ?_
  have hp2 := OrdN.call hf (ho.kept hal) ha hb1 hp
  obtain ⟨-, F', -, ht, -⟩ := hp
  exact ⟨hp2.1, hp2.2, ht.block _ (by simp) (fun hk => by have := hd.lt hk; omega)⟩
theorem ord_take0 (h : OrdN w0 g st v l W) (hok : st.Ok nn) (hnn : nn ≤ 100000) (i : Int) : Calls Try.prog 17 #[.pointer (some ⟨g, 0, none⟩), .int .i64 i] W (fun e W' => e = .returned (.tuple #[.agg (st.look i).1.arr, .int .i64 (st.look i).2]) ∧ OrdN w0 g (st.took i) v l W') := by
  obtain ⟨F, hd, hf, ho, ha, hb0⟩ := h
  exact (ntake_c hd hok hnn i).mono fun e W' hp => OrdN.call hf ho ha hb0 hp
theorem ord_len (h : OrdN w0 g st v l W) (hok : st.Ok nn) : Calls Try.prog 15 #[.pointer (some ⟨g, 0, none⟩)] W (fun e W' => e = .returned (.int .i64 (st.l.length : Int)) ∧ W = W') := by
  obtain ⟨F, hd, -⟩ := h
  exact nlen_c hd hok.m0
theorem ord_push {l' : List Pk} {v' : Value} {w1 : World} (h : OrdN w0 g st v l W) (hb : Below W.heap.size W w1) (ho' : OwnL 2 43 Pk.arr W' w0.heap.size v' l') (hg : w1.grownBy W' v.ownBlock) (ha' : v'.ownBlock = v.ownBlock ∨ v'.ownBlock = some w1.heap.size) : OrdN w0 g st v' l' W' := by
  obtain ⟨F, hd, hf, ho, ha, hb0⟩ := h.below hb
  refine ⟨F, hd.keep fun k hk => hg.block k (hd.lt hk) (fun e => ha k e.symm hk), hf, ho', fun k hk hk' => ?_, hb0.grown hg hb0.size (fun k hk => (ho.lt k hk).1)⟩
  rcases ha' with h1 | h1
  · exact ha k (by rw [← h1]; exact hk) hk'
  · rw [h1] at hk
    injection hk with hk
    have := hd.lt hk'
    omega
/-- A packet of the list beside it. -/
theorem OrdN.pk (h : OrdN w0 g st v l W) {k : Nat} (hk : k < l.length) : ∃ b cap, v = .slice (some ⟨b, 0, none⟩) l.length cap ∧ l.length ≤ cap ∧ W.cell? ⟨b, k * 2, none⟩ = some (.int .i64 (l.getD k Pk.zero).frm) ∧ W.cell? ⟨b, k * 2 + 1, none⟩ = some (.string (text (l.getD k Pk.zero).s)) := by
  obtain ⟨F, -, -, ho, -, -⟩ := h
  rcases ho.2 with ⟨rfl, hn⟩ | ⟨b, cap, cur, rfl, -, hg, hnc, hcm, hcs, htake⟩
  · omega
  · have key : ∀ j u, (Pk.arr (l.getD k Pk.zero))[j]? = some u → j < 2 → W.cell? ⟨b, k * 2 + j, none⟩ = some u := fun j u hj hjs => by
      have c1 := lCells_get (z := Pk.zero) pk_size l k j hk hjs
      rw [← htake, List.getElem?_take, if_pos (by omega)] at c1
      rw [cell_of_row W b _ cur _ (0, 0) hg, ← hj, ← c1]
      simp
    exact ⟨b, cap, rfl, hnc, key 0 _ rfl (by decide), key 1 _ rfl (by decide)⟩
end
theorem Nt.send_ok {q : Nt} {frm : Int} {d : List UInt8} (h : (q.send frm d).1 = 0) : (q.send frm d).2.l = q.l ++ [⟨frm, d⟩] := by
  unfold Nt.send at h ⊢
  split at h
  · cases h
  · rename_i h1
    split at h
    · cases h
    · rename_i h2
      split at h
      · cases h
      · rename_i h3
        rw [if_neg h1, if_neg h2, if_neg h3]
theorem Nt.send_no {q : Nt} {frm : Int} {d : List UInt8} (h : (q.send frm d).1 ≠ 0) : (q.send frm d).2 = q := by
  unfold Nt.send at h ⊢
  split
  · rfl
  · rename_i h1
    rw [if_neg h1] at h
    split
    · rfl
    · rename_i h2
      rw [if_neg h2] at h
      split
      · rfl
      · rename_i h3
        rw [if_neg h3] at h
        exact absurd rfl h
theorem nt_took0 {q : Nt} {l : List Pk} {k : Nat} (h : q.l = l.drop k) (hk : k < l.length) : q.look 0 = (l.getD k Pk.zero, 0) ∧ (q.took 0).l = l.drop (k + 1) := by
  have hlen : q.l.length = l.length - k := by rw [h, List.length_drop]
  have hh : q.has 0 := ⟨by omega, by omega⟩
  have hd : l.drop k = l.getD k Pk.zero :: l.drop (k + 1) := by
    rw [List.getD_eq_getElem?_getD, List.getElem?_eq_getElem hk]
    exact List.drop_eq_getElem_cons hk
  constructor
  · unfold Nt.look
    rw [if_pos hh]
    unfold Nt.get
    rw [h, hd]
    rfl
  · unfold Nt.took
    rw [if_pos hh]
    unfold Nt.rest
    rw [h, hd]
    rfl
theorem nt_end {q : Nt} (h : q.l = []) : q.look 0 = (Pk.zero, 211) ∧ q.took 0 = q := by
  have hh : ¬ q.has 0 := fun h2 => by have := h2.2; rw [h] at this; simp at this
  exact ⟨by unfold Nt.look; rw [if_neg hh], by unfold Nt.took; rw [if_neg hh]⟩
set_option maxRecDepth 100000 in
set_option maxHeartbeats 12800000 in
theorem norder_walk {w : World} {a : Option Addr} {m cap : Nat} {L : List Na} (hl : Nas w a m cap L) : Calls Try.prog 5 #[.slice a m cap] w (Tells (.bool true) w) := by
  have hle := hl.le
  have hmax := hl.max
  have HLN := Lib.hid hl.len
  have HL := Lib.hid hl
  have HLV := Lib.hid (fun W => nlives_c W)
  clear hl
  have HN := Lib.hid (fun W => nnew_c 64 W (by omega) (by omega))
  have HOK0 := Lib.hid (nt_new_ok (k := 64) (by omega) (by omega))
  have HLT := Lib.hid (fun W (hW : Below w.heap.size w W) => nlight_c (HL.out.below hW))
  go_enter Try.func5, Try.ntmps5
  go_upto_region 2 with (go_at_call 8; (with_reducible refine (HN.out _).mono ?_); rintro e1 w1 ⟨g, rfl, F1, hd1, hf1, hb1⟩; have HT1 := Lib.hid (show OrdN w g (Nt.new 64) (.slice none 0 0) [] w1 from ⟨F1, hd1, hf1, OwnL.nil _ _ _, fun k hk => by (cases hk), hb1⟩); clear hd1 hf1 hb1)
  go_upto_region 3 with (go_at_call 10; (with_reducible refine (HLT.out _ HT1.out.b).mono ?_); rintro e5 w5 ⟨b5, rfl, hb5, hB5⟩; have HT5 := Lib.hid (HT1.out.below hB5); have HLI := Lib.hid hb5; clear hB5 hb5; cases b5)
  · go_wp2_with (go_at_call 11; (with_reducible refine (HLV.out _).mono ?_); rintro e8 w8 ⟨rfl, hb8⟩)
    go_ret
    exact ⟨rfl, HT5.out.b.trans (hb8.mono HT5.out.b.size)⟩
  · go_wp2
    go_loopw [28, 4] (fun i v wr => ∃ (j : Nat) (st : Nt) (v0 : Value), j ≤ m ∧ i = .int .i64 (j : Int) ∧ v0 = v ∧ OrdN w g st v0 st.l wr ∧ st.Ok j) (fun i _ _ => m - (RowKit.intOf i).toNat)
    case atStart => exact ⟨0, _, _, by omega, rfl, rfl, HT5.out, HOK0.out⟩
    case round =>
      obtain ⟨j, st, v0, hj, rfl, hv0, ht, hok⟩ := hrel
      subst hv0
      have HT := Lib.hid ht
      have HOK := Lib.hid hok
      clear ht hok
      by_cases hlt : j < m
      · have hji : (j : Int) < (m : Int) := by omega
        have hjc : (j : Int) < (cap : Int) := by omega
        obtain ⟨bl, off, x, c, rfl, hy, -, -, hat⟩ := HL.out.place hlt
        obtain ⟨c0, c1, c2, c3, c4, c5⟩ := hat wr HT.out.b
        obtain ⟨A, hA⟩ : ∃ z, L.getD j Na.zero = z := ⟨_, rfl⟩
        rw [hA] at hy c0 c1 c2 c3 c4 c5
        have HY := Lib.hid hy
        have hml := (HLI.out (by first | rfl | trivial)).1
        have HSD := Lib.hid (fun (Wp : World) (h : OrdN w g st v0 st.l Wp) o => ord_send h HOK.out (by omega) A.frm hy o)
        have HOK' := Lib.hid (HOK.out.send A.frm A.l)
        have HML := Lib.hid (show st.l.length ≤ 64 from by have := HOK.out.len; have := HOK.out.m1; omega)
        obtain ⟨s', hs'⟩ : ∃ z, (st.send A.frm A.l).2 = z := ⟨_, rfl⟩
        obtain ⟨E, hE⟩ : ∃ z, (st.send A.frm A.l).1 = z := ⟨_, rfl⟩
        have HSE := Lib.hid (And.intro hs' hE)
        have HJM := Lib.hid hlt
        rw [hs'] at HOK'
        rw [hs', hE] at HSD
        obtain ⟨al, hal⟩ : ∃ z, A.l.length = z := ⟨_, rfl⟩
        obtain ⟨kd, hkd⟩ : ∃ z, A.kd = z := ⟨_, rfl⟩
        obtain ⟨af, haf⟩ : ∃ z, A.frm = z := ⟨_, rfl⟩
        obtain ⟨ai, hai⟩ : ∃ z, A.i = z := ⟨_, rfl⟩
        obtain ⟨aa, haa⟩ : ∃ z, A.at9 = z := ⟨_, rfl⟩
        obtain ⟨az, haz⟩ : ∃ z, A.z = z := ⟨_, rfl⟩
        have HAF := Lib.hid haf
        rw [hal] at HSD HY
        rw [haf] at HSD
        rw [hkd] at c0
        rw [haf] at c1
        rw [hal] at c2
        rw [hai] at c3
        rw [haa] at c4
        rw [haz] at c5
        clear hat hy hA hs' hE hal hkd haf hai haa haz hlt hml
        have hxx := heap_alloc_new wr (.cells #[.int .i64 kd, .int .i64 af, .slice x al c, .int .i64 ai, .int .i64 aa, .int .u8 az] 31)
        go_upto_region 8 with (fail)
        obtain ⟨gx, hgx⟩ : ∃ z, wr.heap.size = z := ⟨_, rfl⟩
        have HSD2 := Lib.hid (HSD.out wr HT.out (.cells #[.int .i64 kd, .int .i64 af, .slice x al c, .int .i64 ai, .int .i64 aa, .int .u8 az] 31))
        rw [hxx, hgx] at HSD2
        rw [hgx] at hxx ⊢
        clear c0 c1 c2 c3 c4 c5 hgx HSD
        generalize wr.alloc (.cells #[.int .i64 kd, .int .i64 af, .slice x al c, .int .i64 ai, .int .i64 aa, .int .u8 az] 31) = W1 at *
        have x0 : W1.cell? ⟨gx, 0, none⟩ = some (.int .i64 kd) := by rw [cell_of_row _ gx 0 _ _ (0, 0) hxx]; rfl
        have x1 : W1.cell? ⟨gx, 1, none⟩ = some (.int .i64 af) := by rw [cell_of_row _ gx 1 _ _ (0, 0) hxx]; rfl
        have x2 : W1.cell? ⟨gx, 2, none⟩ = some (.slice x al c) := by rw [cell_of_row _ gx 2 _ _ (0, 0) hxx]; rfl
        have x3 : W1.cell? ⟨gx, 3, none⟩ = some (.int .i64 ai) := by rw [cell_of_row _ gx 3 _ _ (0, 0) hxx]; rfl
        have x4 : W1.cell? ⟨gx, 4, none⟩ = some (.int .i64 aa) := by rw [cell_of_row _ gx 4 _ _ (0, 0) hxx]; rfl
        have x5 : W1.cell? ⟨gx, 5, none⟩ = some (.int .u8 az) := by rw [cell_of_row _ gx 5 _ _ (0, 0) hxx]; rfl
        clear hxx
        by_cases hE0 : E = 0
        · subst hE0
          go_upto_region 9 with (go_at_call 16; (with_reducible refine HSD2.out.mono ?_); rintro e3 w3 ⟨rfl, ht3, hx3⟩; have HT3 := Lib.hid ht3; have HX3 := Lib.hid hx3; clear ht3 hx3)
          clear x0 x1 x2 x3 x4 x5
          have x1 : w3.cell? ⟨gx, 1, none⟩ = some (.int .i64 af) := by rw [cell_of_row _ gx 1 _ _ (0, 0) HX3.out]; rfl
          have x2 : w3.cell? ⟨gx, 2, none⟩ = some (.slice x al c) := by rw [cell_of_row _ gx 2 _ _ (0, 0) HX3.out]; rfl
          have hcv : (convert 29 9 (.slice x al c)).run Try.prog w3 = .ok (.string (text A.l)) w3 := conv_bys (HY.out.below HT3.out.b) Try.underlying29 Try.underlying5 Try.underlying9
          obtain ⟨tp, htp⟩ : ∃ z, text A.l = z := ⟨_, rfl⟩
          rw [htp] at hcv
          have HPA := Lib.hid (show Pk.arr ⟨af, A.l⟩ = #[.int .i64 af, .string tp] from by simp only [Pk.arr, htp])
          clear htp
          obtain ⟨F3, -, -, ho3, -, -⟩ := HT3.out
          have HAB := Lib.hid (alloc_below w3 (.cells #[.int .i64 af, .string tp] 43))
          have HOA := Lib.hid (ho3.kept HAB.out)
          have HPK := Lib.hid (show PkB (w3.alloc (.cells #[.int .i64 af, .string tp] 43)) w3.heap.size ⟨af, A.l⟩ from by unfold PkB; rw [HPA.out]; exact heap_alloc_new w3 _)
          have HBS := Lib.hid (show w.heap.size ≤ (w3.alloc (.cells #[.int .i64 af, .string tp] 43)).heap.size from Nat.le_trans HT3.out.b.size HAB.out.size)
          clear ho3
          go_wp2_with (at_builtin; refine wpList_append_pk rfl _ _ rfl rfl HOA.out (⟨af, A.l⟩ : Pk) rfl HPK.out (by have := HML.out; omega) HBS.out ?_; intro v9 w9 ho9 hg9 ha9; have HO9 := Lib.hid (ord_push HT3.out HAB.out ho9 hg9 ha9); clear ho9 hg9 ha9)
          go_roundw
          case rel =>
            refine ⟨j + 1, s', _, HJM.out, by go_num, rfl, ?_, HOK'.out⟩
            have h1 := Nt.send_ok (q := st) (frm := A.frm) (d := A.l) HSE.out.2
            rw [HSE.out.1, HAF.out] at h1
            rw [h1]
            exact HO9.out
          case measure => simp [RowKit.intOf]; have := HJM.out; omega
        · have hEb : (E == 0) = false := by simpa using hE0
          have HNO := Lib.hid (show s' = st from by rw [← HSE.out.1]; exact Nt.send_no (by rw [HSE.out.2]; exact hE0))
          clear hE0
          go_wp2_with (go_at_call 16; (with_reducible refine HSD2.out.mono ?_); rintro e3 w3 ⟨rfl, ht3, -⟩; have HT3 := Lib.hid ht3; clear ht3)
          go_roundw
          case rel =>
            refine ⟨j + 1, s', _, HJM.out, by go_num, rfl, ?_, HOK'.out⟩
            have := HT3.out
            rw [HNO.out] at this ⊢
            exact this
          case measure => simp [RowKit.intOf]; have := HJM.out; omega
      · obtain rfl : j = m := by omega
        have HML := Lib.hid (show st.l.length ≤ 64 from by have := HOK.out.len; have := HOK.out.m1; omega)
        have hm12 := (HLI.out (by first | rfl | trivial)).1
        obtain ⟨F3, -, -, ho3, -, -⟩ := HT.out
        obtain ⟨va, vc, ev, hls⟩ := OwnL.ls (z := Pk.zero) pk_size ho3
        have hnc := hls.le
        have hvm := hls.max
        obtain ⟨l, hll⟩ : ∃ z, st.l = z := ⟨_, rfl⟩
        have HSL := Lib.hid hll
        rw [hll] at HT HML ev hnc
        obtain ⟨n, hn⟩ : ∃ z, l.length = z := ⟨_, rfl⟩
        have HNL := Lib.hid hn
        rw [hn] at ev hnc HML
        subst ev
        clear ho3 hls hll hn
        have H12 := Lib.hid hm12
        have hn64 := HML.out
        go_wp2
        go_loopw [51] (fun i wr => ∃ (k : Nat) (s2 : Nt), k ≤ n ∧ i = .int .i64 (k : Int) ∧ OrdN w g s2 (.slice va n vc) l wr ∧ s2.l = l.drop k ∧ s2.Ok (j + k)) (fun i _ => n - (RowKit.intOf i).toNat)
        case atStart => exact ⟨0, st, by omega, rfl, HT.out, by rw [HSL.out]; rfl, HOK.out⟩
        case round =>
          obtain ⟨k, s2, hk, rfl, ht2, hl2, hok2⟩ := hrel
          have HT2 := Lib.hid ht2
          have HL2 := Lib.hid hl2
          have HOK2 := Lib.hid hok2
          clear ht2 hl2 hok2
          by_cases hlt : k < n
          · have hki : (k : Int) < (n : Int) := by omega
            have hkc : (k : Int) < (vc : Int) := by omega
            obtain ⟨b, cap2, e, -, d0, d1⟩ := HT2.out.pk (k := k) (by rw [HNL.out]; exact hlt)
            rw [HNL.out] at e
            injection e with e1 e2 e3
            subst e1 e3
            have htk := nt_took0 HL2.out (by rw [HNL.out]; exact hlt)
            have HTD := Lib.hid htk.2
            have htk1 := htk.1
            obtain ⟨p9, hp9⟩ : ∃ z, l.getD k Pk.zero = z := ⟨_, rfl⟩
            rw [hp9] at d0 d1 htk1
            obtain ⟨pf, hpf⟩ : ∃ z, p9.frm = z := ⟨_, rfl⟩
            obtain ⟨tp, htp⟩ : ∃ z, text p9.s = z := ⟨_, rfl⟩
            have HPA := Lib.hid (show p9.arr = #[.int .i64 pf, .string tp] from by simp only [Pk.arr, hpf, htp])
            rw [hpf] at d0
            rw [htp] at d1
            have HTK := Lib.hid (fun (Wp : World) (h : OrdN w g s2 (.slice (some ⟨b, 0, none⟩) n vc) l Wp) o => ord_take h HOK2.out (by have := H12.out; omega) 0 o)
            rw [htk1] at HTK
            simp only [HPA.out] at HTK
            have HOK3 := Lib.hid (HOK2.out.took 0)
            have HKN := Lib.hid hlt
            clear htk htk1 hp9 hpf htp hlt
            have hxx := heap_alloc_new wr (.cells #[.int .i64 pf, .string tp] 43)
            go_upto_region 14 with (fail)
            have HTK2 := Lib.hid (HTK.out wr HT2.out (.cells #[.int .i64 pf, .string tp] 43))
            obtain ⟨gp, hgp⟩ : ∃ z, wr.heap.size = z := ⟨_, rfl⟩
            rw [hxx, hgp] at HTK2
            rw [hgp]
            clear d0 d1 hxx HTK hgp
            generalize wr.alloc (.cells #[.int .i64 pf, .string tp] 43) = W1 at *
            go_upto_region 15 with (go_at_call 17; (with_reducible refine HTK2.out.mono ?_); rintro e3 w3 ⟨rfl, ht3, hx3⟩; have HT3 := Lib.hid ht3; have HX3 := Lib.hid hx3; clear ht3 hx3)
            have hal := alloc_below w3 (.cells #[.int .i64 pf, .string tp] 43)
            have HT4 := Lib.hid (HT3.out.below hal)
            have hx4 := (hal.block gp (Array.getElem?_eq_some_iff.1 HX3.out).1).trans HX3.out
            have hy4 := heap_alloc_new w3 (.cells #[.int .i64 pf, .string tp] 43)
            obtain ⟨gq, hgq⟩ : ∃ z, w3.heap.size = z := ⟨_, rfl⟩
            rw [hgq] at hy4 ⊢
            clear hal hgq
            generalize w3.alloc (.cells #[.int .i64 pf, .string tp] 43) = w4 at *
            have x0 : w4.cell? ⟨gp, 0, none⟩ = some (.int .i64 pf) := by rw [cell_of_row _ gp 0 _ _ (0, 0) hx4]; rfl
            have x1 : w4.cell? ⟨gp, 1, none⟩ = some (.string tp) := by rw [cell_of_row _ gp 1 _ _ (0, 0) hx4]; rfl
            have y0 : w4.cell? ⟨gq, 0, none⟩ = some (.int .i64 pf) := by rw [cell_of_row _ gq 0 _ _ (0, 0) hy4]; rfl
            have y1 : w4.cell? ⟨gq, 1, none⟩ = some (.string tp) := by rw [cell_of_row _ gq 1 _ _ (0, 0) hy4]; rfl
            have heq : (pf == pf && tp.toList == tp.toList) = true := by simp
            have hne : (!(pf == pf && tp.toList == tp.toList)) = false := by simp
            clear hx4 hy4
            go_wp2
            go_roundw
            case rel => exact ⟨k + 1, _, HKN.out, by go_num, HT4.out, HTD.out, by rw [← Nat.add_assoc]; exact HOK3.out⟩
            case measure => simp [RowKit.intOf]; have := HKN.out; omega
          · obtain rfl : k = n := by omega
            have hnil : s2.l = [] := by rw [HL2.out, ← HNL.out, List.drop_length]
            have hend := nt_end hnil
            have HTK := Lib.hid (ord_take0 HT2.out HOK2.out (by have := H12.out; omega) 0)
            rw [hend.1, hend.2] at HTK
            have HLE := Lib.hid (fun (W : World) (h : OrdN w g s2 (.slice va k vc) l W) => ord_len h HOK2.out)
            have hl0 : ((s2.l.length : Nat) : Int) = 0 := by rw [hnil]; rfl
            rw [hl0] at HLE
            have hza : Pk.arr Pk.zero = #[.int .i64 0, .string ⟨#[]⟩] := rfl
            simp only [hza] at HTK
            clear hnil hend hl0 hza
            go_upto_region 19 with (go_at_call 17; (with_reducible refine HTK.out.mono ?_); rintro e3 w3 ⟨rfl, ht3⟩; have HT3 := Lib.hid ht3; clear ht3)
            have HT4 := Lib.hid (HT3.out.below (alloc_below w3 (.cells #[.int .i64 0, .string ⟨#[]⟩] 43)))
            generalize w3.alloc (.cells #[.int .i64 0, .string ⟨#[]⟩] 43) = w4 at *
            go_wp2_with (first
              | (go_at_call 15; (with_reducible refine (HLE.out _ HT4.out).mono ?_); rintro e5 w5 ⟨rfl, rfl⟩)
              | (go_at_call 11; (with_reducible refine (HLV.out _).mono ?_); rintro e8 w8 ⟨rfl, hb8⟩))
            go_ret
            exact ⟨rfl, HT4.out.b.trans (hb8.mono HT4.out.b.size)⟩
end Go.Proofs.Ytngfohedddcboaa
