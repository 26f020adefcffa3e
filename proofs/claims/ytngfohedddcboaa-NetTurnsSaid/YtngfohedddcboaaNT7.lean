/-
  Net: a packet's byte turned; Turn of the program.
-/
import Derived.Test.YtngfohedddcboaaNT6
import Derived.Lib.ConvBytes
namespace Go.Proofs.Ytngfohedddcboaa
open Go.RowKit Go Go.Sort Go.Lib Go.Maps
set_option linter.unusedVariables false
set_option maxRecDepth 20000

section
variable {α : Type} {sz : Nat} {arr : α → Array Value} {z : α}
theorem lCells_setN (hs : ∀ c, (arr c).size = sz) (j : Nat) (hj : j < sz) (x : Value) (c' : α) : ∀ (l : List α) (i : Nat), i < l.length → (arr c').toList = (arr (l.getD i z)).toList.set j x → lCells arr (l.set i c') = (lCells arr l).set (i * sz + j) x
  | [], i, hi, _ => by simp at hi
  | c :: r, 0, hi, harr => by
    have h0 : (arr c').toList = (arr c).toList.set j x := harr
    unfold lCells
    rw [List.set_cons_zero, List.flatMap_cons, List.flatMap_cons, h0, Nat.zero_mul, Nat.zero_add, List.set_append_left _ _ (by rw [Array.length_toList, hs]; exact hj)]
  | c :: r, i + 1, hi, harr => by
    have ih := lCells_setN hs j hj x c' r i (by simpa using hi) harr
    unfold lCells at ih ⊢
    rw [List.set_cons_succ, List.flatMap_cons, List.flatMap_cons, ih, List.set_append_right _ _ (by rw [Array.length_toList, hs, Nat.succ_mul]; omega)]
    congr 2
    rw [Array.length_toList, hs, Nat.succ_mul]
    omega
theorem OwnL.storeN {ty : TypeId} {w : World} {B g n cap : Nat} {l : List α} (hs : ∀ c, (arr c).size = sz) (h : OwnL sz ty arr w B (.slice (some ⟨g, 0, none⟩) n cap) l) {i j : Nat} (hi : i < l.length) (hj : j < sz) (x : Value) (c' : α) (harr : (arr c').toList = (arr (l.getD i z)).toList.set j x) :
    OwnL sz ty arr (w.setCell ⟨g, i * sz + j, none⟩ x) B (.slice (some ⟨g, 0, none⟩) n cap) (l.set i c') := by
  obtain ⟨h1, ⟨ev, hn⟩ | ⟨g', cap', cur, ev, hB, hg, hnc, hcm, hcs, htake⟩⟩ := h
  · cases ev
  · injection ev with e1 e2 e3
    injection e1 with e1
    injection e1 with e1
    subst e1 e2 e3
    unfold OwnL
    rw [List.length_set]
    refine ⟨by rw [lCells_length hs, List.length_set], .inr ⟨g, cap, cur.setIfInBounds (i * sz + j) x, rfl, hB, ?_, hnc, hcm, by simpa using hcs, ?_⟩⟩
    · rw [heap_setCell_same w g (i * sz + j) cur ty x hg]
    · rw [lCells_setN hs j hj x c' l i hi harr, ← htake, Array.toList_setIfInBounds, List.take_set]
end
theorem text_sizeN (l : List UInt8) : (text l).size = l.length := by simp [text, ByteArray.size]
/-- A string's bytes in a block of their own, one of which is turned. -/
structure TbN (W : World) (l : List UInt8) (k : Nat) (z : Int) (gc : Nat) (Wb : World) : Prop where
  run : (convert 9 29 (.string (text l))).run Try.prog W = .ok (.slice (some ⟨W.heap.size, 0, none⟩) l.length gc) Wb
  le : l.length ≤ gc
  max : gc ≤ 9223372036854775807
  bl : Below W.heap.size W Wb
  lt : W.heap.size < Wb.heap.size
  cell : Wb.cell? ⟨W.heap.size, k, none⟩ = some (.int .u8 (by8 l k))
  fz : Wb.frozen? ⟨W.heap.size, k, none⟩ = false
  bys : Bys (Wb.setCell ⟨W.heap.size, k, none⟩ (.int .u8 (bits .xor .u8 (by8 l k) z))) (some ⟨W.heap.size, 0, none⟩) l.length gc (l.set k (xorB (l.getD k 0) z))
theorem tbN (W : World) (l : List UInt8) (k : Nat) (hk : k < l.length) (z : Int) (h0 : 0 ≤ z) (h1 : z ≤ 255) (hl : l.length ≤ 1048592) : ∃ gc Wb, TbN W l k z gc Wb := by
  have hsz := text_sizeN l
  have hcv := Lib.run_convert_string_bytes (P := Try.prog) W 9 29 5 (text l) Try.underlying9 Try.underlying29 Try.underlying5
  have hcell : ∀ j, j < l.length → (Lib.bytesWorld W 5 (text l)).cell? ⟨W.heap.size, j, none⟩ = some (.int .u8 (by8 l j)) := fun j hj => by
    have := Lib.bytesWorld_cell W 5 (text l) j (by rw [hsz]; exact hj)
    rw [this]; rfl
  have hnew := Lib.bytesWorld_at_new W 5 (text l)
  have hcs : l.length ≤ (Lib.bytesCells W 5 (text l)).size := by
    unfold Lib.bytesCells
    rw [Array.size_append, Array.size_map]
    have : (text l).data.size = l.length := hsz
    omega
  rw [hsz] at hcv
  refine ⟨_, _, hcv, grownCap_ge W l.length 0 5, by have := grownCap_le_maxLen W l.length 0 5 (by unfold maxLen; omega); unfold maxLen at this; omega, ⟨by unfold Lib.bytesWorld World.freeze; split <;> rfl, by unfold Lib.bytesWorld World.freeze; split <;> rfl, by unfold Lib.bytesWorld World.freeze; split <;> rfl, by rw [Lib.bytesWorld_size]; omega, fun k hk => Lib.bytesWorld_at_old W 5 _ k hk⟩, by rw [Lib.bytesWorld_size]; omega, hcell k hk, ?_, ?_⟩
  · unfold World.frozen?
    rw [hnew]
    simp
    omega
  · refine ⟨by rw [List.length_set], grownCap_ge W l.length 0 5, by have := grownCap_le_maxLen W l.length 0 5 (by unfold maxLen; omega); unfold maxLen at this; omega, .inr ⟨_, 0, rfl, fun i hi => ?_⟩⟩
    rw [Nat.zero_add]
    by_cases e : k = i
    · subst e
      have hc := hcell k hk
      have hs := World.cell?_setCell_same (Lib.bytesWorld W 5 (text l)) ⟨W.heap.size, k, none⟩ (.int .u8 (bits .xor .u8 (by8 l k) z)) hc
      rw [hs]
      have hx : bits .xor .u8 (by8 l k) z = by8 (l.set k (xorB (l.getD k 0) z)) k := by
        unfold by8
        rw [xorB_int _ _ h0 h1]
        congr 2
        rw [List.getD_eq_getElem?_getD, List.getD_eq_getElem?_getD, List.getElem?_set_self hk]
        rfl
      rw [hx]
    · rw [World.cell?_setCell_other _ _ _ _ (by intro h; injection h with h1 h2; exact e h2), hcell i hi]
      congr 2
      unfold by8
      rw [List.getD_eq_getElem?_getD, List.getD_eq_getElem?_getD, List.getElem?_set_ne e]
/-- One packet of a list is another. -/
theorem NtIn.repack {W W3 : World} {ty : TypeId} {g b cap : Nat} {q : Nt} (h : NtIn W ty g (.slice (some ⟨b, 0, none⟩) q.l.length cap) q) {i : Nat} (hi : i < q.l.length) (x : Pk) (hx : x.frm = (q.l.getD i Pk.zero).frm) (hb : ∀ k, nfoot g (.slice (some ⟨b, 0, none⟩) q.l.length cap) k → W3.heap[k]? = W.heap[k]?) : NtIn (W3.setCell ⟨b, i * 2 + 1, none⟩ (.string (text x.s))) ty g (.slice (some ⟨b, 0, none⟩) q.l.length cap) { q with l := q.l.set i x } := by
  have h3 := h.keep hb
  refine ⟨h.ne, ?_, ?_⟩
  · exact (heap_setCell_other W3 ⟨b, i * 2 + 1, none⟩ g _ (Ne.symm (h.off rfl))).trans h3.head
  · have := OwnL.storeN (z := Pk.zero) pk_size h3.list hi (j := 1) (by decide) (.string (text x.s)) x (by simp only [Pk.arr, hx]; rfl)
    exact this
/-- The worlds while a packet is stored. -/
def TurnR (w : World) (b o : Nat) (x : Value) : Nat → World → Prop
  | 0, W => SameN w W
  | _, W => ∃ W3, SameN w W3 ∧ W = W3.setCell ⟨b, o, none⟩ x
theorem TurnR.any {w W : World} {b o : Nat} {x : Value} {k : Nat} (h : TurnR w b o x k W) : TrN (fun j => j = b) w W := by
  cases k with
  | zero => exact TrN.of (SameN.below h)
  | succ k =>
    obtain ⟨W3, hs, rfl⟩ := h
    exact (TrN.of (F := fun j => j = b) hs.below).set (p := ⟨b, o, none⟩) (.inl rfl)
set_option maxRecDepth 100000 in
set_option maxHeartbeats 6400000 in
theorem nturn_c {w : World} {g nn : Nat} {q : Nt} {F : Nat → Prop} (hk : Nk w 56 g q F) (ho : q.Ok nn) (i9 a9 z : Int) (hz0 : 0 ≤ z) (hz1 : z ≤ 255) : Calls Try.prog 19 #[.pointer (some ⟨g, 0, none⟩), .int .i64 i9, .int .i64 a9, .int .u8 z] w (NPost 56 g F (.int .i64 (q.turn i9 a9 z).1) (q.turn i9 a9 z).2 w) := by
  have HLK := Lib.hid (nlook_c hk ho.m0 i9)
  have HK := Lib.hid hk
  have hgl := Nt.get_len ho i9
  have hm1 := ho.m1
  have hml := ho.len
  obtain ⟨v, h, rfl⟩ := hk
  unfold LkPost at HLK
  by_cases hi : q.has i9
  · have he : q.look i9 = (q.get i9, 0) := by unfold Nt.look; rw [if_pos hi]
    rw [he] at HLK
    obtain ⟨b, cap, hv, hle, hcm, hbg, hbt, -⟩ := h.pk hi
    obtain ⟨i, rfl⟩ := Int.eq_ofNat_of_zero_le hi.1
    have hlt : i < q.l.length := by have := hi.2; omega
    have hgd : q.get (i : Int) = q.l.getD i Pk.zero := rfl
    unfold Nt.turn
    rw [if_neg (not_not_intro hi), Int.toNat_natCast]
    obtain ⟨p9, hp9⟩ : ∃ z, q.get (i : Int) = z := ⟨_, rfl⟩
    rw [hp9] at HLK hgl ⊢
    have HGP := Lib.hid hp9
    have HFR := Lib.hid (show ∀ a : Int, (p9.turned a z).frm = (q.l.getD i Pk.zero).frm from fun a => by rw [← hgd, hp9]; rfl)
    obtain ⟨pf, hpf⟩ : ∃ z, p9.frm = z := ⟨_, rfl⟩
    obtain ⟨tp, htp⟩ : ∃ z, text p9.s = z := ⟨_, rfl⟩
    have HPA := Lib.hid (show p9.arr = #[.int .i64 pf, .string tp] from by simp only [Pk.arr, hpf, htp])
    have HTX := Lib.hid (show (Value.int .i64 p9.frm = .int .i64 pf) ∧ (Value.string (text p9.s) = .string tp) from by rw [← hpf, ← htp]; exact ⟨rfl, rfl⟩)
    have HTP := Lib.hid htp
    have hsz := text_sizeN p9.s
    simp only [HPA.out] at HLK
    obtain ⟨n, hn⟩ : ∃ z, q.l.length = z := ⟨_, rfl⟩
    have HLN := Lib.hid hn
    have HIL := Lib.hid hlt
    have HV := Lib.hid (show v = .slice (some ⟨b, 0, none⟩) n cap from by rw [hv, hn])
    have HVL := Lib.hid hv
    have HBG := Lib.hid hbg
    have hin : i < n := by omega
    have hnc : n ≤ cap := by omega
    obtain ⟨pl, hpl⟩ : ∃ z, p9.s.length = z := ⟨_, rfl⟩
    have HPL := Lib.hid hpl
    have HGL := Lib.hid hgl
    rw [hpl] at hsz ⊢
    rw [htp] at hsz
    have hszi : ((tp.size : Nat) : Int) = (pl : Int) := by rw [hsz]
    by_cases hbad : a9 < 0 ∨ ((pl : Nat) : Int) ≤ a9
    · rw [if_pos hbad]
      have HB0 := Lib.hid hbad
      clear hi he hv hp9 hpf htp hn hlt hgd hpl hgl hsz hle hm1 hml h hbg hbt
      by_cases h0 : a9 < 0
      · clear hbad
        go_enter Try.func19, Try.ntmps19
        go_upto_region 2 with (go_at_call 20; (with_reducible refine HLK.out.mono ?_); rintro e1 w1 ⟨rfl, hb1⟩; have HB1 := Lib.hid hb1; clear hb1)
        have HB2 := Lib.hid (HB1.out.trans ((alloc_below w1 (.cells #[.int .i64 pf, .string tp] 43)).mono HB1.out.size))
        have hp1 : PkB (w1.alloc (.cells #[.int .i64 pf, .string tp] 43)) w1.heap.size p9 := by unfold PkB; rw [HPA.out]; exact heap_alloc_new w1 _
        obtain ⟨B, hB⟩ : ∃ z, w1.heap.size = z := ⟨_, rfl⟩
        rw [hB] at hp1 ⊢
        have l0 := hp1.c0
        have l1 := hp1.c1
        rw [HTX.out.1] at l0
        rw [HTX.out.2] at l1
        clear hp1 hB
        generalize w1.alloc (.cells #[.int .i64 pf, .string tp] 43) = w2 at *
        go_wp2
        go_ret
        exact ⟨rfl, _, HK.out.below HB2.out, TrN.of HB2.out, fun k hf => .inl hf⟩
      · have h1 : (pl : Int) ≤ a9 := by omega
        clear hbad
        go_enter Try.func19, Try.ntmps19
        go_upto_region 2 with (go_at_call 20; (with_reducible refine HLK.out.mono ?_); rintro e1 w1 ⟨rfl, hb1⟩; have HB1 := Lib.hid hb1; clear hb1)
        have HB2 := Lib.hid (HB1.out.trans ((alloc_below w1 (.cells #[.int .i64 pf, .string tp] 43)).mono HB1.out.size))
        have hp1 : PkB (w1.alloc (.cells #[.int .i64 pf, .string tp] 43)) w1.heap.size p9 := by unfold PkB; rw [HPA.out]; exact heap_alloc_new w1 _
        obtain ⟨B, hB⟩ : ∃ z, w1.heap.size = z := ⟨_, rfl⟩
        rw [hB] at hp1 ⊢
        have l0 := hp1.c0
        have l1 := hp1.c1
        rw [HTX.out.1] at l0
        rw [HTX.out.2] at l1
        clear hp1 hB
        generalize w1.alloc (.cells #[.int .i64 pf, .string tp] 43) = w2 at *
        go_wp2
        go_ret
        exact ⟨rfl, _, HK.out.below HB2.out, TrN.of HB2.out, fun k hf => .inl hf⟩
    · rw [if_neg hbad]
      obtain ⟨at9, rfl⟩ := Int.eq_ofNat_of_zero_le (show 0 ≤ a9 by omega)
      have hal : at9 < pl := by omega
      have h0 : ¬ ((at9 : Nat) : Int) < 0 := by omega
      have h1 : ¬ (pl : Int) ≤ ((at9 : Nat) : Int) := by omega
      have HZ := Lib.hid (And.intro hz0 hz1)
      clear hi he hv hp9 hpf htp hn hlt hgd hpl hgl hsz hle hm1 hml hbad hbg hbt hz0 hz1
      have HH := Lib.hid h
      clear h
      go_enter Try.func19, Try.ntmps19
      go_upto_region 2 with (go_at_call 20; (with_reducible refine HLK.out.mono ?_); rintro e1 w1 ⟨rfl, hb1⟩; have HB1 := Lib.hid hb1; clear hb1)
      have HB2 := Lib.hid (HB1.out.trans ((alloc_below w1 (.cells #[.int .i64 pf, .string tp] 43)).mono HB1.out.size))
      have hp1 : PkB (w1.alloc (.cells #[.int .i64 pf, .string tp] 43)) w1.heap.size p9 := by unfold PkB; rw [HPA.out]; exact heap_alloc_new w1 _
      obtain ⟨B, hB⟩ : ∃ z, w1.heap.size = z := ⟨_, rfl⟩
      rw [hB] at hp1 ⊢
      have l0 := hp1.c0
      have l1 := hp1.c1
      rw [HTX.out.1] at l0
      rw [HTX.out.2] at l1
      clear hp1 hB
      generalize w1.alloc (.cells #[.int .i64 pf, .string tp] 43) = w2 at *
      go_upto_region 6 with (fail)
      have HN2 := Lib.hid (HH.out.below HB2.out)
      obtain ⟨gc, Wb, htb⟩ := tbN w2 p9.s at9 (by rw [HPL.out]; exact hal) z HZ.out.1 HZ.out.2 HGL.out
      have HTB := Lib.hid htb
      have hrun := htb.run
      rw [HTP.out, HPL.out] at hrun
      have hgc1 := htb.le
      rw [HPL.out] at hgc1
      have hgc2 := htb.max
      obtain ⟨bb, hbb⟩ : ∃ z, w2.heap.size = z := ⟨_, rfl⟩
      have HBBE := Lib.hid hbb
      rw [hbb] at hrun
      have hcell := htb.cell
      have hfz := htb.fz
      rw [hbb] at hcell hfz
      obtain ⟨x8, hx8⟩ : ∃ z, by8 p9.s at9 = z := ⟨_, rfl⟩
      have HX8 := Lib.hid hx8
      rw [hx8] at hcell
      have hac : ((at9 : Nat) : Int) < (gc : Int) := by omega
      have hal2 : ((at9 : Nat) : Int) < (pl : Int) := by omega
      clear htb hbb hx8
      go_upto_region 8 with (fail)
      clear hrun hcell hfz l0 l1
      have hby := HTB.out.bys
      rw [HBBE.out, HX8.out, HPL.out] at hby
      have HBY := Lib.hid hby
      have hb78 : Below w2.heap.size w2 (Wb.setCell ⟨bb, at9, none⟩ (.int .u8 (bits .xor .u8 x8 z))) := HTB.out.bl.setCell (p := ⟨bb, at9, none⟩) (Nat.le_of_eq HBBE.out) _
      have HB8 := Lib.hid (HB2.out.trans (hb78.mono HB2.out.size))
      have HN8' := Lib.hid (HN2.out.below hb78)
      clear hby hb78
      generalize Wb.setCell ⟨bb, at9, none⟩ (.int .u8 (bits .xor .u8 x8 z)) = w8 at *
      have hn8 := HN8'.out
      rw [HVL.out] at hn8
      have HN8 := Lib.hid hn8
      obtain ⟨tq, htq⟩ : ∃ y, text (p9.turned ((at9 : Nat) : Int) z).s = y := ⟨_, rfl⟩
      have HTQ := Lib.hid htq
      have HFR := Lib.hid (HFR.out ((at9 : Nat) : Int))
      have hbbb : bb ≠ b := by
        have h1 := HBBE.out
        have h2 := HB2.out.size
        have h3 := (HH.out.list.lt b (by rw [HV.out]; rfl)).2
        omega
      have HNB := Lib.hid hbbb
      have HC := Lib.hid (fun (W : World) (hW : TrN (fun k => k = b) w8 W) => show W.cell? ⟨g, 1, none⟩ = some (.slice (some ⟨b, 0, none⟩) n cap) ∧ (SameN w8 W → W.cell? ⟨b, i * 2 + 1, none⟩ = some (.string tp) ∧ W.frozen? ⟨b, i * 2 + 1, none⟩ = false) from by
        have hh := hW.heap HN8'.out.head (fun hk => HBG.out hk.symm)
        refine ⟨by rw [cell_of_row W g 1 _ _ (0, 0) hh, ← HV.out]; rfl, fun hs => ?_⟩
        obtain ⟨b', cap', e, -, -, -, ⟨cur, hcur⟩, hat⟩ := HN8'.out.pk (i := (i : Int)) ⟨by omega, by have := HIL.out; omega⟩
        rw [HVL.out] at e
        injection e with e1 e2 e3
        injection e1 with e1
        injection e1 with e1
        subst e1
        have := (hat W hs.below).2
        refine ⟨?_, frozen_of_row W b _ _ _ (by rw [hs.heap]; exact hcur)⟩
        rw [Int.toNat_natCast] at this
        rw [this, HGP.out, HTP.out])
      have HCV := Lib.hid (fun (W : World) (hW : TrN (fun k => k = b) w8 W) => show (convert 29 9 (.slice (some ⟨bb, 0, none⟩) pl gc)).run Try.prog W = .ok (.string tq) W from by
        have hb9 : Bys W (some ⟨bb, 0, none⟩) pl gc (p9.s.set at9 (xorB (p9.s.getD at9 0) z)) := by
          obtain ⟨a1, a2, a3, a4⟩ := HBY.out
          refine ⟨a1, a2, a3, a4.imp id ?_⟩
          rintro ⟨b9, off9, e9, hc9⟩
          injection e9 with e9
          injection e9 with e9 e10
          subst e9
          refine ⟨bb, off9, by rw [e10], fun k hk => ?_⟩
          have h9 := hc9 k hk
          have hlt9 := World.block_lt_of_cell? w8 _ h9
          rw [← h9]
          have hblk := hW.block bb hlt9 (fun e => HNB.out e)
          simp only [World.cell?, hblk]
        rw [← HTQ.out]
        exact conv_bys hb9 Try.underlying29 Try.underlying5 Try.underlying9)
      clear hn8 htq hbbb
      refine wp_region_inv [none, none, none, none, none, none, none, none, none, none, none, none, none, none, none, none, none, none, none, none, none, none, none, none, none, none, none, none, none, none, none, none, none, none, none, none, none, none, none, none, none, none, some 0, some 1, some 2, some 3, some 4, some 5, some 6, some 7, some 8] (fun i => [undef, undef, undef, undef, undef, undef, undef, undef, undef, undef].getD i undef) (fun L xs W => InvQ [9] 10 (RvN [some (.pointer (some ⟨g, 0, none⟩)), some (.pointer (some ⟨g, 0, none⟩)), some (.pointer (some ⟨g, 1, none⟩)), some (.slice (some ⟨b, 0, none⟩) n cap), some (.int .i64 (i : Int)), some (.slice (some ⟨bb, 0, none⟩) pl gc), some (.string tq), some (.pointer (some ⟨b, i * 2, none⟩)), some (.pointer (some ⟨b, i * 2 + 1, none⟩)), none]) (TurnR w8 b (i * 2 + 1) (.string tq)) L xs W ∧ ((L 9 = true → L 6 = true))) (by kernel_rfl) (by kernel_rfl) rfl rfl (fun L hL => ⟨InvQ.start hL (by decide) (by decide) (SameN.drawn _ _), (fun h => by rw [hL 9 (by decide)] at h; cases h)⟩) ?_ ?_
      · simp only [invOps, and_true]
        refine ⟨?_, ?_, ?_, ?_, ?_, ?_, ?_, ?_, ?_, ?_⟩
        · intro L xs W ⟨hI, hE⟩ hL hn
          have hE0 := hE
          simp only [flowAct, List.zipWith_cons_cons, List.zipWith_nil_left]
          go_wp2_with (fail)
          exact ⟨rfl, _, rfl, hI.pure 0 (by decide) (fun _ h => h) (fun x hx => by first | (injection hx with hx) | cases hx), hE0⟩
        · intro L xs W ⟨hI, hE⟩ hL hn
          simp [invNeeds, Region.binds] at hn
          have e0 : xs 0 = .pointer (some ⟨g, 0, none⟩) := hI.val 0 (by decide) (by simp only [hn]) _ rfl
          have hE0 := hE
          simp only [flowAct, List.zipWith_cons_cons, List.zipWith_nil_left]
          simp only [e0]
          go_wp2_with (fail)
          exact ⟨rfl, _, rfl, hI.pure 1 (by decide) (fun _ h => h) (fun x hx => by first | (injection hx with hx) | cases hx), hE0⟩
        · intro L xs W ⟨hI, hE⟩ hL hn
          simp [invNeeds, Region.binds] at hn
          have e1 : xs 1 = .pointer (some ⟨g, 0, none⟩) := hI.val 1 (by decide) (by simp only [hn]) _ rfl
          have hE0 := hE
          simp only [flowAct, List.zipWith_cons_cons, List.zipWith_nil_left]
          simp only [e1]
          go_wp2_with (fail)
          exact ⟨rfl, _, rfl, hI.pure 2 (by decide) (fun _ h => h) (fun x hx => by first | (injection hx with hx) | cases hx), hE0⟩
        · intro L xs W ⟨hI, hE⟩ hL hn
          simp [invNeeds, Region.binds] at hn
          have e2 : xs 2 = .pointer (some ⟨g, 1, none⟩) := hI.val 2 (by decide) (by simp only [hn]) _ rfl
          have hE0 := hE
          have z1 := (HC.out W (hI.any |> fun ⟨k, _, h⟩ => h.any)).1
          simp only [flowAct, List.zipWith_cons_cons, List.zipWith_nil_left]
          simp only [e2]
          go_wp2_with (fail)
          exact ⟨rfl, _, rfl, hI.pure 3 (by decide) (fun _ h => h) (fun x hx => by first | (injection hx with hx) | cases hx), hE0⟩
        · intro L xs W ⟨hI, hE⟩ hL hn
          have hE0 := hE
          simp only [flowAct, List.zipWith_cons_cons, List.zipWith_nil_left]
          go_wp2_with (fail)
          exact ⟨rfl, _, rfl, hI.pure 4 (by decide) (fun _ h => h) (fun x hx => by first | (injection hx with hx) | cases hx), hE0⟩
        · intro L xs W ⟨hI, hE⟩ hL hn
          have hE0 := hE
          simp only [flowAct, List.zipWith_cons_cons, List.zipWith_nil_left]
          go_wp2_with (fail)
          exact ⟨rfl, _, rfl, hI.pure 5 (by decide) (fun _ h => h) (fun x hx => by first | (injection hx with hx) | cases hx), hE0⟩
        · intro L xs W ⟨hI, hE⟩ hL hn
          simp [invNeeds, Region.binds] at hn
          have e5 : xs 5 = .slice (some ⟨bb, 0, none⟩) pl gc := hI.val 5 (by decide) (by simp only [hn]) _ rfl
          have hE0 := hE
          have Lb0 : L 9 = false := by
            cases h : L 9 with
            | false => rfl
            | true => have := hE0 h; rw [hL] at this; cases this
          obtain ⟨k9, hk9, hr9⟩ := hI.any
          have cv := HCV.out W hr9.any
          clear hr9
          simp only [flowAct, List.zipWith_cons_cons, List.zipWith_nil_left]
          simp only [e5]
          go_wp2_with (fail)
          exact ⟨rfl, _, rfl, hI.pure 6 (by decide) (fun _ h => h) (fun x hx => by first | (injection hx with hx) | cases hx), (fun _ => by simp)⟩
        · intro L xs W ⟨hI, hE⟩ hL hn
          simp [invNeeds, Region.binds] at hn
          have e3 : xs 3 = .slice (some ⟨b, 0, none⟩) n cap := hI.val 3 (by decide) (by simp only [hn]) _ rfl
          have e4 : xs 4 = .int .i64 (i : Int) := hI.val 4 (by decide) (by simp only [hn]) _ rfl
          have hE0 := hE
          simp only [flowAct, List.zipWith_cons_cons, List.zipWith_nil_left]
          simp only [e3, e4]
          go_wp2_with (fail)
          exact ⟨rfl, _, rfl, hI.pure 7 (by decide) (fun _ h => h) (fun x hx => by first | (injection hx with hx) | cases hx), hE0⟩
        · intro L xs W ⟨hI, hE⟩ hL hn
          simp [invNeeds, Region.binds] at hn
          have e7 : xs 7 = .pointer (some ⟨b, i * 2, none⟩) := hI.val 7 (by decide) (by simp only [hn]) _ rfl
          have hE0 := hE
          simp only [flowAct, List.zipWith_cons_cons, List.zipWith_nil_left]
          simp only [e7]
          go_wp2_with (fail)
          exact ⟨rfl, _, rfl, hI.pure 8 (by decide) (fun _ h => h) (fun x hx => by first | (injection hx with hx) | cases hx), hE0⟩
        · intro L xs W ⟨hI, hE⟩ hL hn
          simp [invNeeds, Region.binds] at hn
          have e8 : xs 8 = .pointer (some ⟨b, i * 2 + 1, none⟩) := hI.val 8 (by decide) (by simp only [hn]) _ rfl
          have e6 : xs 6 = .string tq := hI.val 6 (by decide) (by simp only [hn]) _ rfl
          have hr := hI.at 0 rfl hL (fun p hp => absurd hp.1 (by omega))
          have hE0 := hE
          have Li0 : L 6 = true := by simp only [hn]
          have HR := Lib.hid hr
          obtain ⟨z2, z3⟩ := (HC.out W (TrN.of (SameN.below hr))).2 hr
          clear hr
          simp only [flowAct, List.zipWith_cons_cons, List.zipWith_nil_left]
          simp only [e8, e6]
          go_wp2_with (fail)
          exact ⟨rfl, undef, rfl, hI.step 0 rfl hL (fun p hp => absurd hp.1 (by omega)) (by decide) (⟨W, HR.out, rfl⟩) (fun x hx => by first | (injection hx with hx) | cases hx), (fun _ => by simpa using Li0)⟩
      · intro L xs W ⟨hI, hE⟩ hL
        have hdone := (hI.done hL (by decide) (by decide)).1
        obtain ⟨W3, hs3, rfl⟩ : ∃ W3, SameN w8 W3 ∧ W = W3.setCell ⟨b, i * 2 + 1, none⟩ (.string tq) := hdone
        have hrp := HN8.out.repack HIL.out (p9.turned ((at9 : Nat) : Int) z) HFR.out (W3 := W3) (fun k hk => by rw [hs3.heap])
        rw [HLN.out, HTQ.out] at hrp
        have HRP := Lib.hid hrp
        have HT := Lib.hid ((TrN.of (F := fun k => k = b) hs3.below).set (p := ⟨b, i * 2 + 1, none⟩) (v := .string tq) (.inl rfl))
        clear hrp hs3 hI hE hL
        simp only [flowAct, List.zipWith_cons_cons, List.zipWith_nil_left]
        generalize W3.setCell ⟨b, i * 2 + 1, none⟩ (.string tq) = W5 at *
        go_wp2
        go_ret
        refine ⟨rfl, _, ⟨_, HRP.out, rfl⟩, ?_, fun k hk => .inl (by rw [HV.out]; exact hk)⟩
        exact (TrN.of HB8.out).trans HT.out (fun k hk => .inl (.inr (by rw [HV.out, hk]; rfl)))
  · have he : q.look i9 = (Pk.zero, 211) := by unfold Nt.look; rw [if_neg hi]
    have he2 : q.turn i9 a9 z = (211, q) := by unfold Nt.turn; rw [if_pos hi]
    rw [he] at HLK
    rw [he2]
    have hza : Pk.arr Pk.zero = #[.int .i64 0, .string ⟨#[]⟩] := rfl
    simp only [hza] at HLK
    clear h hi he he2 hza hgl hm1 hml
    go_enter Try.func19, Try.ntmps19
    go_wp2_with (go_at_call 20; (with_reducible refine HLK.out.mono ?_); rintro e1 w1 ⟨rfl, hb1⟩; have HB1 := Lib.hid hb1; clear hb1)
    go_ret
    have hb2 := HB1.out.trans ((alloc_below w1 (.cells #[.int .i64 0, .string ⟨#[]⟩] 43)).mono HB1.out.size)
    exact ⟨rfl, _, HK.out.below hb2, TrN.of hb2, fun k hf => .inl hf⟩
end Go.Proofs.Ytngfohedddcboaa
